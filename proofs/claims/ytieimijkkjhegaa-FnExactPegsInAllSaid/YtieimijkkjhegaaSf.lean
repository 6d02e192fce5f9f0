/- contracts: the model's PegsOn -/
import Derived.Test.YtieimijkkjhegaaSp
import Derived.Test.YtieimijkkjhegaaQg
import Derived.Test.YtieimijkkjhegaaSb
namespace Go.Proofs.Ytieimijkkjhegaa
open Go.ChangeShapes Go.WideShapes Go.ChangeAt Go.RowKit Go.Joins
set_option linter.unusedVariables false
set_option linter.unusedSimpArgs false
set_option maxRecDepth 4000
end Go.Proofs.Ytieimijkkjhegaa
