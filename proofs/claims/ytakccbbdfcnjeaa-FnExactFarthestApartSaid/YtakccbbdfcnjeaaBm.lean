/- contract: the program goes from corner to corner around the pegs -/
import Derived.Test.YtakccbbdfcnjeaaBm0
import Derived.Test.YtakccbbdfcnjeaaBl
import Derived.Maps.AppendAt
namespace Go.Proofs.Ytakccbbdfcnjeaa
open Go.ChangeShapes Go.WideShapes Go.ChangeAt Go.RowKit Go.Joins
set_option linter.unusedVariables false
set_option linter.unusedSimpArgs false
set_option maxRecDepth 4000
end Go.Proofs.Ytakccbbdfcnjeaa
