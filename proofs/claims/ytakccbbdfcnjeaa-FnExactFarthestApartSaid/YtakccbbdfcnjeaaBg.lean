/- contract: the band, the model -/
import Derived.Test.YtakccbbdfcnjeaaBf
import Derived.Test.YtakccbbdfcnjeaaBi
namespace Go.Proofs.Ytakccbbdfcnjeaa
open Go.ChangeShapes Go.WideShapes Go.ChangeAt Go.RowKit Go.Joins
set_option linter.unusedVariables false
set_option linter.unusedSimpArgs false
set_option maxRecDepth 4000
end Go.Proofs.Ytakccbbdfcnjeaa
