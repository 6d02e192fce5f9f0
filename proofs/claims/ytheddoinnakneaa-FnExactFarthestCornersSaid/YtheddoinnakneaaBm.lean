/- contract: the program goes from corner to corner around the pegs -/
import Derived.Test.YtheddoinnakneaaBm0
import Derived.Test.YtheddoinnakneaaBl
import Derived.Maps.AppendAt
namespace Go.Proofs.Ytheddoinnakneaa
open Go.ChangeShapes Go.WideShapes Go.ChangeAt Go.RowKit Go.Joins
set_option linter.unusedVariables false
set_option linter.unusedSimpArgs false
set_option maxRecDepth 4000
end Go.Proofs.Ytheddoinnakneaa
