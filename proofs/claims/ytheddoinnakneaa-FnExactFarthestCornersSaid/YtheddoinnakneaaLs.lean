/- a list or none -/
import Derived.Test.YtheddoinnakneaaLa
namespace Go.Proofs.Ytheddoinnakneaa
open Go.ChangeShapes Go.WideShapes Go.ChangeAt Go.RowKit Go.Joins
set_option linter.unusedVariables false
set_option linter.unusedSimpArgs false
set_option maxRecDepth 4000
def sel (b : Bool) (m : List (Int × Int)) : List (Int × Int) := if b = true then m else []
end Go.Proofs.Ytheddoinnakneaa
