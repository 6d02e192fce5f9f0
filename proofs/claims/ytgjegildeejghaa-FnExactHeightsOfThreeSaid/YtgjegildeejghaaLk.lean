/- contract: the model's list told backwards -/
import Derived.Test.YtgjegildeejghaaLa
namespace Go.Proofs.Ytgjegildeejghaa
open Go.ChangeShapes Go.WideShapes Go.ChangeAt Go.RowKit Go.Joins
set_option linter.unusedVariables false
set_option linter.unusedSimpArgs false
set_option maxRecDepth 4000
/-- corner number n - i: told backwards from the same corner -/
def backF (l : List (Int × Int)) (i : Nat) : Int × Int := vx l (l.length - i)
end Go.Proofs.Ytgjegildeejghaa
