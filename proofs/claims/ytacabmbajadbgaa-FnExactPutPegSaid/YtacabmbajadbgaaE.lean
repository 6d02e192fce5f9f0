/- contracts: lines between pegs, points on them, lines that meet -/
import Derived.Test.YtacabmbajadbgaaL
import Derived.Lib.Hide
namespace Go.Proofs.Ytacabmbajadbgaa
open Go.ChangeShapes Go.WideShapes Go.ChangeAt Go.RowKit Go.Joins
set_option linter.unusedVariables false
set_option linter.unusedSimpArgs false
set_option maxRecDepth 4000
/-- the sign of a number -/
def sgn (n : Int) : Int := if 0 < n then 1 else if n < 0 then -1 else 0
/-- a point on the line between two -/
def onB (a1 a2 b1 b2 p1 p2 : Int) : Bool := decide (twI a1 a2 b1 b2 p1 p2 = 0) && decide ((a1 - p1) * (b1 - p1) ≤ 0) && decide ((a2 - p2) * (b2 - p2) ≤ 0)
end Go.Proofs.Ytacabmbajadbgaa
