/- how many steps a line has -/
import Derived.Test.YtacabmbajadbgaaI
namespace Go.Proofs.Ytacabmbajadbgaa
open Go.ChangeShapes Go.WideShapes Go.ChangeAt Go.RowKit Go.Joins
set_option linter.unusedVariables false
set_option linter.unusedSimpArgs false
set_option maxRecDepth 4000
/-- the number of steps of a line -/
def stepN (a1 a2 b1 b2 : Int) : Int := ((Nat.gcd (a1 - b1).natAbs (a2 - b2).natAbs : Nat) : Int)
theorem stepN_bd {a1 a2 b1 b2 : Int} (ha : isPegB a1 a2 = true) (hb : isPegB b1 b2 = true) : 0 ≤ stepN a1 a2 b1 b2 ∧ stepN a1 a2 b1 b2 ≤ 160 := by
  unfold isPegB at *
  simp at ha hb
  unfold stepN
  rcases Nat.eq_zero_or_pos (a1 - b1).natAbs with h | h
  · rw [h, Nat.gcd_zero_left]; omega
  · have := Nat.le_of_dvd h (Nat.gcd_dvd_left (a1 - b1).natAbs (a2 - b2).natAbs); omega
end Go.Proofs.Ytacabmbajadbgaa
