/- contract: the sign of a number -/
import Derived.Test.YtheddoinnakneaaE
namespace Go.Proofs.Ytheddoinnakneaa
open Go.ChangeShapes Go.WideShapes Go.ChangeAt Go.RowKit Go.Joins
set_option linter.unusedVariables false
set_option linter.unusedSimpArgs false
set_option maxRecDepth 4000
theorem l1Sign_any (n : Int) (w : World) :
    Calls Try.prog 122 #[.int .i64 n] w fun e w' => e = .returned (.int .i64 (sgn n)) ∧ w = w' := by
  have s1 : 0 < n → sgn n = 1 := fun h => by unfold sgn; rw [if_pos h]
  have s2 : n < 0 → sgn n = -1 := fun h => by unfold sgn; rw [if_neg (by omega), if_pos h]
  have s3 : n = 0 → sgn n = 0 := fun h => by unfold sgn; rw [if_neg (by omega), if_neg (by omega)]
  have S1 := Lib.hid s1
  have S2 := Lib.hid s2
  have S3 := Lib.hid s3
  clear s1 s2 s3
  rcases Int.lt_trichotomy n 0 with h | h | h
  all_goals
    go_enter Try.func122, Try.ntmps122
    go_wp2
    go_ret
    exact ⟨ret_int (by first | (rw [S1.out (by omega)]; done) | (rw [S2.out (by omega)]; done) | (rw [S3.out (by omega)]; done)), rfl⟩
end Go.Proofs.Ytheddoinnakneaa
