/- contract: comparing two numbers -/
import Derived.Test.YtheddoinnakneaaRt
namespace Go.Proofs.Ytheddoinnakneaa
open Go.ChangeShapes Go.WideShapes Go.ChangeAt Go.RowKit Go.Joins
set_option linter.unusedVariables false
set_option linter.unusedSimpArgs false
set_option maxRecDepth 4000
theorem isNaN_any (a : Int) (w : World) : Calls Try.prog 153 #[.int .i64 a] w fun e w' => e = .returned (.bool false) ∧ w = w' := by
  go_enter Try.func153, Try.ntmps153
  go_wp2
  go_ret
  exact ⟨by simp, rfl⟩
/-- a number's sign -/
def sgI (x : Int) : Int := if 0 < x then 1 else if x < 0 then -1 else 0
theorem compare_any (a b : Int) (w : World) : Calls Try.prog 133 #[.int .i64 a, .int .i64 b] w fun e w' => e = .returned (.int .i64 (sgI (a - b))) ∧ w = w' := by
  have K1 := Lib.hid (fun W => isNaN_any a W)
  have K2 := Lib.hid (fun W => isNaN_any b W)
  rcases Int.lt_trichotomy a b with h | h | h
  · have e : sgI (a - b) = -1 := by unfold sgI; rw [if_neg (by omega), if_pos (by omega)]
    rw [e]
    go_enter Try.func133, Try.ntmps133
    go_wp2_with fail
    refine (K1.out _).mono ?_; rintro e _ ⟨rfl, rfl⟩
    go_wp2_with fail
    refine (K2.out _).mono ?_; rintro e _ ⟨rfl, rfl⟩
    go_wp2_with fail
    go_ret
    exact ⟨rfl, rfl⟩
  · subst h
    have e : sgI (a - a) = 0 := by unfold sgI; rw [if_neg (by omega), if_neg (by omega)]
    rw [e]
    go_enter Try.func133, Try.ntmps133
    go_wp2_with fail
    refine (K1.out _).mono ?_; rintro e _ ⟨rfl, rfl⟩
    go_wp2_with fail
    refine (K2.out _).mono ?_; rintro e _ ⟨rfl, rfl⟩
    go_wp2_with fail
    go_ret
    exact ⟨rfl, rfl⟩
  · have e : sgI (a - b) = 1 := by unfold sgI; rw [if_pos (by omega)]
    have h2 : ¬ a < b := by omega
    rw [e]
    go_enter Try.func133, Try.ntmps133
    go_wp2_with fail
    refine (K1.out _).mono ?_; rintro e _ ⟨rfl, rfl⟩
    go_wp2_with fail
    refine (K2.out _).mono ?_; rintro e _ ⟨rfl, rfl⟩
    go_wp2_with fail
    go_ret
    exact ⟨rfl, rfl⟩
end Go.Proofs.Ytheddoinnakneaa
