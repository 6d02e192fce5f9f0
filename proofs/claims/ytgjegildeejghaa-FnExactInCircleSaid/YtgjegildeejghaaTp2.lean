/- contracts: comparing two numbers; the greater one -/
import Derived.Test.YtgjegildeejghaaM
import Derived.Test.YtgjegildeejghaaTp20
namespace Go.Proofs.Ytgjegildeejghaa
open Go.ChangeShapes Go.WideShapes Go.ChangeAt Go.RowKit Go.Joins
set_option linter.unusedVariables false
set_option linter.unusedSimpArgs false
set_option maxRecDepth 4000
theorem l1Sign_sg (x : Int) (w : World) : Calls Try.prog 66 #[.int .i64 x] w fun e w' => e = .returned (.int .i64 (sgI x)) ∧ w = w' := by
  rcases Int.lt_trichotomy x 0 with h | h | h
  · have e : sgI x = -1 := by unfold sgI; rw [if_neg (by omega), if_pos h]
    have h2 : ¬ 0 < x := by omega
    rw [e]
    go_enter Try.func66, Try.ntmps66
    go_wp2
    go_ret
    exact ⟨rfl, rfl⟩
  · subst h
    go_enter Try.func66, Try.ntmps66
    go_wp2
    go_ret
    exact ⟨rfl, rfl⟩
  · have e : sgI x = 1 := by unfold sgI; rw [if_pos h]
    rw [e]
    go_enter Try.func66, Try.ntmps66
    go_wp2
    go_ret
    exact ⟨rfl, rfl⟩
end Go.Proofs.Ytgjegildeejghaa
