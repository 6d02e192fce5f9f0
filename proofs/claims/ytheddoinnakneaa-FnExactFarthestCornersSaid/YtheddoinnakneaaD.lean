/- contracts: a point of the laws' package made one of the program's; IsPeg on both sides -/
import Derived.Test.YtheddoinnakneaaC
namespace Go.Proofs.Ytheddoinnakneaa
open Go.ChangeShapes Go.WideShapes Go.ChangeAt Go.RowKit Go.Joins
set_option linter.unusedVariables false
set_option linter.unusedSimpArgs false
set_option maxRecDepth 4000
theorem toPeg_any (a1 a2 : Int) (w : World) :
    Calls Try.prog 54 #[.agg #[.int .i64 a1, .int .i64 a2]] w fun e w' => e = .returned (.agg #[.int .i64 a1, .int .i64 a2]) ∧ Below w.heap.size w w' := by
  go_enter Try.func54, Try.ntmps54
  go_wp2
  exact bodyPost_ret (v := .agg #[.int .i64 a1, .int .i64 a2]) (by simp [results, Try.results54, go_sem]) rfl ⟨rfl, (by repeat (first | exact Below.refl _ _ | assumption | apply Below.drew | refine Below.alloc ?_ (by simp <;> omega) _))⟩
theorem implIsPeg_any (x1 x2 : Int) (w : World) :
    Calls Try.prog 123 #[.agg #[.int .i64 x1, .int .i64 x2]] w fun e w' => e = .returned (.bool (isPegB x1 x2)) ∧ Below w.heap.size w w' := by
  by_cases h1 : (decide (-40 ≤ x1) && decide (x1 ≤ 40)) = true
  all_goals
    go_enter Try.func123, Try.ntmps123
    go_wp2_with (go_at_call 111; refine (isOfSize_any _ _ _ (by omega) (by omega)).mono ?_; rintro e w' ⟨rfl, rfl⟩)
    go_ret
    exact ⟨by simp [isPegB, h1], (by repeat (first | exact Below.refl _ _ | assumption | apply Below.drew | refine Below.alloc ?_ (by simp <;> omega) _))⟩
end Go.Proofs.Ytheddoinnakneaa
