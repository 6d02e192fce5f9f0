/- contracts of the small functions over pegs -/
import Derived.Test.YtheddoinnakneaaA
import Derived.Below
namespace Go.Proofs.Ytheddoinnakneaa
open Go.ChangeShapes Go.WideShapes Go.ChangeAt Go.RowKit Go.Joins
set_option linter.unusedVariables false
theorem bcell {W w1 : World} (hb : Below W.heap.size W w1) : (∀ b o, b < W.heap.size → w1.cell? ⟨b, o, none⟩ = W.cell? ⟨b, o, none⟩) ∧ (∀ b o, b < W.heap.size → w1.frozen? ⟨b, o, none⟩ = W.frozen? ⟨b, o, none⟩) :=
  ⟨fun b o h => hb.cell (p := ⟨b, o, none⟩) h, fun b o h => hb.frozen (p := ⟨b, o, none⟩) h⟩
/-- a peg's two numbers are of size 40 at most -/
def isPegB (x y : Int) : Bool := decide (-40 ≤ x) && decide (x ≤ 40) && (decide (-40 ≤ y) && decide (y ≤ 40))
theorem pgIs_any (x y : Int) (w : World) :
    Calls Try.prog 83 #[.agg #[.int .i64 x, .int .i64 y]] w fun e w' => e = .returned (.bool (isPegB x y)) ∧ Below w.heap.size w w' := by
  by_cases h1 : (decide (-40 ≤ x) && decide (x ≤ 40)) = true
  all_goals
    go_enter Try.func83, Try.ntmps83
    go_wp2_with (go_at_call 58; refine (l1In_any _ _ _ _).mono ?_; rintro e w' ⟨rfl, rfl⟩)
    go_ret
    exact ⟨by simp [isPegB, h1], by repeat (first | exact Below.refl _ _ | apply Below.drew | (apply Below.alloc; rotate_left; simp))⟩
end Go.Proofs.Ytheddoinnakneaa
