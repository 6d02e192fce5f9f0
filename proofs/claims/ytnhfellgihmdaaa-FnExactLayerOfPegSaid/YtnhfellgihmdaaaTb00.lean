/- contracts: differences of points, squares -/
import Derived.Test.YtnhfellgihmdaaaRt
namespace Go.Proofs.Ytnhfellgihmdaaa
open Go.ChangeShapes Go.WideShapes Go.ChangeAt Go.RowKit Go.Joins
set_option linter.unusedVariables false
set_option linter.unusedSimpArgs false
set_option maxRecDepth 4000
/-- numbers that leave room -/
def Mid (x : Int) : Prop := -1000000000000 ≤ x ∧ x ≤ 1000000000000
theorem minus_any (a1 a2 b1 b2 : Int) (w : World) (h1 : Mid a1) (h2 : Mid a2) (h3 : Mid b1) (h4 : Mid b2) :
    Calls Try.prog 73 #[.agg #[.int .i64 a1, .int .i64 a2], .agg #[.int .i64 b1, .int .i64 b2]] w fun e w' => e = .returned (.agg #[.int .i64 (a1 - b1), .int .i64 (a2 - b2)]) ∧ Below w.heap.size w w' := by
  obtain ⟨x1, x2⟩ := h1
  obtain ⟨x3, x4⟩ := h2
  obtain ⟨x5, x6⟩ := h3
  obtain ⟨x7, x8⟩ := h4
  go_enter Try.func73, Try.ntmps73
  go_wp2
  refine bodyPost_ret (v := .agg #[.int .i64 (a1 - b1), .int .i64 (a2 - b2)]) (by simp [results, Try.results73, go_sem]) rfl ⟨rfl, ?_⟩
  repeat (first | with_reducible assumption | with_reducible exact Below.refl _ _ | with_reducible apply Below.drew | ((with_reducible refine Below.setCell ?_ ?_ _); rotate_left; (first | exact Nat.le_refl _ | omega | (simp <;> omega))) | ((with_reducible refine Below.alloc ?_ ?_ _); rotate_left; (first | omega | (simp <;> omega))))
theorem sq_bd {x : Int} (h : -100000000 ≤ x ∧ x ≤ 100000000) : 0 ≤ x * x ∧ x * x ≤ 10000000000000000 := by
  have h1 := mul_bd (x := x) (y := x) (m := 100000000) (n := 100000000) (by omega) (by omega) (by omega) (by omega)
  refine ⟨?_, by omega⟩
  rcases Int.le_total 0 x with h | h
  · exact Int.mul_nonneg h h
  · have := Int.mul_nonneg (show 0 ≤ -x by omega) (show 0 ≤ -x by omega)
    rwa [Int.neg_mul_neg] at this
theorem square_any (a1 a2 : Int) (w : World) (h1 : -100000000 ≤ a1 ∧ a1 ≤ 100000000) (h2 : -100000000 ≤ a2 ∧ a2 ≤ 100000000) :
    Calls Try.prog 74 #[.agg #[.int .i64 a1, .int .i64 a2]] w fun e w' => e = .returned (.int .i64 (a1 * a1 + a2 * a2)) ∧ Below w.heap.size w w' := by
  obtain ⟨x1, x2⟩ := sq_bd h1
  obtain ⟨x3, x4⟩ := sq_bd h2
  go_enter Try.func74, Try.ntmps74
  go_wp2
  go_ret
  exact ⟨rfl, (by repeat (first | exact Below.refl _ _ | assumption | apply Below.drew | refine Below.alloc ?_ (by simp <;> omega) _))⟩
end Go.Proofs.Ytnhfellgihmdaaa
