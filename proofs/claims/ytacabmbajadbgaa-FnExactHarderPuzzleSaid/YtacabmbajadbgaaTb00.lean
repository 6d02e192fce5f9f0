/- contracts: squares -/
import Derived.Test.YtacabmbajadbgaaTb01
namespace Go.Proofs.Ytacabmbajadbgaa
open Go.ChangeShapes Go.WideShapes Go.ChangeAt Go.RowKit Go.Joins
set_option linter.unusedVariables false
set_option linter.unusedSimpArgs false
set_option maxRecDepth 4000
theorem sq_bd {x : Int} (h : -100000000 ≤ x ∧ x ≤ 100000000) : 0 ≤ x * x ∧ x * x ≤ 10000000000000000 := by
  have h1 := mul_bd (x := x) (y := x) (m := 100000000) (n := 100000000) (by omega) (by omega) (by omega) (by omega)
  refine ⟨?_, by omega⟩
  rcases Int.le_total 0 x with h | h
  · exact Int.mul_nonneg h h
  · have := Int.mul_nonneg (show 0 ≤ -x by omega) (show 0 ≤ -x by omega)
    rwa [Int.neg_mul_neg] at this
theorem square_any (a1 a2 : Int) (w : World) (h1 : -100000000 ≤ a1 ∧ a1 ≤ 100000000) (h2 : -100000000 ≤ a2 ∧ a2 ≤ 100000000) :
    Calls Try.prog 103 #[.agg #[.int .i64 a1, .int .i64 a2]] w fun e w' => e = .returned (.int .i64 (a1 * a1 + a2 * a2)) ∧ Below w.heap.size w w' := by
  obtain ⟨x1, x2⟩ := sq_bd h1
  obtain ⟨x3, x4⟩ := sq_bd h2
  go_enter Try.func103, Try.ntmps103
  go_wp2
  go_ret
  exact ⟨rfl, (by repeat (first | exact Below.refl _ _ | assumption | apply Below.drew | refine Below.alloc ?_ (by simp <;> omega) _))⟩
end Go.Proofs.Ytacabmbajadbgaa
