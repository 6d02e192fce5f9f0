/- contracts: points added, and taken several times -/
import Derived.Test.YtchdpcndhgjkpaaTb01
namespace Go.Proofs.Ytchdpcndhgjkpaa
open Go.ChangeShapes Go.WideShapes Go.ChangeAt Go.RowKit Go.Joins
set_option linter.unusedVariables false
set_option linter.unusedSimpArgs false
set_option maxRecDepth 4000
theorem times_any (a1 a2 n : Int) (w : World) (h1 : -1000000000000000 ≤ a1 * n ∧ a1 * n ≤ 1000000000000000) (h2 : -1000000000000000 ≤ a2 * n ∧ a2 * n ≤ 1000000000000000) :
    Calls Try.prog 84 #[.agg #[.int .i64 a1, .int .i64 a2], .int .i64 n] w fun e w' => e = .returned (.agg #[.int .i64 (a1 * n), .int .i64 (a2 * n)]) ∧ Below w.heap.size w w' := by
  obtain ⟨x1, x2⟩ := h1
  obtain ⟨x3, x4⟩ := h2
  go_enter Try.func84, Try.ntmps84
  go_wp2
  refine bodyPost_ret (v := .agg #[.int .i64 (a1 * n), .int .i64 (a2 * n)]) (by simp [results, Try.results84, go_sem]) rfl ⟨rfl, ?_⟩
  repeat (first | with_reducible assumption | with_reducible exact Below.refl _ _ | with_reducible apply Below.drew | ((with_reducible refine Below.setCell ?_ ?_ _); rotate_left; (first | exact Nat.le_refl _ | omega | (simp <;> omega))) | ((with_reducible refine Below.alloc ?_ ?_ _); rotate_left; (first | omega | (simp <;> omega))))
end Go.Proofs.Ytchdpcndhgjkpaa
