/- contract: the program's list told from a corner, to either side -/
import Derived.Test.YtmbogkcdelfjlaaLa
import Derived.Laws.MakeOwn
import Derived.StillTailTactics
namespace Go.Proofs.Ytmbogkcdelfjlaa
open Go.ChangeShapes Go.WideShapes Go.ChangeAt Go.RowKit Go.Joins
set_option linter.unusedVariables false
set_option linter.unusedSimpArgs false
set_option maxRecDepth 4000
theorem retP_set {w w' : World} {n : Nat} {f : Nat → Int × Int} (h : Set w' w.heap.size n n (firsts f n)) (hb : Below w.heap.size w w') (hn : n ≤ 1048576) : RetP w (firsts f n) (.returned (.slice (some ⟨w.heap.size, 0, none⟩) n n)) w' := by
  refine ⟨some ⟨w.heap.size, 0, none⟩, n, by rw [firsts_len], by rw [firsts_len]; exact Nat.le_refl _, by unfold maxLen; omega, hb, ?_⟩
  have h' : Set w' w.heap.size (firsts f n).length (firsts f n).length (firsts f n) := by rw [firsts_len]; exact h
  exact rw_more (rw_of_set h') (Nat.le_refl _) (by have := h.1; omega)
end Go.Proofs.Ytmbogkcdelfjlaa
