/- contract: the program's corners brought elsewhere by a function value -/
import Derived.Test.YtjkfdcjfoliboaaLc
namespace Go.Proofs.Ytjkfdcjfoliboaa
open Go.ChangeShapes Go.WideShapes Go.ChangeAt Go.RowKit Go.Joins
set_option linter.unusedVariables false
set_option linter.unusedSimpArgs false
set_option maxRecDepth 4000
theorem retL_of_set {w w' W : World} {n g : Nat} {f : Nat → Int × Int} (h : Set w' g n n (firsts f n)) (hb : Below w.heap.size w w') (hn : n ≤ 1048576) (hg : w.heap.size ≤ g) :
    RetL w (firsts f n) true (.returned (.tuple #[.slice (some ⟨g, 0, none⟩) n n, .bool true])) w' := by
  refine ⟨some ⟨g, 0, none⟩, n, by rw [firsts_len], by rw [firsts_len]; exact Nat.le_refl _, by unfold maxLen; omega, hb, ?_⟩
  have h' : Set w' g (firsts f n).length (firsts f n).length (firsts f n) := by rw [firsts_len]; exact h
  exact rw_more (rw_of_set h') hg (by have := h.1; omega)
end Go.Proofs.Ytjkfdcjfoliboaa
