/- contract: the first of some points, by the library -/
import Derived.Test.YtheddoinnakneaaBk
import Derived.Test.YtheddoinnakneaaBb
namespace Go.Proofs.Ytheddoinnakneaa
open Go.ChangeShapes Go.WideShapes Go.ChangeAt Go.RowKit Go.Joins
set_option linter.unusedVariables false
set_option linter.unusedSimpArgs false
set_option maxRecDepth 4000
/-- how memory stands while the least point is sought: the result, the least one till now -/
structure MnS (w W : World) (n1 n2 : Int) : Prop where
  bel : Below w.heap.size w W
  size : w.heap.size + 1 < W.heap.size
  c40 : ∃ u, W.cell? ⟨w.heap.size, 0, none⟩ = some u
  c41 : ∃ u, W.cell? ⟨w.heap.size, 1, none⟩ = some u
  c50 : W.cell? ⟨w.heap.size + 1, 0, none⟩ = some (.int .i64 n1)
  c51 : W.cell? ⟨w.heap.size + 1, 1, none⟩ = some (.int .i64 n2)
  f4 : ∀ o, W.frozen? ⟨w.heap.size, o, none⟩ = false
  f5 : ∀ o, W.frozen? ⟨w.heap.size + 1, o, none⟩ = false
theorem MnS.up {w W W' : World} {n1 n2 : Int} (h : MnS w W n1 n2) (hb : Below W.heap.size W W') : MnS w W' n1 n2 := by
  obtain ⟨hc, hf⟩ := bcell hb
  have hz := h.size
  obtain ⟨u, hu⟩ := h.c40
  obtain ⟨v, hv⟩ := h.c41
  exact ⟨h.bel.trans (hb.mono h.bel.size), Nat.lt_of_lt_of_le hz hb.size, ⟨u, (hc _ _ (by omega)).trans hu⟩, ⟨v, (hc _ _ (by omega)).trans hv⟩, (hc _ _ (by omega)).trans h.c50, (hc _ _ (by omega)).trans h.c51, fun o => (hf _ _ (by omega)).trans (h.f4 o), fun o => (hf _ _ (by omega)).trans (h.f5 o)⟩
theorem MnS.store {w W : World} {n1 n2 : Int} (h : MnS w W n1 n2) (p1 p2 : Int) : MnS w ((W.setCell ⟨w.heap.size + 1, 0, none⟩ (.int .i64 p1)).setCell ⟨w.heap.size + 1, 1, none⟩ (.int .i64 p2)) p1 p2 := by
  have ne : ∀ (V : World) (b b' o o' : Nat) (v : Value), ¬ (b = b' ∧ o = o') → (V.setCell ⟨b, o, none⟩ v).cell? ⟨b', o', none⟩ = V.cell? ⟨b', o', none⟩ := fun V b b' o o' v h => World.cell?_setCell_other V _ _ _ (fun e => h (by injection e with e1 e2; exact ⟨e1, e2⟩))
  have sm : ∀ (V : World) (b o : Nat) (u v : Value), V.cell? ⟨b, o, none⟩ = some u → (V.setCell ⟨b, o, none⟩ v).cell? ⟨b, o, none⟩ = some v := fun V b o u v h => World.cell?_setCell_same V _ _ h
  have hz := h.size
  obtain ⟨u, hu⟩ := h.c40
  obtain ⟨v, hv⟩ := h.c41
  refine ⟨(h.bel.setCell (p := ⟨w.heap.size + 1, 0, none⟩) (by show w.heap.size ≤ w.heap.size + 1; omega) _).setCell (p := ⟨w.heap.size + 1, 1, none⟩) (by show w.heap.size ≤ w.heap.size + 1; omega) _, by simpa [World.setCell] using hz, ⟨u, ?_⟩, ⟨v, ?_⟩, ?_, ?_, fun o => ?_, fun o => ?_⟩
  · rw [ne _ _ _ _ _ _ (by omega), ne _ _ _ _ _ _ (by omega)]; exact hu
  · rw [ne _ _ _ _ _ _ (by omega), ne _ _ _ _ _ _ (by omega)]; exact hv
  · rw [ne _ _ _ _ _ _ (by omega)]; exact sm _ _ _ _ _ h.c50
  · exact sm _ _ _ _ _ ((ne _ _ _ _ _ _ (by omega)).trans h.c51)
  · rw [World.frozen?_setCell, World.frozen?_setCell]; exact h.f4 o
  · rw [World.frozen?_setCell, World.frozen?_setCell]; exact h.f5 o
end Go.Proofs.Ytheddoinnakneaa
