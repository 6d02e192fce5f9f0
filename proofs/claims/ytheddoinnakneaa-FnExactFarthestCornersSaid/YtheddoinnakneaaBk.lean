/- contract: the next corner, the program's side -/
import Derived.Test.YtheddoinnakneaaBj
import Derived.Test.YtheddoinnakneaaBi
import Derived.Test.YtheddoinnakneaaSax
namespace Go.Proofs.Ytheddoinnakneaa
open Go.ChangeShapes Go.WideShapes Go.ChangeAt Go.RowKit Go.Joins
set_option linter.unusedVariables false
set_option linter.unusedSimpArgs false
set_option maxRecDepth 4000
theorem fold_step {l : List (Int × Int)} {k : Nat} (f a : Int × Int) (h : k < l.length) : (l.take (k + 1)).foldl (MH.stepN f) a = MH.stepN f ((l.take k).foldl (MH.stepN f) a) (vx l k) := by
  rw [List.take_add_one, vx_get h, List.foldl_append]
  rfl
theorem step_yes {f n p : Int × Int} (h : MH.tw f n p < 0 ∨ (MH.tw f n p = 0 ∧ MH.sq n f < MH.sq p f)) : MH.stepN f n p = p := by unfold MH.stepN; rw [if_pos h]
theorem step_no {f n p : Int × Int} (h : ¬ (MH.tw f n p < 0 ∨ (MH.tw f n p = 0 ∧ MH.sq n f < MH.sq p f))) : MH.stepN f n p = n := by unfold MH.stepN; rw [if_neg h]
theorem step_or {f n p : Int × Int} : MH.stepN f n p = p ∨ MH.stepN f n p = n := by unfold MH.stepN; split <;> simp
theorem isPg_bd {p : Int × Int} (h : isPg p = true) : (-40 ≤ p.1 ∧ p.1 ≤ 40) ∧ (-40 ≤ p.2 ∧ p.2 ≤ 40) := by unfold isPg isPegB at h; simp at h; omega
/-- how memory stands while the next corner is sought: from, the result, the next one -/
structure NcS (w W : World) (f1 f2 n1 n2 : Int) : Prop where
  bel : Below w.heap.size w W
  size : w.heap.size + 2 < W.heap.size
  c30 : W.cell? ⟨w.heap.size, 0, none⟩ = some (.int .i64 f1)
  c31 : W.cell? ⟨w.heap.size, 1, none⟩ = some (.int .i64 f2)
  c40 : ∃ u, W.cell? ⟨w.heap.size + 1, 0, none⟩ = some u
  c41 : ∃ u, W.cell? ⟨w.heap.size + 1, 1, none⟩ = some u
  c50 : W.cell? ⟨w.heap.size + 2, 0, none⟩ = some (.int .i64 n1)
  c51 : W.cell? ⟨w.heap.size + 2, 1, none⟩ = some (.int .i64 n2)
  f4 : ∀ o, W.frozen? ⟨w.heap.size + 1, o, none⟩ = false
  f5 : ∀ o, W.frozen? ⟨w.heap.size + 2, o, none⟩ = false
theorem NcS.up {w W W' : World} {f1 f2 n1 n2 : Int} (h : NcS w W f1 f2 n1 n2) (hb : Below W.heap.size W W') : NcS w W' f1 f2 n1 n2 := by
  obtain ⟨hc, hf⟩ := bcell hb
  have hz := h.size
  obtain ⟨u, hu⟩ := h.c40
  obtain ⟨v, hv⟩ := h.c41
  exact ⟨h.bel.trans (hb.mono h.bel.size), Nat.lt_of_lt_of_le hz hb.size, (hc _ _ (by omega)).trans h.c30, (hc _ _ (by omega)).trans h.c31, ⟨u, (hc _ _ (by omega)).trans hu⟩, ⟨v, (hc _ _ (by omega)).trans hv⟩, (hc _ _ (by omega)).trans h.c50, (hc _ _ (by omega)).trans h.c51, fun o => (hf _ _ (by omega)).trans (h.f4 o), fun o => (hf _ _ (by omega)).trans (h.f5 o)⟩
theorem NcS.store {w W : World} {f1 f2 n1 n2 : Int} (h : NcS w W f1 f2 n1 n2) (p1 p2 : Int) : NcS w ((W.setCell ⟨w.heap.size + 2, 0, none⟩ (.int .i64 p1)).setCell ⟨w.heap.size + 2, 1, none⟩ (.int .i64 p2)) f1 f2 p1 p2 := by
  have ne : ∀ (V : World) (b b' o o' : Nat) (v : Value), ¬ (b = b' ∧ o = o') → (V.setCell ⟨b, o, none⟩ v).cell? ⟨b', o', none⟩ = V.cell? ⟨b', o', none⟩ := fun V b b' o o' v h => World.cell?_setCell_other V _ _ _ (fun e => h (by injection e with e1 e2; exact ⟨e1, e2⟩))
  have sm : ∀ (V : World) (b o : Nat) (u v : Value), V.cell? ⟨b, o, none⟩ = some u → (V.setCell ⟨b, o, none⟩ v).cell? ⟨b, o, none⟩ = some v := fun V b o u v h => World.cell?_setCell_same V _ _ h
  have hz := h.size
  obtain ⟨u, hu⟩ := h.c40
  obtain ⟨v, hv⟩ := h.c41
  refine ⟨(h.bel.setCell (p := ⟨w.heap.size + 2, 0, none⟩) (by show w.heap.size ≤ w.heap.size + 2; omega) _).setCell (p := ⟨w.heap.size + 2, 1, none⟩) (by show w.heap.size ≤ w.heap.size + 2; omega) _, by simpa [World.setCell] using hz, ?_, ?_, ⟨u, ?_⟩, ⟨v, ?_⟩, ?_, ?_, fun o => ?_, fun o => ?_⟩
  · rw [ne _ _ _ _ _ _ (by omega), ne _ _ _ _ _ _ (by omega)]; exact h.c30
  · rw [ne _ _ _ _ _ _ (by omega), ne _ _ _ _ _ _ (by omega)]; exact h.c31
  · rw [ne _ _ _ _ _ _ (by omega), ne _ _ _ _ _ _ (by omega)]; exact hu
  · rw [ne _ _ _ _ _ _ (by omega), ne _ _ _ _ _ _ (by omega)]; exact hv
  · rw [ne _ _ _ _ _ _ (by omega)]; exact sm _ _ _ _ _ h.c50
  · exact sm _ _ _ _ _ ((ne _ _ _ _ _ _ (by omega)).trans h.c51)
  · rw [World.frozen?_setCell, World.frozen?_setCell]; exact h.f4 o
  · rw [World.frozen?_setCell, World.frozen?_setCell]; exact h.f5 o
end Go.Proofs.Ytheddoinnakneaa
