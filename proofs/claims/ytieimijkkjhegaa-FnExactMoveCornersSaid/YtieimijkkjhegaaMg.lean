/- contracts: a move if it is one; shears; pegs that are brought, on both sides -/
import Derived.Test.YtieimijkkjhegaaMf
namespace Go.Proofs.Ytieimijkkjhegaa
open Go.ChangeShapes Go.WideShapes Go.ChangeAt Go.RowKit Go.Joins
set_option linter.unusedVariables false
set_option linter.unusedSimpArgs false
set_option maxRecDepth 4000
theorem at2_set0 {w : World} {g : Nat} {a b : Int} (h : g < w.heap.size ∧ w.cell? ⟨g, 0, none⟩ = some (.int .i64 a) ∧ w.cell? ⟨g, 1, none⟩ = some (.int .i64 b)) (v : Int) :
    g < (w.setCell ⟨g, 0, none⟩ (.int .i64 v)).heap.size ∧ (w.setCell ⟨g, 0, none⟩ (.int .i64 v)).cell? ⟨g, 0, none⟩ = some (.int .i64 v) ∧ (w.setCell ⟨g, 0, none⟩ (.int .i64 v)).cell? ⟨g, 1, none⟩ = some (.int .i64 b) := by
  obtain ⟨h0, h1, h2⟩ := h
  exact ⟨by simpa [World.setCell] using h0, World.cell?_setCell_same w _ _ h1, by rw [World.cell?_setCell_other w _ _ _ (fun e => by injection e with e1 e2; cases e2)]; exact h2⟩
theorem at2_set1 {w : World} {g : Nat} {a b : Int} (h : g < w.heap.size ∧ w.cell? ⟨g, 0, none⟩ = some (.int .i64 a) ∧ w.cell? ⟨g, 1, none⟩ = some (.int .i64 b)) (v : Int) :
    g < (w.setCell ⟨g, 1, none⟩ (.int .i64 v)).heap.size ∧ (w.setCell ⟨g, 1, none⟩ (.int .i64 v)).cell? ⟨g, 0, none⟩ = some (.int .i64 a) ∧ (w.setCell ⟨g, 1, none⟩ (.int .i64 v)).cell? ⟨g, 1, none⟩ = some (.int .i64 v) := by
  obtain ⟨h0, h1, h2⟩ := h
  exact ⟨by simpa [World.setCell] using h0, by rw [World.cell?_setCell_other w _ _ _ (fun e => by injection e with e1 e2; cases e2)]; exact h1, World.cell?_setCell_same w _ _ h2⟩
theorem goodM_shear (k : Int) : goodM 1 k 0 1 0 0 = (decide (-20 ≤ k) && decide (k ≤ 20)) := by
  unfold goodM boxM
  rw [all4, all2]
  simp [inQ]
end Go.Proofs.Ytieimijkkjhegaa
