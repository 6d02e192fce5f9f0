/- lists of points in memory: how they read; a list of the laws' package made one of the program's -/
import Derived.Test.YtacabmbajadbgaaI
import Derived.LoopTactic
import Derived.Laws.MakeOwn
import Derived.OwnWalk
namespace Go.Proofs.Ytacabmbajadbgaa
open Go.ChangeShapes Go.WideShapes Go.ChangeAt Go.RowKit Go.Joins
set_option linter.unusedVariables false
set_option linter.unusedSimpArgs false
set_option maxRecDepth 4000
/-- the slice's cells from address A on hold the points l; they lie below block B -/
def Rd (w : World) (B : Nat) (A : Option Addr) (l : List (Int × Int)) : Prop :=
  0 < l.length → ∃ b off, A = some ⟨b, off, none⟩ ∧ b < B ∧ ∀ i p, l[i]? = some p →
    w.cell? ⟨b, off + i * 2, none⟩ = some (.int .i64 p.1) ∧ w.cell? ⟨b, off + i * 2 + 1, none⟩ = some (.int .i64 p.2)
theorem rd_keep {w w' : World} {B : Nat} {A : Option Addr} {l : List (Int × Int)} (h : Rd w B A l) (hk : ∀ b o, b < B → w'.cell? ⟨b, o, none⟩ = w.cell? ⟨b, o, none⟩) : Rd w' B A l := by
  intro hl
  obtain ⟨b, off, e, hb, hc⟩ := h hl
  exact ⟨b, off, e, hb, fun i p hp => by rw [hk _ _ hb, hk _ _ hb]; exact hc i p hp⟩
theorem rd_below {w w' : World} {B B' : Nat} {A : Option Addr} {l : List (Int × Int)} (h : Rd w B A l) (hb : Below B' w w') (hB : B ≤ B') : Rd w' B A l :=
  rd_keep h fun b o hlt => hb.cell (p := ⟨b, o, none⟩) (by show b < B'; omega)
theorem rd_more {w : World} {B B' : Nat} {A : Option Addr} {l : List (Int × Int)} (h : Rd w B A l) (hB : B ≤ B') : Rd w B' A l := by
  intro hl
  obtain ⟨b, off, e, hb, hc⟩ := h hl
  exact ⟨b, off, e, by omega, hc⟩
theorem peg_info : (Try.prog.info? 53).map (fun i => (i.zero, i.size, i.bytes)) = some (some (.agg #[.int .i64 0, .int .i64 0]), 2, 16) := by kernel_rfl
/-- a new block of points: number g, the first k of them set -/
def Set (w : World) (g n k : Nat) (l : List (Int × Int)) : Prop :=
  g < w.heap.size ∧ (∀ i, i < n → (∃ u, w.cell? ⟨g, i * 2, none⟩ = some u) ∧ (∃ u, w.cell? ⟨g, i * 2 + 1, none⟩ = some u) ∧ w.frozen? ⟨g, i * 2, none⟩ = false ∧ w.frozen? ⟨g, i * 2 + 1, none⟩ = false) ∧
    ∀ i p, i < k → l[i]? = some p → w.cell? ⟨g, i * 2, none⟩ = some (.int .i64 p.1) ∧ w.cell? ⟨g, i * 2 + 1, none⟩ = some (.int .i64 p.2)
theorem set_new (w : World) (t : TypeId) (n : Nat) (l : List (Int × Int)) : Set (w.alloc (.cells (madeCells #[.int .i64 0, .int .i64 0] (n * 2)) t)) w.heap.size n 0 l := by
  refine ⟨by simp, fun i hi => ?_, fun i p h => absurd h (Nat.not_lt_zero _)⟩
  have hs := size_madeCells #[.int .i64 0, .int .i64 0] (n * 2)
  have hb : ∀ j, j < n * 2 → ∃ u, (w.alloc (.cells (madeCells #[.int .i64 0, .int .i64 0] (n * 2)) t)).cell? ⟨w.heap.size, j, none⟩ = some u := fun j hj =>
    ⟨_, by rw [cell_of_row (w.alloc _) w.heap.size j _ t (0, 0) (heap_alloc_new w _)]; exact Array.getElem?_eq_getElem (by omega)⟩
  refine ⟨hb _ (by omega), hb _ (by omega), ?_, ?_⟩ <;> (rw [frozen?_alloc_cells]; simp [World.frozen?])
theorem set_below {w w' : World} {g n k : Nat} {l : List (Int × Int)} (h : Set w g n k l) (hb : Below w.heap.size w w') : Set w' g n k l := by
  obtain ⟨h1, h2, h3⟩ := h
  have hc := (bcell hb).1
  have hf := (bcell hb).2
  have hz := hb.size
  exact ⟨by omega, fun i hi => by rw [hc _ _ h1, hc _ _ h1, hf _ _ h1, hf _ _ h1]; exact h2 i hi, fun i p hi hp => by rw [hc _ _ h1, hc _ _ h1]; exact h3 i p hi hp⟩
theorem set_store {w : World} {g n k : Nat} {l : List (Int × Int)} (h : Set w g n k l) (hk : k < n) {p : Int × Int} (hp : l[k]? = some p) :
    Set ((w.setCell ⟨g, k * 2, none⟩ (.int .i64 p.1)).setCell ⟨g, k * 2 + 1, none⟩ (.int .i64 p.2)) g n (k + 1) l := by
  obtain ⟨h1, h2, h3⟩ := h
  have so : ∀ (W : World) (o o' : Nat) (u v : Value), (W.cell? ⟨g, o, none⟩ = some u) → ∃ u', (W.setCell ⟨g, o', none⟩ v).cell? ⟨g, o, none⟩ = some u' := fun W o o' u v h => cell?_setCell_some h
  have ne : ∀ (W : World) (o o' : Nat) (v : Value), o' ≠ o → (W.setCell ⟨g, o', none⟩ v).cell? ⟨g, o, none⟩ = W.cell? ⟨g, o, none⟩ := fun W o o' v h =>
    World.cell?_setCell_other W _ _ _ (fun e => h (by injection e))
  have sm : ∀ (W : World) (o : Nat) (u v : Value), W.cell? ⟨g, o, none⟩ = some u → (W.setCell ⟨g, o, none⟩ v).cell? ⟨g, o, none⟩ = some v := fun W o u v h => World.cell?_setCell_same W _ _ h
  refine ⟨by simpa [World.setCell] using h1, fun i hi => ?_, fun i q hi hq => ?_⟩
  · obtain ⟨⟨u1, e1⟩, ⟨u2, e2⟩, f1, f2⟩ := h2 i hi
    obtain ⟨u3, e3⟩ := so w _ (k * 2) u1 (.int .i64 p.1) e1
    obtain ⟨u4, e4⟩ := so w _ (k * 2) u2 (.int .i64 p.1) e2
    refine ⟨so _ _ _ u3 _ e3, so _ _ _ u4 _ e4, ?_, ?_⟩
    · rw [World.frozen?_setCell, World.frozen?_setCell]; exact f1
    · rw [World.frozen?_setCell, World.frozen?_setCell]; exact f2
  · by_cases hik : i = k
    · subst hik
      rw [hp] at hq
      injection hq with hq
      subst hq
      obtain ⟨⟨u1, e1⟩, ⟨u2, e2⟩, _, _⟩ := h2 i hk
      have e2' : (w.setCell ⟨g, i * 2, none⟩ (.int .i64 p.1)).cell? ⟨g, i * 2 + 1, none⟩ = some u2 := by rw [ne _ _ _ _ (by omega)]; exact e2
      exact ⟨by rw [ne _ _ _ _ (by omega)]; exact sm _ _ _ _ e1, sm _ _ _ _ e2'⟩
    · rw [ne _ _ _ _ (by omega), ne _ _ _ _ (by omega), ne _ _ _ _ (by omega), ne _ _ _ _ (by omega)]
      exact h3 i q (by omega) hq
end Go.Proofs.Ytacabmbajadbgaa
