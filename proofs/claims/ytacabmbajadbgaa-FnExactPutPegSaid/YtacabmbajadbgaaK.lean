/- lists of points in memory that the call itself made: they may be written; marks -/
import Derived.Test.YtacabmbajadbgaaN
import Derived.Deep.LoopGhost
namespace Go.Proofs.Ytacabmbajadbgaa
open Go.ChangeShapes Go.WideShapes Go.ChangeAt Go.RowKit Go.Joins
set_option linter.unusedVariables false
set_option linter.unusedSimpArgs false
set_option maxRecDepth 4000
theorem rd_of_set {w : World} {g : Nat} {l : List (Int × Int)} (h : Set w g l.length l.length l) : Rd w w.heap.size (some ⟨g, 0, none⟩) l := by
  intro _
  refine ⟨g, 0, rfl, h.1, fun i p hp => ?_⟩
  rw [Nat.zero_add]
  exact h.2.2 i p (List.getElem?_eq_some_iff.1 hp).1 hp
/-- the slice's cells from address A on hold the points f 0, .., f (n - 1), may be written, and lie from block lo on, below block B -/
def Rw (w : World) (lo B : Nat) (A : Option Addr) (n : Nat) (f : Nat → Int × Int) : Prop :=
  0 < n → ∃ b off, A = some ⟨b, off, none⟩ ∧ lo ≤ b ∧ b < B ∧ ∀ i, i < n →
    (w.cell? ⟨b, off + i * 2, none⟩ = some (.int .i64 (f i).1) ∧ w.cell? ⟨b, off + i * 2 + 1, none⟩ = some (.int .i64 (f i).2)) ∧
    w.frozen? ⟨b, off + i * 2, none⟩ = false ∧ w.frozen? ⟨b, off + i * 2 + 1, none⟩ = false
/-- nothing turns but cells of blocks from lo on, below B -/
structure Only (lo B : Nat) (w w' : World) : Prop where
  os : w'.os = w.os
  tape : w'.tape = w.tape
  output : w'.output = w.output
  size : w'.heap.size = w.heap.size
  block : ∀ k, (k < lo ∨ B ≤ k) → w'.heap[k]? = w.heap[k]?
theorem Only.refl (lo B : Nat) (w : World) : Only lo B w w := ⟨rfl, rfl, rfl, rfl, fun _ _ => rfl⟩
theorem Only.below {lo B : Nat} {w w' : World} (h : Only lo B w w') : Below lo w w' := ⟨h.os, h.tape, h.output, Nat.le_of_eq h.size.symm, fun k hk => h.block k (.inl hk)⟩
theorem Only.set {lo B : Nat} {a w : World} (h : Only lo B a w) {p : Addr} (h1 : lo ≤ p.block) (h2 : p.block < B) (u : Value) : Only lo B a (w.setCell p u) :=
  ⟨h.os, h.tape, h.output, (by simp [World.setCell]; exact h.size), fun k hk => (Below.heap_setCell w p u k (by omega)).trans (h.block k hk)⟩
theorem Only.more {lo B lo' B' : Nat} {w w' : World} (h : Only lo B w w') (h1 : lo' ≤ lo) (h2 : B ≤ B') : Only lo' B' w w' := ⟨h.os, h.tape, h.output, h.size, fun k hk => h.block k (by omega)⟩
theorem rw_block {w w' : World} {lo B : Nat} {A : Option Addr} {n : Nat} {f : Nat → Int × Int} (h : Rw w lo B A n f) (hk : ∀ k, lo ≤ k → k < B → w'.heap[k]? = w.heap[k]?) : Rw w' lo B A n f := by
  intro hn
  obtain ⟨b, off, e, hb1, hb2, hc⟩ := h hn
  have c : ∀ o, w'.cell? ⟨b, o, none⟩ = w.cell? ⟨b, o, none⟩ := fun o => World.cell?_of_block (hk b hb1 hb2)
  have z : ∀ o, w'.frozen? ⟨b, o, none⟩ = w.frozen? ⟨b, o, none⟩ := fun o => World.frozen?_of_block (hk b hb1 hb2)
  exact ⟨b, off, e, hb1, hb2, fun i hi => by rw [c, c, z, z]; exact hc i hi⟩
theorem rw_below {w w' : World} {lo B B' : Nat} {A : Option Addr} {n : Nat} {f : Nat → Int × Int} (h : Rw w lo B A n f) (hb : Below B' w w') (hB : B ≤ B') : Rw w' lo B A n f :=
  rw_block h fun k _ h2 => hb.block k (by omega)
theorem rw_only {w w' : World} {lo B lo' B' : Nat} {A : Option Addr} {n : Nat} {f : Nat → Int × Int} (h : Rw w lo B A n f) (ho : Only lo' B' w w') (hd : B ≤ lo' ∨ B' ≤ lo) : Rw w' lo B A n f :=
  rw_block h fun k h1 h2 => ho.block k (by omega)
theorem rw_more {w : World} {lo B lo' B' : Nat} {A : Option Addr} {n : Nat} {f : Nat → Int × Int} (h : Rw w lo B A n f) (h1 : lo' ≤ lo) (h2 : B ≤ B') : Rw w lo' B' A n f := by
  intro hn
  obtain ⟨b, off, e, hb1, hb2, hc⟩ := h hn
  exact ⟨b, off, e, by omega, by omega, hc⟩
theorem rw_same {w : World} {lo B : Nat} {A : Option Addr} {n : Nat} {f g : Nat → Int × Int} (h : Rw w lo B A n f) (he : ∀ i, i < n → f i = g i) : Rw w lo B A n g := by
  intro hn
  obtain ⟨b, off, e, hb1, hb2, hc⟩ := h hn
  exact ⟨b, off, e, hb1, hb2, fun i hi => by rw [← he i hi]; exact hc i hi⟩
/-- the points of a list, as a row -/
def pt (l : List (Int × Int)) (i : Nat) : Int × Int := (l[i]?).getD (0, 0)
theorem pt_get {l : List (Int × Int)} {i : Nat} (h : i < l.length) : l[i]? = some (pt l i) := by
  unfold pt; rw [List.getElem?_eq_getElem h]; rfl
theorem rw_rd {w : World} {lo B : Nat} {A : Option Addr} {l : List (Int × Int)} (h : Rw w lo B A l.length (pt l)) : Rd w B A l := by
  intro hn
  obtain ⟨b, off, e, hb1, hb2, hc⟩ := h hn
  refine ⟨b, off, e, hb2, fun i p hp => ?_⟩
  have hi := (List.getElem?_eq_some_iff.1 hp).1
  rw [pt_get hi] at hp
  injection hp with hp
  rw [← hp]
  exact (hc i hi).1
theorem rw_of_set {w : World} {g : Nat} {l : List (Int × Int)} (h : Set w g l.length l.length l) : Rw w g (g + 1) (some ⟨g, 0, none⟩) l.length (pt l) := by
  intro _
  refine ⟨g, 0, rfl, Nat.le_refl _, by omega, fun i hi => ?_⟩
  rw [Nat.zero_add]
  exact ⟨h.2.2 i _ hi (pt_get hi), (h.2.1 i hi).2.2⟩
/-- two cells written -/
theorem rw_store {w : World} {lo B b off n k : Nat} {f : Nat → Int × Int} (h : Rw w lo B (some ⟨b, off, none⟩) n f) (hk : k < n) (x y : Int) :
    Rw ((w.setCell ⟨b, off + k * 2, none⟩ (.int .i64 x)).setCell ⟨b, off + k * 2 + 1, none⟩ (.int .i64 y)) lo B (some ⟨b, off, none⟩) n (fun j => if j = k then (x, y) else f j) := by
  intro hn
  obtain ⟨b', off', e, hb1, hb2, hc⟩ := h hn
  injection e with e
  injection e with e1 e2
  subst e1 e2
  have ne : ∀ (W : World) (o o' : Nat) (v : Value), o' ≠ o → (W.setCell ⟨b, o', none⟩ v).cell? ⟨b, o, none⟩ = W.cell? ⟨b, o, none⟩ := fun W o o' v h =>
    World.cell?_setCell_other W _ _ _ (fun e => h (by injection e))
  have sm : ∀ (W : World) (o : Nat) (u v : Value), W.cell? ⟨b, o, none⟩ = some u → (W.setCell ⟨b, o, none⟩ v).cell? ⟨b, o, none⟩ = some v := fun W o u v h => World.cell?_setCell_same W _ _ h
  refine ⟨b, off, rfl, hb1, hb2, fun i hi => ?_⟩
  obtain ⟨⟨c1, c2⟩, z1, z2⟩ := hc i hi
  refine ⟨?_, ?_, ?_⟩
  · by_cases hik : i = k
    · subst hik
      simp only [if_true]
      have c2' : (w.setCell ⟨b, off + i * 2, none⟩ (.int .i64 x)).cell? ⟨b, off + i * 2 + 1, none⟩ = some (.int .i64 (f i).2) := by rw [ne _ _ _ _ (by omega)]; exact c2
      exact ⟨by rw [ne _ _ _ _ (by omega)]; exact sm _ _ _ _ c1, sm _ _ _ _ c2'⟩
    · simp only [hik, if_false]
      rw [ne _ _ _ _ (by omega), ne _ _ _ _ (by omega), ne _ _ _ _ (by omega), ne _ _ _ _ (by omega)]
      exact ⟨c1, c2⟩
  · rw [World.frozen?_setCell, World.frozen?_setCell]; exact z1
  · rw [World.frozen?_setCell, World.frozen?_setCell]; exact z2
end Go.Proofs.Ytacabmbajadbgaa
