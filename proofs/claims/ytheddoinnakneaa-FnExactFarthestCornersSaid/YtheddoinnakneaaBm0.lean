/- plain: the band as a list that a walk around finds -/
import Derived.Test.YtheddoinnakneaaBi
import Derived.Test.YtheddoinnakneaaBb
import Derived.OneCell
namespace Go.Proofs.Ytheddoinnakneaa
open Go.ChangeShapes Go.WideShapes Go.ChangeAt Go.RowKit Go.Joins
set_option linter.unusedVariables false
set_option linter.unusedSimpArgs false
set_option maxRecDepth 4000
/-- what the walk around meets: HH is the band with its first corner again at the end -/
structure Around (l H HH : List (Int × Int)) (h0 : Int × Int) : Prop where
  len : HH.length = H.length + 1
  pos : 0 < H.length
  few : H.length ≤ 400
  same : ∀ i, i < H.length → pt HH i = pt H i
  first : pt HH 0 = h0
  last : pt HH H.length = h0
  diff : ∀ i, 0 < i → i < H.length → pt HH i ≠ h0
  next : ∀ i, i < H.length → l.foldl (MH.stepN (pt HH i)) (pt HH i) = pt HH (i + 1)
  mem : ∀ i, i ≤ H.length → pt HH i ∈ l
  least : h0 ∈ l ∧ ∀ m ∈ l, (∀ x ∈ l, ¬ lxP x m) → m = h0
theorem hull_len {s : List (Int × Int)} : (MH.hull s).length ≤ 2 * s.length := by
  unfold MH.hull
  split
  · omega
  · have h1 := MH.chain_len s
    have h2 := MH.chain_len s.reverse
    simp at h2 ⊢
    omega
theorem around_of {l : List (Int × Int)} (hnd : l.Nodup) (h1 : 1 ≤ l.length) (h30 : l.length ≤ 169) : ∃ h0, Around l (MH.hull (srt l)) (MH.hull (srt l) ++ [h0]) h0 := by
  have hs := srt_sorted hnd
  have hl := srt_len l
  obtain ⟨h0, t, es⟩ : ∃ h0 t, srt l = h0 :: t := by
    cases h : srt l with
    | nil => rw [h] at hl; simp at hl; omega
    | cons a t => exact ⟨a, t, rfl⟩
  have hmem : ∀ p, p ∈ l ↔ p ∈ srt l := fun p => srt_mem.symm
  obtain ⟨R, eH, hd, hm, hn⟩ := MH.band_ok hs es hmem
  have hlen := hull_len (s := srt l)
  have e0 : h0 ∈ l := (hmem h0).2 (by rw [es]; simp)
  refine ⟨h0, ?_⟩
  rw [eH] at hlen ⊢
  have g : ∀ i, i < (h0 :: R).length → pt ((h0 :: R) ++ [h0]) i = pt (h0 :: R) i := fun i hi => by
    unfold pt; rw [List.getElem?_append_left hi]
  have gl : pt ((h0 :: R) ++ [h0]) (h0 :: R).length = h0 := by
    unfold pt; rw [List.getElem?_append_right (Nat.le_refl _), Nat.sub_self]; rfl
  have mR : ∀ i, i < (h0 :: R).length → pt (h0 :: R) i ∈ l := fun i hi => by
    have := pt_mem hi
    rw [List.mem_cons] at this
    rcases this with h | h
    · rw [h]; exact e0
    · exact (hmem _).2 (hm _ h)
  refine ⟨by simp, by simp, by rw [hl] at hlen; omega, g, g 0 (by simp), gl, fun i hi hi2 => ?_, fun i hi => ?_, fun i hi => ?_, e0, fun m hm2 hle => ?_⟩
  · rw [g i hi2]
    obtain ⟨j, rfl⟩ : ∃ j, i = j + 1 := ⟨i - 1, by omega⟩
    have : pt (h0 :: R) (j + 1) = pt R j := rfl
    rw [this]
    exact hd _ (pt_mem (by simpa using hi2))
  · have k1 := pt_get (l := (h0 :: R) ++ [h0]) (i := i) (by simp at hi ⊢; omega)
    have k2 := pt_get (l := (h0 :: R) ++ [h0]) (i := i + 1) (by simp at hi ⊢; omega)
    exact hn i _ _ k1 k2
  · rcases Nat.lt_or_ge i (h0 :: R).length with h | h
    · rw [g i h]; exact mR i h
    · have : i = (h0 :: R).length := by omega
      rw [this, gl]; exact e0
  · have h1 := hle h0 e0
    have h2 := (hmem m).1 hm2
    rw [es, List.mem_cons] at h2
    rcases h2 with h2 | h2
    · exact h2
    · rw [es] at hs
      exact absurd ((List.pairwise_cons.1 hs).1 m h2) h1
/-- how memory stands while the program goes around -/
structure BdS (w W : World) (v : Value) (k : Nat) (L : List (Int × Int)) (g3 g5 : Nat) (a1 a2 q1 q2 : Int) : Prop where
  bel : Below w.heap.size w W
  own : W.ownsRow w.heap.size 56 2 v k (flat L)
  l3 : w.heap.size ≤ g3
  l5 : w.heap.size ≤ g5
  z3 : g3 < W.heap.size
  z5 : g5 < W.heap.size
  c30 : W.cell? ⟨g3, 0, none⟩ = some (.int .i64 a1)
  c31 : W.cell? ⟨g3, 1, none⟩ = some (.int .i64 a2)
  c50 : W.cell? ⟨g5, 0, none⟩ = some (.int .i64 q1)
  c51 : W.cell? ⟨g5, 1, none⟩ = some (.int .i64 q2)
  f5 : ∀ o, W.frozen? ⟨g5, o, none⟩ = false
  n3 : v.ownBlock ≠ some g3
  n5 : v.ownBlock ≠ some g5
  n35 : g3 ≠ g5
theorem BdS.up {w W W' : World} {v : Value} {k : Nat} {L : List (Int × Int)} {g3 g5 : Nat} {a1 a2 q1 q2 : Int} (h : BdS w W v k L g3 g5 a1 a2 q1 q2) (hb : Below W.heap.size W W') : BdS w W' v k L g3 g5 a1 a2 q1 q2 := by
  obtain ⟨hc, hf⟩ := bcell hb
  exact ⟨h.bel.trans (hb.mono h.bel.size), ownB h.own hb (Nat.le_refl _), h.l3, h.l5, Nat.lt_of_lt_of_le h.z3 hb.size, Nat.lt_of_lt_of_le h.z5 hb.size, (hc _ _ h.z3).trans h.c30, (hc _ _ h.z3).trans h.c31, (hc _ _ h.z5).trans h.c50, (hc _ _ h.z5).trans h.c51, fun o => (hf _ _ h.z5).trans (h.f5 o), h.n3, h.n5, h.n35⟩
theorem own_set2 {w : World} {base : Nat} {e : TypeId} {size : Nat} {v : Value} {n : Nat} {xs : List Value} (h : w.ownsRow base e size v n xs) (g o : Nat) (u : Value) (hne : v.ownBlock ≠ some g) : (w.setCell ⟨g, o, none⟩ u).ownsRow base e size v n xs := by
  obtain ⟨h1, h2⟩ := h
  rcases h2 with h2 | ⟨g', cap, cur, hv, hg, hh, r⟩
  · exact ⟨h1, .inl h2⟩
  · refine ⟨h1, .inr ⟨g', cap, cur, hv, hg, ?_, r⟩⟩
    rw [Below.heap_setCell _ _ _ _ (fun e => hne (by rw [hv]; show some g' = some g; rw [e]))]
    exact hh
theorem BdS.store {w W : World} {v : Value} {k : Nat} {L : List (Int × Int)} {g3 g5 : Nat} {a1 a2 q1 q2 : Int} (h : BdS w W v k L g3 g5 a1 a2 q1 q2) (p1 p2 : Int) :
    BdS w ((W.setCell ⟨g5, 0, none⟩ (.int .i64 p1)).setCell ⟨g5, 1, none⟩ (.int .i64 p2)) v k L g3 g5 a1 a2 p1 p2 := by
  have ne : ∀ (V : World) (b b' o o' : Nat) (v : Value), ¬ (b = b' ∧ o = o') → (V.setCell ⟨b, o, none⟩ v).cell? ⟨b', o', none⟩ = V.cell? ⟨b', o', none⟩ := fun V b b' o o' v h => World.cell?_setCell_other V _ _ _ (fun e => h (by injection e with e1 e2; exact ⟨e1, e2⟩))
  have sm : ∀ (V : World) (b o : Nat) (u v : Value), V.cell? ⟨b, o, none⟩ = some u → (V.setCell ⟨b, o, none⟩ v).cell? ⟨b, o, none⟩ = some v := fun V b o u v h => World.cell?_setCell_same V _ _ h
  have n35 := h.n35
  refine ⟨(h.bel.setCell (p := ⟨g5, 0, none⟩) h.l5 _).setCell (p := ⟨g5, 1, none⟩) h.l5 _, own_set2 (own_set2 h.own g5 0 _ h.n5) g5 1 _ h.n5, h.l3, h.l5, by simpa [World.setCell] using h.z3, by simpa [World.setCell] using h.z5, ?_, ?_, ?_, ?_, fun o => ?_, h.n3, h.n5, n35⟩
  · rw [ne _ _ _ _ _ _ (by omega), ne _ _ _ _ _ _ (by omega)]; exact h.c30
  · rw [ne _ _ _ _ _ _ (by omega), ne _ _ _ _ _ _ (by omega)]; exact h.c31
  · rw [ne _ _ _ _ _ _ (by omega)]; exact sm _ _ _ _ _ h.c50
  · exact sm _ _ _ _ _ ((ne _ _ _ _ _ _ (by omega)).trans h.c51)
  · rw [World.frozen?_setCell, World.frozen?_setCell]; exact h.f5 o
end Go.Proofs.Ytheddoinnakneaa
