/- plain mathematics: the side and the sign of the area -/
import Derived.Test.YtjkfdcjfoliboaaZe
namespace Go.Proofs.Ytjkfdcjfoliboaa.MJ
set_option linter.unusedVariables false
set_option linter.unusedSimpArgs false
theorem sm_nn {f : Nat → Int} {n : Nat} (h : ∀ i, i < n → 0 ≤ f i) : 0 ≤ sm f n := by
  have := sm_le (f := fun _ => 0) (g := f) (n := n) h
  rw [sm_zero (fun _ _ => rfl)] at this
  exact this
theorem sm_term {f : Nat → Int} {n : Nat} (h : ∀ i, i < n → 0 ≤ f i) {k : Nat} (hk : k < n) : f k ≤ sm f n := by
  induction n with
  | zero => omega
  | succ n ih =>
    have h0 := sm_nn (f := f) (n := n) (fun i hi => h i (by omega))
    have hn := h n (by omega)
    simp only [sm]
    by_cases e : k = n
    · subst e; omega
    · have := ih (fun i hi => h i (by omega)) (by omega); omega
theorem bs_nn {N : Nat} {f : Pt → Int} (h : ∀ p, 0 ≤ f p) : 0 ≤ bs N f := sm_nn fun _ _ => sm_nn fun _ _ => h _
theorem bs_pos {N : Nat} {f : Pt → Int} (h : ∀ p, 0 ≤ f p) {q : Pt} (hq : InBox N q) (h1 : 0 < f q) : 0 < bs N f := by
  obtain ⟨x0, x1, y0, y1⟩ := hq
  have e : bx N (q.1 + N).toNat (q.2 + N).toNat = q := Prod.ext (by simp only [bx]; omega) (by simp only [bx]; omega)
  have k1 := sm_term (f := fun i => f (bx N i (q.2 + N).toNat)) (n := 2 * N + 1) (fun i _ => h _) (k := (q.1 + N).toNat) (by omega)
  have k2 := sm_term (f := fun j => sm (fun i => f (bx N i j)) (2 * N + 1)) (n := 2 * N + 1) (fun j _ => sm_nn fun i _ => h _) (k := (q.2 + N).toNat) (by omega)
  simp only [e] at k1
  unfold bs
  omega
/-- both counts together -/
def Vn (v : Nat → Pt) (n : Nat) (p : Pt) : Int := WN v n p + WN (fun i => ng (v i)) n (ng p)
theorem Bd_ng {v : Nat → Pt} {p : Pt} : Bd (fun i => ng (v i)) (ng p) ↔ Bd v p := by
  unfold Bd; simp only [on_ng]
theorem Vn_in {v : Nat → Pt} {n : Nat} (h : Poly v n) (k : Nat) {x : Pt} (hx : In (v k) (v (k + 1)) x) : Vn v n x = 2 * Cs v n - 1 := by
  have w1 := WN_in h k hx
  have w2 := WN_in (poly_ng h) k (in_ng hx)
  rw [Cs_ng h.toSimple, up_ng (in_ne hx).2.2] at w2
  unfold Vn; omega
theorem Vn_corner {v : Nat → Pt} {n : Nat} (h : Poly v n) (k : Nat) : Vn v n (v k) = 2 * Cs v n - co (v (k + n - 1)) (v k) (v (k + 1)) - co (ng (v (k + n - 1))) (ng (v k)) (ng (v (k + 1))) := by
  have w1 := WN_corner h k
  have w2 := WN_corner (poly_ng h) k
  rw [Cs_ng h.toSimple] at w2
  unfold Vn; omega
theorem Vn_sign {v : Nat → Pt} {n : Nat} (h : Poly v n) (p : Pt) : (Cs v n = 1 → 0 ≤ Vn v n p) ∧ (Cs v n = 0 → Vn v n p ≤ 0) := by
  by_cases hb : Bd v p
  · obtain ⟨k, hk⟩ := hb
    have corner : ∀ k, (Cs v n = 1 → 0 ≤ Vn v n (v k)) ∧ (Cs v n = 0 → Vn v n (v k) ≤ 0) := by
      intro k
      have e := Vn_corner h k
      have a1 := co_01 (adj_at h.toSimple k)
      have a2 := co_01 (adj_ng (adj_at h.toSimple k))
      omega
    rcases on_in hk with e | e | hx
    · rw [e]; exact corner k
    · rw [e]; exact corner (k + 1)
    · have := Vn_in h k hx; omega
  · have j1 := jordan h hb
    have j2 := jordan (poly_ng h) (fun w => hb (Bd_ng.1 w))
    rw [Cs_ng h.toSimple] at j2
    unfold Vn; omega
theorem Ar_sc (v : Nat → Pt) (n : Nat) (M : Int) : Ar (fun i => sc M (v i)) n = M * M * Ar v n := by
  unfold Ar
  rw [← sm_mul]
  exact sm_congr fun j _ => by simp only [sc]; grind
/-- THE SIDE AND THE AREA -/
theorem Ar_side {v : Nat → Pt} {n N : Nat} (h : Poly v n) (hN : ∀ i, InBox N (v i)) : (Cs v n = 1 → 0 < Ar v n) ∧ (Cs v n = 0 → Ar v n < 0) := by
  have h2 : (0 : Int) < 2 := by omega
  have hp := poly_sc h2 h
  have hN2 : ∀ i, InBox (2 * N) (sc 2 (v i)) := fun i => by
    obtain ⟨a, b, c, d⟩ := hN i
    refine ⟨?_, ?_, ?_, ?_⟩ <;> simp only [sc] <;> omega
  have e : 2 * 2 * Ar v n = bs (2 * N) (Vn (fun i => sc 2 (v i)) n) := by
    rw [← Ar_sc]
    exact Ar_eq (n := n) hp.per hN2
  have hm : In (sc 2 (v 0)) (sc 2 (v 1)) ((v 0).1 + (v 1).1, (v 0).2 + (v 1).2) := by
    have hne := (h.adj 0).1
    have e1 : (v 0).2 = (v 1).2 → (v 0).1 ≠ (v 1).1 := fun e e' => hne (Prod.ext e' e)
    refine ⟨by unfold tw sc; simp only []; grind, ?_⟩
    simp only [sc]
    omega
  have hi : InBox (2 * N) ((v 0).1 + (v 1).1, (v 0).2 + (v 1).2) := by
    obtain ⟨a, b, c, d⟩ := hN 0
    obtain ⟨a', b', c', d'⟩ := hN 1
    refine ⟨?_, ?_, ?_, ?_⟩ <;> simp only [] <;> omega
  have q := Vn_in hp 0 hm
  rw [Cs_sc h2] at q
  constructor
  · intro hc
    have := bs_pos (N := 2 * N) (f := Vn (fun i => sc 2 (v i)) n) (fun p => (Vn_sign hp p).1 (by rw [Cs_sc h2]; exact hc)) hi (by omega)
    omega
  · intro hc
    have := bs_pos (N := 2 * N) (f := fun p => - Vn (fun i => sc 2 (v i)) n p) (fun p => by have := (Vn_sign hp p).2 (by rw [Cs_sc h2]; exact hc); omega) hi (by omega)
    rw [bs_neg] at this
    omega
/-- CONVEX: if all corners turn to one side, that is the area's -/
theorem all_left {v : Nat → Pt} {n N : Nat} (h : Poly v n) (hN : ∀ i, InBox N (v i)) (ht : ∀ i, 0 < tw (v i) (v (i + 1)) (v (i + 2))) : 0 < Ar v n := by
  obtain ⟨k, _, hk⟩ := east h.toSimple
  have t := ht (k + n - 1)
  have h3 := h.three
  rw [show k + n - 1 + 1 = k + n by omega, show k + n - 1 + 2 = k + 1 + n by omega, h.per, h.per] at t
  exact (Ar_side h hN).1 ((Cs_turn h.toSimple hk).1 t)
theorem all_right {v : Nat → Pt} {n N : Nat} (h : Poly v n) (hN : ∀ i, InBox N (v i)) (ht : ∀ i, tw (v i) (v (i + 1)) (v (i + 2)) < 0) : Ar v n < 0 := by
  obtain ⟨k, _, hk⟩ := east h.toSimple
  have t := ht (k + n - 1)
  have h3 := h.three
  rw [show k + n - 1 + 1 = k + n by omega, show k + n - 1 + 2 = k + 1 + n by omega, h.per, h.per] at t
  exact (Ar_side h hN).2 ((Cs_turn h.toSimple hk).2 t)
/-- the crossings, whatever their signs -/
def Xs (v : Nat → Pt) (n : Nat) (p : Pt) : Int := sm (fun j => (cr (v j) (v (j + 1)) p) * (cr (v j) (v (j + 1)) p)) n
/-- INSIDE: going round is the same as crossing oddly often -/
theorem odd_iff {v : Nat → Pt} {n : Nat} (h : Poly v n) {p : Pt} (hp : ¬ Bd v p) : WN v n p ≠ 0 ↔ Xs v n p % 2 = 1 := by
  have j := jordan h hp
  have c := Cs_01 h.toSimple
  have par : ∀ m, (sm (fun j => (cr (v j) (v (j + 1)) p) * (cr (v j) (v (j + 1)) p)) m - sm (fun j => cr (v j) (v (j + 1)) p) m) % 2 = 0 := by
    intro m
    induction m with
    | zero => rfl
    | succ m ih =>
      simp only [sm]
      have : cr (v m) (v (m + 1)) p = 0 ∨ cr (v m) (v (m + 1)) p = 1 ∨ cr (v m) (v (m + 1)) p = -1 := by
        unfold cr; (repeat' split) <;> simp
      rcases this with e | e | e <;> rw [e] <;> omega
  have := par n
  unfold WN Xs at *
  omega
end Go.Proofs.Ytjkfdcjfoliboaa.MJ
