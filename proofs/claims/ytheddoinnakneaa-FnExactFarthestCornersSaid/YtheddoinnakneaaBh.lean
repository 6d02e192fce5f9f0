/- plain: the model's band of points in order is what a walk around finds -/
import Derived.Test.YtheddoinnakneaaMs
namespace Go.Proofs.Ytheddoinnakneaa
open Go.ChangeShapes Go.WideShapes Go.ChangeAt Go.RowKit Go.Joins
set_option linter.unusedVariables false
set_option linter.unusedSimpArgs false
set_option maxRecDepth 4000
namespace MH
/-- lexicographic order of points -/
def lx (p q : Int × Int) : Prop := p.1 < q.1 ∨ (p.1 = q.1 ∧ p.2 < q.2)
/-- twice the area of the triangle -/
def tw (a b c : Int × Int) : Int := (b.1 - a.1) * (c.2 - a.2) - (b.2 - a.2) * (c.1 - a.1)
def sq (p f : Int × Int) : Int := (p.1 - f.1) * (p.1 - f.1) + (p.2 - f.2) * (p.2 - f.2)
/-- a vector that points forward -/
def fw (x y : Int) : Prop := 0 < x ∨ (x = 0 ∧ 0 < y)
theorem lx_trans {a b c : Int × Int} (h1 : lx a b) (h2 : lx b c) : lx a c := by unfold lx at *; omega
theorem lx_irrefl {a : Int × Int} : ¬ lx a a := by unfold lx; omega
theorem lx_total {a b : Int × Int} (h1 : ¬ lx a b) (h2 : ¬ lx b a) : a = b := by unfold lx at *; apply Prod.ext <;> omega
theorem nn_of_mul {k x : Int} (hk : 0 < k) (h : 0 ≤ x * k) : 0 ≤ x := by
  by_cases hx : 0 ≤ x
  · exact hx
  · exfalso
    have := Int.mul_pos (show 0 < -x by omega) hk
    rw [Int.neg_mul] at this
    omega
theorem pos_of_mul {k x : Int} (hk : 0 < k) (h : 0 < x * k) : 0 < x := by
  by_cases hx : 0 < x
  · exact hx
  · exfalso
    have := Int.mul_nonneg (show 0 ≤ -x by omega) (Int.le_of_lt hk)
    rw [Int.neg_mul] at this
    omega
/-- forward vectors turn one way: not strictly -/
theorem tr_nn {u1 u2 v1 v2 w1 w2 : Int} (hu : fw u1 u2) (hv : fw v1 v2) (hw : fw w1 w2) (h1 : 0 ≤ u1 * v2 - u2 * v1) (h2 : 0 ≤ v1 * w2 - v2 * w1) : 0 ≤ u1 * w2 - u2 * w1 := by
  rcases hv with hv | ⟨hv, hv2⟩
  · refine nn_of_mul hv ?_
    have e : (u1 * w2 - u2 * w1) * v1 = (u1 * v2 - u2 * v1) * w1 + (v1 * w2 - v2 * w1) * u1 := by grind
    rw [e]
    have a := Int.mul_nonneg h1 (show 0 ≤ w1 by unfold fw at hw; omega)
    have b := Int.mul_nonneg h2 (show 0 ≤ u1 by unfold fw at hu; omega)
    omega
  · subst hv
    have hw0 : w1 = 0 := by
      rcases hw with hw | ⟨hw, _⟩
      · exfalso
        have := Int.mul_pos hv2 hw
        omega
      · exact hw
    subst hw0
    have := Int.mul_nonneg (show 0 ≤ u1 by unfold fw at hu; omega) (show 0 ≤ w2 by unfold fw at hw; omega)
    omega
/-- .. strictly, if the second turn is strict -/
theorem tr_ps {u1 u2 v1 v2 w1 w2 : Int} (hu : fw u1 u2) (hv : fw v1 v2) (hw : fw w1 w2) (h1 : 0 ≤ u1 * v2 - u2 * v1) (h2 : 0 < v1 * w2 - v2 * w1) : 0 < u1 * w2 - u2 * w1 := by
  rcases hv with hv | ⟨hv, hv2⟩
  · refine pos_of_mul hv ?_
    have e : (u1 * w2 - u2 * w1) * v1 = (u1 * v2 - u2 * v1) * w1 + (v1 * w2 - v2 * w1) * u1 := by grind
    rw [e]
    have a := Int.mul_nonneg h1 (show 0 ≤ w1 by unfold fw at hw; omega)
    have hu1 : 0 < u1 := by
      rcases hu with hu | ⟨hu, hu2⟩
      · exact hu
      · exfalso
        subst hu
        have := Int.mul_pos hu2 hv
        omega
    have b := Int.mul_pos h2 hu1
    omega
  · exfalso
    subst hv
    have hw0 : 0 ≤ w1 := by unfold fw at hw; omega
    have := Int.mul_nonneg (Int.le_of_lt hv2) hw0
    omega
theorem fw_of {a b : Int × Int} (h : lx a b) : fw (b.1 - a.1) (b.2 - a.2) := by unfold lx at h; unfold fw; omega
theorem tw_swap (a b c : Int × Int) : tw a c b = - tw a b c := by unfold tw; grind
theorem tw_self (a b : Int × Int) : tw a b b = 0 := by unfold tw; grind
theorem tw_self2 (a b : Int × Int) : tw a b a = 0 := by unfold tw; grind
theorem tw_self1 (a b : Int × Int) : tw a a b = 0 := by unfold tw; grind
theorem hA {a b c q : Int × Int} (hab : lx a b) (hbc : lx b c) (hcq : lx c q) (h1 : 0 < tw a b c) (h2 : 0 < tw b c q) : 0 < tw a b q := by
  have t := tr_ps (fw_of hab) (fw_of hbc) (fw_of hcq)
    (show 0 ≤ (b.1 - a.1) * (c.2 - b.2) - (b.2 - a.2) * (c.1 - b.1) by unfold tw at h1; grind)
    (show 0 < (c.1 - b.1) * (q.2 - c.2) - (c.2 - b.2) * (q.1 - c.1) by unfold tw at h2; grind)
  unfold tw at *
  grind
theorem hB {a b p q : Int × Int} (hab : lx a b) (hap : lx a p) (haq : lx a q) (h1 : tw a b q ≤ 0) (h2 : 0 ≤ tw a b p) : 0 ≤ tw a q p := by
  have t := tr_nn (fw_of haq) (fw_of hab) (fw_of hap)
    (show 0 ≤ (q.1 - a.1) * (b.2 - a.2) - (q.2 - a.2) * (b.1 - a.1) by unfold tw at h1; grind)
    (show 0 ≤ (b.1 - a.1) * (p.2 - a.2) - (b.2 - a.2) * (p.1 - a.1) by unfold tw at h2; grind)
  unfold tw; exact t
theorem hC {a b p q : Int × Int} (hab : lx a b) (hbp : lx b p) (hpq : lx p q) (h1 : 0 ≤ tw b q p) (h2 : tw a b q ≤ 0) : 0 ≤ tw a q p := by
  have t := tr_nn (fw_of hpq) (fw_of (lx_trans hbp hpq)) (fw_of hab)
    (show 0 ≤ (q.1 - p.1) * (q.2 - b.2) - (q.2 - p.2) * (q.1 - b.1) by unfold tw at h1; grind)
    (show 0 ≤ (q.1 - b.1) * (b.2 - a.2) - (q.2 - b.2) * (b.1 - a.1) by unfold tw at h2; grind)
  unfold tw at *
  grind
theorem hD {a b p q : Int × Int} (hba : lx b a) (hpa : lx p a) (haq : lx a q) (h1 : 0 ≤ tw b a p) (h2 : 0 < tw b a q) : 0 < tw a q p := by
  have t := tr_ps (fw_of hpa) (fw_of hba) (fw_of haq)
    (show 0 ≤ (a.1 - p.1) * (a.2 - b.2) - (a.2 - p.2) * (a.1 - b.1) by unfold tw at h1; grind)
    (show 0 < (a.1 - b.1) * (q.2 - a.2) - (a.2 - b.2) * (q.1 - a.1) by unfold tw at h2; grind)
  unfold tw
  grind

/-- p lies to the left of the line from a to b, or on it between both -/
def Ed (a b p : Int × Int) : Prop := 0 < tw a b p ∨ (tw a b p = 0 ∧ ¬ lx p a ∧ ¬ lx b p)
theorem Ed.nn {a b p : Int × Int} (h : Ed a b p) : 0 ≤ tw a b p := by unfold Ed at h; omega
theorem Ed.left {a b p : Int × Int} (h : Ed a b p) (hp : lx b p) : 0 < tw a b p := by
  rcases h with h | ⟨_, _, h⟩
  · exact h
  · exact absurd hp h
/-- the last one first: each goes on behind the next one of the row, and all points are to the left -/
def Eds (s : List (Int × Int)) : List (Int × Int) → Prop
  | b :: a :: t => lx a b ∧ (∀ p ∈ s, Ed a b p) ∧ Eds s (a :: t)
  | _ => True
def popS (q : Int × Int) : List (Int × Int) → List (Int × Int)
  | b :: a :: t => if tw a b q ≤ 0 then popS q (a :: t) else b :: a :: t
  | l => l
def pushS (st : List (Int × Int)) (q : Int × Int) : List (Int × Int) := q :: popS q st
def chain (s : List (Int × Int)) : List (Int × Int) := s.foldl pushS []
theorem popS_ne (q : Int × Int) : ∀ (st : List (Int × Int)), st ≠ [] → popS q st ≠ []
  | [], h => absurd rfl h
  | [a], _ => by unfold popS; simp
  | b :: a :: t, _ => by
    unfold popS
    split
    · exact popS_ne q (a :: t) (by simp)
    · simp
/-- what stays when points are taken off for q -/
theorem pop_ok {s : List (Int × Int)} {q : Int × Int} (hq : ∀ p ∈ s, lx p q) : ∀ (st : List (Int × Int)), st ≠ [] → (∀ x ∈ st, x ∈ s) → Eds s st → (∀ p ∈ s, ∀ c, st.head? = some c → lx c p → 0 ≤ tw c q p) →
    (∀ x ∈ popS q st, x ∈ s) ∧ Eds s (popS q st) ∧ (popS q st).getLast? = st.getLast? ∧ (∀ p ∈ s, ∀ c, (popS q st).head? = some c → lx c p → 0 ≤ tw c q p) ∧ (∀ b a t, popS q st = b :: a :: t → 0 < tw a b q)
  | [], h, _, _, _ => absurd rfl h
  | [a], _, hm, he, h2 => by
    have e : popS q [a] = [a] := by unfold popS; rfl
    rw [e]
    exact ⟨hm, he, rfl, h2, fun b a' t h => by simp at h⟩
  | b :: a :: t, _, hm, he, h2 => by
    by_cases h : tw a b q ≤ 0
    · have e : popS q (b :: a :: t) = popS q (a :: t) := by rw [popS, if_pos h]
      rw [e]
      have hb : b ∈ s := hm b (by simp)
      have ha : a ∈ s := hm a (by simp)
      have r := pop_ok hq (a :: t) (by simp) (fun x hx => hm x (List.mem_cons_of_mem _ hx)) he.2.2 (fun p hp c hc hcp => by
        simp at hc
        subst hc
        by_cases hbp : lx b p
        · exact hC he.1 hbp (hq p hp) (h2 p hp b rfl hbp) h
        · exact hB he.1 hcp (hq _ ha) h (he.2.1 p hp).nn)
      refine ⟨r.1, r.2.1, ?_, r.2.2.2⟩
      rw [r.2.2.1]; simp
    · have e : popS q (b :: a :: t) = b :: a :: t := by rw [popS, if_neg h]
      rw [e]
      refine ⟨hm, he, rfl, h2, fun b' a' t' h' => ?_⟩
      simp at h'
      obtain ⟨rfl, rfl, _⟩ := h'
      omega
/-- the point q, too, is to the left of all lines -/
theorem eds_more {s : List (Int × Int)} {q : Int × Int} (hq : ∀ p ∈ s, lx p q) : ∀ (st : List (Int × Int)), (∀ x ∈ st, x ∈ s) → Eds s st → (∀ b a t, st = b :: a :: t → 0 < tw a b q) → Eds (s ++ [q]) st
  | [], _, _, _ => trivial
  | [_], _, _, _ => trivial
  | b :: a :: t, hm, he, hb => by
    have h0 := hb b a t rfl
    refine ⟨he.1, fun p hp => ?_, ?_⟩
    · rw [List.mem_append] at hp
      rcases hp with hp | hp
      · exact he.2.1 p hp
      · simp at hp
        subst hp
        exact Or.inl h0
    · refine eds_more hq (a :: t) (fun x hx => hm x (List.mem_cons_of_mem _ hx)) he.2.2 (fun b' a' t' h => ?_)
      simp at h
      obtain ⟨rfl, rfl⟩ := h
      have he2 := he.2.2
      exact hA he2.1 he.1 (hq b (hm b (by simp))) ((he2.2.1 b (hm b (by simp))).left he.1) h0
structure Chn (s st : List (Int × Int)) : Prop where
  mem : ∀ x ∈ st, x ∈ s
  eds : Eds s st
  head : st.head? = s.getLast?
  last : st.getLast? = s.head?
theorem push_ok {s st : List (Int × Int)} {q : Int × Int} (hs : s.Pairwise lx) (hne : s ≠ []) (hq : ∀ p ∈ s, lx p q) (h : Chn s st) : Chn (s ++ [q]) (pushS st q) := by
  have hst : st ≠ [] := by
    intro e
    have := h.head
    rw [e] at this
    simp at this
    exact hne (List.getLast?_eq_none_iff.1 this.symm)
  have hgl : ∀ c, s.getLast? = some c → ∀ p ∈ s, ¬ lx c p := by
    intro c hc p hp hcp
    obtain ⟨ys, rfl⟩ := List.getLast?_eq_some_iff.1 hc
    rw [List.mem_append] at hp
    rcases hp with hp | hp
    · exact lx_irrefl (lx_trans hcp ((List.pairwise_append.1 hs).2.2 p hp c (by simp)))
    · simp at hp; subst hp; exact lx_irrefl hcp
  obtain ⟨r1, r2, r3, r4, r5⟩ := pop_ok hq st hst h.mem h.eds (fun p hp c hc hcp => by
    rw [h.head] at hc
    exact absurd hcp (hgl c hc p hp))
  have hpn := popS_ne q st hst
  refine ⟨?_, ?_, ?_, ?_⟩
  · intro x hx
    unfold pushS at hx
    rw [List.mem_cons] at hx
    rw [List.mem_append]
    rcases hx with hx | hx
    · right; simp [hx]
    · left; exact r1 x hx
  · unfold pushS
    have e2 := eds_more hq (popS q st) r1 r2 r5
    cases hc : popS q st with
    | nil => exact absurd hc hpn
    | cons c t =>
      rw [hc] at r1 r2 r3 r4 r5 e2
      have hcs : c ∈ s := r1 c (by simp)
      refine ⟨hq c hcs, fun p hp => ?_, e2⟩
      rw [List.mem_append] at hp
      rcases hp with hp | hp
      · by_cases h1 : lx c p
        · have := r4 p hp c rfl h1
          by_cases h0 : tw c q p = 0
          · exact Or.inr ⟨h0, fun h => lx_irrefl (lx_trans h1 h), fun h => lx_irrefl (lx_trans h (hq p hp))⟩
          · exact Or.inl (by omega)
        · by_cases h2 : lx p c
          · cases ht : t with
            | nil =>
              exfalso
              rw [ht] at r3
              have e3 : s.head? = some c := by rw [← h.last, ← r3]; rfl
              cases s with
              | nil => simp at e3
              | cons x s' =>
                simp at e3
                subst e3
                rw [List.mem_cons] at hp
                rcases hp with hp | hp
                · subst hp; exact lx_irrefl h2
                · exact lx_irrefl (lx_trans h2 ((List.pairwise_cons.1 hs).1 p hp))
            | cons b t' =>
              rw [ht] at r2 r5
              exact Or.inl (hD r2.1 h2 (hq c hcs) (r2.2.1 p hp).nn (r5 c b t' rfl))
          · have e := lx_total h1 h2
            subst e
            exact Or.inr ⟨tw_self2 _ _, lx_irrefl, fun h => lx_irrefl (lx_trans h (hq c hcs))⟩
      · simp at hp
        subst hp
        exact Or.inr ⟨tw_self _ _, fun h => lx_irrefl (lx_trans h (hq c hcs)), lx_irrefl⟩
  · unfold pushS; simp
  · unfold pushS
    rw [List.getLast?_cons, r3, h.last]
    cases s with
    | nil => exact absurd rfl hne
    | cons x s' => simp
theorem chain_app (s : List (Int × Int)) (q : Int × Int) : chain (s ++ [q]) = pushS (chain s) q := by unfold chain; rw [List.foldl_append]; rfl
theorem chain_ok : ∀ (n : Nat) (s : List (Int × Int)), s.length = n + 1 → s.Pairwise lx → Chn s (chain s)
  | 0, s, hn, _ => by
    match s, hn with
    | [a], _ => exact ⟨fun x hx => hx, trivial, rfl, rfl⟩
  | n + 1, s, hn, hs => by
    have hne : s ≠ [] := by intro e; rw [e] at hn; simp at hn
    have e := List.dropLast_concat_getLast hne
    rw [← e] at hs ⊢
    rw [chain_app]
    have hs2 := List.pairwise_append.1 hs
    have hl : s.dropLast.length = n + 1 := by rw [List.length_dropLast]; omega
    exact push_ok hs2.1 (by intro e; rw [e] at hl; simp at hl) (fun p hp => hs2.2.2 p hp _ (by simp)) (chain_ok n _ hl hs2.1)

theorem sq_lt {a b : Int} (h0 : 0 ≤ a) (h : a < b) : a * a < b * b := by
  have e : b * b - a * a = (b - a) * (b + a) := by grind
  have := Int.mul_pos (show 0 < b - a by omega) (show 0 < b + a by omega)
  omega
/-- seen from f, b is the one farthest to the right, and the farthest on its line -/
def Nx (f b p : Int × Int) : Prop := 0 < tw f b p ∨ (tw f b p = 0 ∧ (p = b ∨ sq p f < sq b f))
theorem nx_of {f b p : Int × Int} (hfb : lx f b) (h : Ed f b p) : Nx f b p := by
  rcases h with h | ⟨h, h1, h2⟩
  · exact Or.inl h
  · refine Or.inr ⟨h, ?_⟩
    unfold lx at *
    unfold tw at h
    unfold sq
    by_cases hx : f.1 = b.1
    · by_cases hp : p.2 = b.2
      · left; apply Prod.ext <;> omega
      · right
        have e1 : p.1 = f.1 := by omega
        have e3 : (b.1 - f.1) = 0 := by omega
        have e4 : (p.1 - f.1) = 0 := by omega
        rw [e3, e4]
        have a1 : 0 ≤ p.2 - f.2 := by omega
        have a2 : p.2 - f.2 < b.2 - f.2 := by omega
        have := sq_lt a1 a2
        omega
    · have hx1 : 0 < b.1 - f.1 := by omega
      have hp0 : 0 ≤ p.1 - f.1 := by omega
      generalize hU : b.1 - f.1 = U at *
      generalize hV : b.2 - f.2 = V at *
      generalize hP : p.1 - f.1 = P at *
      generalize hR : p.2 - f.2 = R at *
      have hPU : P ≤ U := by omega
      by_cases he : P = U
      · left
        subst he
        have e : P * (R - V) = 0 := by grind
        rcases Int.mul_eq_zero.1 e with e | e
        · omega
        · apply Prod.ext <;> omega
      · right
        have hlt : P < U := by omega
        have e : (U * U + V * V - (P * P + R * R)) * (U * U) = (U * U - P * P) * (U * U + V * V) := by grind
        have hUU : 0 < U * U := Int.mul_pos hx1 hx1
        have hVV : 0 ≤ V * V := by
          by_cases hv : 0 ≤ V
          · exact Int.mul_nonneg hv hv
          · have := Int.mul_nonneg (show 0 ≤ -V by omega) (show 0 ≤ -V by omega)
            rw [Int.neg_mul_neg] at this
            exact this
        have hPP : P * P < U * U := sq_lt hp0 hlt
        have := pos_of_mul hUU (show 0 < (U * U + V * V - (P * P + R * R)) * (U * U) by
          rw [e]
          exact Int.mul_pos (by omega) (by omega))
        omega
def neg (p : Int × Int) : Int × Int := (-p.1, -p.2)
theorem neg_neg (p : Int × Int) : neg (neg p) = p := by unfold neg; apply Prod.ext <;> simp
theorem neg_inj {p q : Int × Int} (h : neg p = neg q) : p = q := by rw [← neg_neg p, h, neg_neg]
theorem tw_neg (a b c : Int × Int) : tw (neg a) (neg b) (neg c) = tw a b c := by unfold tw neg; grind
theorem sq_neg (a b : Int × Int) : sq (neg a) (neg b) = sq a b := by unfold sq neg; grind
theorem lx_neg {a b : Int × Int} : lx (neg a) (neg b) ↔ lx b a := by unfold lx neg; simp only; omega
theorem nx_neg {f b p : Int × Int} (h : Nx (neg f) (neg b) (neg p)) : Nx f b p := by
  unfold Nx at *
  rw [tw_neg, sq_neg, sq_neg] at h
  rcases h with h | ⟨h, h1 | h1⟩
  · exact Or.inl h
  · exact Or.inr ⟨h, Or.inl (neg_inj h1)⟩
  · exact Or.inr ⟨h, Or.inr h1⟩
theorem popS_neg (q : Int × Int) : ∀ (st : List (Int × Int)), popS (neg q) (st.map neg) = (popS q st).map neg
  | [] => rfl
  | [a] => rfl
  | b :: a :: t => by
    show popS (neg q) (neg b :: neg a :: t.map neg) = _
    rw [popS, popS, tw_neg]
    by_cases h : tw a b q ≤ 0
    · rw [if_pos h, if_pos h]; exact popS_neg q (a :: t)
    · rw [if_neg h, if_neg h]; rfl
theorem chain_neg (s : List (Int × Int)) : chain (s.map neg) = (chain s).map neg := by
  unfold chain
  rw [List.foldl_map]
  suffices ∀ (st : List (Int × Int)), s.foldl (fun x y => pushS x (neg y)) (st.map neg) = (s.foldl pushS st).map neg from this []
  intro st
  induction s generalizing st with
  | nil => rfl
  | cons q s ih =>
    show s.foldl _ (pushS (st.map neg) (neg q)) = (s.foldl pushS (pushS st q)).map neg
    rw [← ih (pushS st q)]
    congr 1
    unfold pushS
    rw [popS_neg]; rfl
/-- each goes on to the next one -/
def Path (R : Int × Int → Int × Int → Prop) : List (Int × Int) → Prop
  | a :: b :: t => R a b ∧ Path R (b :: t)
  | _ => True
theorem path_app {R : Int × Int → Int × Int → Prop} {y : Int × Int} {m : List (Int × Int)} (hm : Path R (y :: m)) : ∀ (l : List (Int × Int)), Path R (l ++ [y]) → Path R (l ++ y :: m)
  | [], _ => hm
  | [a], h => ⟨h.1, hm⟩
  | a :: b :: t, h => ⟨h.1, path_app hm (b :: t) h.2⟩
theorem path_get {R : Int × Int → Int × Int → Prop} : ∀ (l : List (Int × Int)) (i : Nat) (a b : Int × Int), Path R l → l[i]? = some a → l[i + 1]? = some b → R a b
  | [], i, _, _, _, h, _ => by simp at h
  | [_], i, _, _, _, _, h => by simp at h
  | x :: y :: t, 0, a, b, hp, h1, h2 => by
    simp at h1 h2
    subst h1; subst h2
    exact hp.1
  | x :: y :: t, i + 1, a, b, hp, h1, h2 => path_get (y :: t) i a b hp.2 (by simpa using h1) (by simpa using h2)
/-- what a row of lines tells, told the other way round -/
theorem path_of_eds {s : List (Int × Int)} {R : Int × Int → Int × Int → Prop} (hR : ∀ a b, lx a b → (∀ p ∈ s, Ed a b p) → b ∈ s → R a b) : ∀ (st : List (Int × Int)), (∀ x ∈ st, x ∈ s) → Eds s st → Path R st.reverse
  | [], _, _ => trivial
  | [_], _, _ => trivial
  | b :: a :: t, hm, he => by
    have ih := path_of_eds hR (a :: t) (fun x hx => hm x (List.mem_cons_of_mem _ hx)) he.2.2
    rw [List.reverse_cons, List.reverse_cons, List.append_assoc]
    rw [List.reverse_cons] at ih
    exact path_app (y := a) (m := [b]) ⟨hR a b he.1 he.2.1 (hm b (by simp)), trivial⟩ t.reverse ih
def hull (s : List (Int × Int)) : List (Int × Int) := if s.length < 3 then s else (chain s).tail.reverse ++ (chain s.reverse).tail.reverse
/-- what the next corner behind f is: all points are told from there -/
def Nxt (s : List (Int × Int)) (f b : Int × Int) : Prop := b ∈ s ∧ f ≠ b ∧ ∀ p ∈ s, Nx f b p
theorem lx_ne {a b : Int × Int} (h : lx a b) : a ≠ b := fun e => by subst e; exact lx_irrefl h
theorem low_path {s : List (Int × Int)} {n : Nat} (hn : s.length = n + 1) (hs : s.Pairwise lx) : Path (Nxt s) (chain s).reverse := by
  have h := chain_ok n s hn hs
  exact path_of_eds (fun _ _ hab he hb => ⟨hb, lx_ne hab, fun p hp => nx_of hab (he p hp)⟩) _ h.mem h.eds
theorem rev_sorted {s : List (Int × Int)} (hs : s.Pairwise lx) : (s.reverse.map neg).Pairwise lx := by
  rw [List.pairwise_map, List.pairwise_reverse]
  exact hs.imp fun h => lx_neg.2 h
theorem up_chn {s : List (Int × Int)} {n : Nat} (hn : s.length = n + 1) (hs : s.Pairwise lx) : Chn (s.reverse.map neg) ((chain s.reverse).map neg) := by
  rw [← chain_neg]
  exact chain_ok n _ (by simp [hn]) (rev_sorted hs)
theorem up_path {s : List (Int × Int)} {n : Nat} (hn : s.length = n + 1) (hs : s.Pairwise lx) : Path (Nxt s) (chain s.reverse).reverse := by
  have h := up_chn hn hs
  have hmem : ∀ x, x ∈ s → neg x ∈ s.reverse.map neg := fun x hx => List.mem_map.2 ⟨x, by simpa using hx, rfl⟩
  have p := path_of_eds (R := fun a b => Nxt s (neg a) (neg b)) (fun _ b hab he hb => by
    refine ⟨?_, fun e => lx_ne hab (neg_inj e), fun p hp => ?_⟩
    · obtain ⟨x, hx, rfl⟩ := List.mem_map.1 hb
      rw [neg_neg]; simpa using hx
    · apply nx_neg
      rw [neg_neg, neg_neg]
      exact nx_of hab (he _ (hmem p hp))) _ h.mem h.eds
  have q : ∀ (l : List (Int × Int)), Path (fun a b => Nxt s (neg a) (neg b)) (l.map neg) → Path (Nxt s) l := by
    intro l
    induction l with
    | nil => intro _; trivial
    | cons a t ih =>
      cases t with
      | nil => intro _; trivial
      | cons b t =>
        intro hp
        refine ⟨?_, ih hp.2⟩
        have := hp.1
        simp only [neg_neg] at this
        exact this
  apply q
  rw [List.map_reverse]
  exact p

theorem eds_desc {s : List (Int × Int)} : ∀ (st : List (Int × Int)), Eds s st → st.Pairwise (fun x y => lx y x)
  | [], _ => List.Pairwise.nil
  | [a], _ => List.pairwise_singleton _ a
  | b :: a :: t, he => by
    have ih := eds_desc (a :: t) he.2.2
    refine List.pairwise_cons.2 ⟨fun x hx => ?_, ih⟩
    rw [List.mem_cons] at hx
    rcases hx with hx | hx
    · subst hx; exact he.1
    · exact lx_trans ((List.pairwise_cons.1 ih).1 x hx) he.1
theorem pop_len (q : Int × Int) : ∀ (st : List (Int × Int)), (popS q st).length ≤ st.length
  | [] => Nat.le_refl _
  | [a] => Nat.le_refl _
  | b :: a :: t => by
    rw [popS]
    split
    · have := pop_len q (a :: t)
      simp at this ⊢
      omega
    · exact Nat.le_refl _
theorem chain_len (s : List (Int × Int)) : (chain s).length ≤ s.length := by
  unfold chain
  suffices ∀ (st : List (Int × Int)), (s.foldl pushS st).length ≤ st.length + s.length by
    have := this []
    simpa using this
  intro st
  induction s generalizing st with
  | nil => exact Nat.le_refl _
  | cons q s ih =>
    have h1 := ih (pushS st q)
    have h2 := pop_len q st
    show (s.foldl pushS (pushS st q)).length ≤ _
    unfold pushS at *
    simp at h1 ⊢
    omega
/-- the band goes around: from its first corner back to it -/
theorem hull_ok {s t : List (Int × Int)} {h0 h1 : Int × Int} (hs : (h0 :: h1 :: t).Pairwise lx) (es : s = h0 :: h1 :: t) :
    ∃ R, hull s = h0 :: R ∧ (∀ x ∈ R, lx h0 x ∧ x ∈ s) ∧ Path (Nxt s) (h0 :: R ++ [h0]) := by
  have hmin : ∀ p ∈ s, p ≠ h0 → lx h0 p := by
    intro p hp hne
    rw [es, List.mem_cons] at hp
    rcases hp with hp | hp
    · exact absurd hp hne
    · exact (List.pairwise_cons.1 hs).1 p hp
  rw [← es] at hs
  have hlen : s.length = (t.length + 1) + 1 := by rw [es]; rfl
  unfold hull
  by_cases h3 : s.length < 3
  · rw [if_pos h3]
    have ht : t = [] := by
      cases t with
      | nil => rfl
      | cons _ _ => simp at hlen; omega
    subst ht
    have h01 : lx h0 h1 := hmin h1 (by rw [es]; simp) (by
      intro e; rw [es, e] at hs
      exact lx_irrefl ((List.pairwise_cons.1 hs).1 h0 (by simp)))
    refine ⟨[h1], es, fun x hx => by simp at hx; subst hx; exact ⟨h01, by rw [es]; simp⟩, ?_⟩
    have hE : ∀ p ∈ s, Ed h0 h1 p := by
      intro p hp
      rw [es] at hp
      simp at hp
      rcases hp with hp | hp
      · subst hp; exact Or.inr ⟨tw_self2 _ _, lx_irrefl, fun h => lx_irrefl (lx_trans h01 h)⟩
      · subst hp; exact Or.inr ⟨tw_self _ _, fun h => lx_irrefl (lx_trans h01 h), lx_irrefl⟩
    have hE2 : ∀ p ∈ s, Nx h1 h0 p := by
      intro p hp
      apply nx_neg
      refine nx_of (lx_neg.2 h01) ?_
      have := hE p hp
      rw [es] at hp
      simp at hp
      rcases hp with hp | hp
      · subst hp; exact Or.inr ⟨tw_self _ _, fun h => lx_irrefl (lx_trans h01 (lx_neg.1 h)), lx_irrefl⟩
      · subst hp; exact Or.inr ⟨tw_self2 _ _, lx_irrefl, fun h => lx_irrefl (lx_trans h01 (lx_neg.1 h))⟩
    exact ⟨⟨by rw [es]; simp, lx_ne h01, fun p hp => nx_of h01 (hE p hp)⟩, ⟨by rw [es]; simp, (lx_ne h01).symm, hE2⟩, trivial⟩
  · rw [if_neg h3]
    have C := chain_ok _ s hlen hs
    have U := up_chn hlen hs
    have dC := eds_desc _ C.eds
    have dU := eds_desc _ U.eds
    have pC := low_path hlen hs
    have pU := up_path hlen hs
    have eu1 : (chain s.reverse).head? = some h0 := by
      have := U.head
      rw [List.head?_map, List.getLast?_map, List.getLast?_reverse, es] at this
      rw [es]
      cases h : (chain (h0 :: h1 :: t).reverse).head? with
      | none => rw [h] at this; simp at this
      | some x => rw [h] at this; simp at this; rw [neg_inj this]
    have eu2 : (chain s.reverse).getLast? = s.getLast? := by
      have := U.last
      rw [List.head?_map, List.getLast?_map, List.head?_reverse] at this
      cases h : (chain s.reverse).getLast? with
      | none => rw [h] at this; cases h' : s.getLast? with
        | none => rfl
        | some y => rw [h'] at this; simp at this
      | some x => rw [h] at this; cases h' : s.getLast? with
        | none => rw [h'] at this; simp at this
        | some y => rw [h'] at this; simp at this; rw [neg_inj this]
    have ec1 := C.head
    have ec2 : (chain s).getLast? = some h0 := by rw [C.last, es]; rfl
    have mC := C.mem
    have mU : ∀ x ∈ chain s.reverse, x ∈ s := by
      intro x hx
      have := U.mem (neg x) (List.mem_map.2 ⟨x, hx, rfl⟩)
      obtain ⟨y, hy, e⟩ := List.mem_map.1 this
      rw [← neg_inj e]
      simpa using hy
    have dU2 : (chain s.reverse).Pairwise lx := by
      rw [List.pairwise_map] at dU
      exact dU.imp fun h => lx_neg.1 h
    clear C U dU
    generalize chain s = c at *
    generalize chain s.reverse = u at *
    obtain ⟨lst, hlst⟩ : ∃ z, s.getLast? = some z := by rw [es]; exact ⟨_, List.getLast?_cons⟩
    rw [hlst] at ec1 eu2
    have hne : h0 ≠ lst := by
      intro e
      obtain ⟨ys, hy⟩ := List.getLast?_eq_some_iff.1 hlst
      cases ys with
      | nil => rw [es] at hy; simp at hy
      | cons y ys =>
        have h2 := hs
        rw [hy] at h2
        have e0 : y = h0 := by rw [es] at hy; simp at hy; exact hy.1.symm
        have := (List.pairwise_cons.1 h2).1 lst (by simp)
        rw [e0, ← e] at this
        exact lx_irrefl this
    cases c with
    | nil => simp at ec1
    | cons z c' =>
      simp at ec1
      subst ec1
      cases u with
      | nil => simp at eu1
      | cons y u' =>
        simp at eu1
        subst eu1
        have hc' : c' ≠ [] := by intro e; rw [e] at ec2; simp at ec2; exact hne ec2.symm
        have hc2 : c'.getLast? = some y := by
          rw [List.getLast?_cons] at ec2
          cases h : c'.getLast? with
          | none => exact absurd (List.getLast?_eq_none_iff.1 h) hc'
          | some v => rw [h] at ec2; simp at ec2; rw [ec2]
        obtain ⟨k, hk⟩ := List.getLast?_eq_some_iff.1 hc2
        have hu' : u' ≠ [] := by intro e; rw [e] at eu2; simp at eu2; exact hne eu2
        have hu2 : u'.getLast? = some z := by
          rw [List.getLast?_cons] at eu2
          cases h : u'.getLast? with
          | none => exact absurd (List.getLast?_eq_none_iff.1 h) hu'
          | some v => rw [h] at eu2; simp at eu2; rw [eu2]
        obtain ⟨m, hm⟩ := List.getLast?_eq_some_iff.1 hu2
        subst hk
        subst hm
        refine ⟨k.reverse ++ (m ++ [z]).reverse, by simp, fun x hx => ?_, ?_⟩
        · rw [List.mem_append, List.mem_reverse, List.mem_reverse] at hx
          rcases hx with hx | hx
          · refine ⟨?_, mC x (by simp [hx])⟩
            have := (List.pairwise_append.1 (List.pairwise_cons.1 dC).2).2.2 x hx y (by simp)
            exact this
          · exact ⟨(List.pairwise_cons.1 dU2).1 x hx, mU x (List.mem_cons_of_mem _ hx)⟩
        · have e1 : (z :: (k ++ [y])).reverse = (y :: k.reverse) ++ [z] := by simp
          have e2 : (y :: (m ++ [z])).reverse = z :: (m.reverse ++ [y]) := by simp
          rw [e1] at pC
          rw [e2] at pU
          have := path_app pU _ pC
          simpa using this
/-- one step of the search for the next corner -/
def stepN (f n p : Int × Int) : Int × Int := if tw f n p < 0 ∨ (tw f n p = 0 ∧ sq n f < sq p f) then p else n
theorem sq_self (f : Int × Int) : sq f f = 0 := by unfold sq; grind
theorem mul_self_nn (x : Int) : 0 ≤ x * x := by
  by_cases h : 0 ≤ x
  · exact Int.mul_nonneg h h
  · have := Int.mul_nonneg (show 0 ≤ -x by omega) (show 0 ≤ -x by omega)
    rw [Int.neg_mul_neg] at this
    exact this
theorem sq_pos {f b : Int × Int} (h : f ≠ b) : 0 < sq b f := by
  unfold sq
  have a1 := mul_self_nn (b.1 - f.1)
  have a2 := mul_self_nn (b.2 - f.2)
  by_cases h1 : f.1 = b.1
  · by_cases h2 : f.2 = b.2
    · exact absurd (Prod.ext h1 h2) h
    · by_cases h3 : 0 < b.2 - f.2
      · have := Int.mul_pos h3 h3; omega
      · have := Int.mul_pos (show 0 < -(b.2 - f.2) by omega) (show 0 < -(b.2 - f.2) by omega)
        rw [Int.neg_mul_neg] at this
        omega
  · by_cases h3 : 0 < b.1 - f.1
    · have := Int.mul_pos h3 h3; omega
    · have := Int.mul_pos (show 0 < -(b.1 - f.1) by omega) (show 0 < -(b.1 - f.1) by omega)
      rw [Int.neg_mul_neg] at this
      omega
theorem next_stay {f b : Int × Int} : ∀ (L : List (Int × Int)), (∀ p ∈ L, Nx f b p) → L.foldl (stepN f) b = b
  | [], _ => rfl
  | p :: L, h => by
    have hp := h p (by simp)
    have e : stepN f b p = b := by
      unfold stepN Nx at *
      rcases hp with hp | ⟨hp, h1 | h1⟩
      · rw [if_neg (by omega)]
      · subst h1; split <;> rfl
      · rw [if_neg (by omega)]
    show L.foldl (stepN f) (stepN f b p) = b
    rw [e]
    exact next_stay L fun x hx => h x (List.mem_cons_of_mem _ hx)
theorem next_go {f b : Int × Int} (hf : f ≠ b) : ∀ (L : List (Int × Int)) (n : Int × Int), b ∈ L → (∀ p ∈ L, Nx f b p) → (n = f ∨ Nx f b n) → L.foldl (stepN f) n = b
  | [], _, hb, _, _ => by simp at hb
  | p :: L, n, hb, h, hn => by
    show L.foldl (stepN f) (stepN f n p) = b
    by_cases hp : p = b
    · subst hp
      have e : stepN f n p = p := by
        by_cases hnp : n = p
        · subst hnp; unfold stepN; split <;> rfl
        · unfold stepN
          rw [if_pos]
          rcases hn with hn | hn
          · subst hn
            right
            rw [tw_self1, sq_self]
            exact ⟨rfl, sq_pos hf⟩
          · unfold Nx at hn
            have := tw_swap f p n
            rcases hn with hn | ⟨hn, h1 | h1⟩
            · left; omega
            · exact absurd h1 hnp
            · right; exact ⟨by omega, h1⟩
      rw [e]
      exact next_stay L fun x hx => h x (List.mem_cons_of_mem _ hx)
    · refine next_go hf L _ ?_ (fun x hx => h x (List.mem_cons_of_mem _ hx)) ?_
      · rw [List.mem_cons] at hb
        rcases hb with hb | hb
        · exact absurd hb.symm hp
        · exact hb
      · unfold stepN
        split
        · exact Or.inr (h p (by simp))
        · exact hn
theorem next_ok {s L : List (Int × Int)} {f b : Int × Int} (hL : ∀ p, p ∈ L ↔ p ∈ s) (h : Nxt s f b) : L.foldl (stepN f) f = b :=
  next_go h.2.1 L f ((hL b).2 h.1) (fun p hp => h.2.2 p ((hL p).1 hp)) (Or.inl rfl)
theorem next_one (f : Int × Int) : ∀ (L : List (Int × Int)), (∀ p ∈ L, p = f) → L.foldl (stepN f) f = f
  | [], _ => rfl
  | p :: L, h => by
    show L.foldl (stepN f) (stepN f f p) = f
    have e : stepN f f p = f := by
      have := h p (by simp)
      subst this
      unfold stepN; split <;> rfl
    rw [e]
    exact next_one f L fun x hx => h x (List.mem_cons_of_mem _ hx)
/-- WHAT THE WALK AROUND FINDS: from each corner of the band the next one, and behind the last one the first one -/
theorem band_ok {s t L : List (Int × Int)} {h0 : Int × Int} (hs : s.Pairwise lx) (es : s = h0 :: t) (hL : ∀ p, p ∈ L ↔ p ∈ s) :
    ∃ R, hull s = h0 :: R ∧ (∀ x ∈ R, x ≠ h0) ∧ (∀ x ∈ R, x ∈ s) ∧ ∀ i x y, (h0 :: R ++ [h0])[i]? = some x → (h0 :: R ++ [h0])[i + 1]? = some y → L.foldl (stepN x) x = y := by
  cases t with
  | nil =>
    subst es
    refine ⟨[], rfl, by simp, by simp, fun i x y hx hy => ?_⟩
    match i with
    | 0 =>
      simp at hx hy
      subst hx; subst hy
      exact next_one _ L fun p hp => by have := (hL p).1 hp; simpa using this
    | i + 1 => simp at hy
  | cons h1 t =>
    obtain ⟨R, e, h, hp⟩ := hull_ok (es ▸ hs) es
    exact ⟨R, e, fun x hx => (lx_ne (h x hx).1).symm, fun x hx => (h x hx).2, fun i x y hx hy => next_ok hL (path_get _ i x y hp hx hy)⟩
end MH
end Go.Proofs.Ytheddoinnakneaa
