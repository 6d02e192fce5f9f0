/- joined: Bh Bi Bb Bm0 Bc Bf Bg Tp20 Tb01 Tb00 Bj Bk Bl Bm Bd Ls Bn -/
import Derived.Test.YtheddoinnakneaaZFlatPolygon2
import Derived.OneCell
import Derived.Deep.CutBlock
import Derived.Deep.DeepCutAuto
import Derived.Laws.AppendOwnNone
import Derived.Maps.AppendAt
/- plain: the model's band of points in order is what a walk around finds -/
namespace Go.Proofs.Ytheddoinnakneaa
open Go.ChangeShapes Go.WideShapes Go.ChangeAt Go.RowKit Go.Joins
set_option linter.unusedVariables false
set_option linter.unusedSimpArgs false
set_option maxRecDepth 4000
namespace MH
/-- lexicographic order of points -/
def lx (p q : Int × Int) : Prop := p.1 < q.1 ∨ (p.1 = q.1 ∧ p.2 < q.2)
/-- twice the area of the triangle -/
def tw (a b c : Int × Int) : Int := (b.1 - a.1) * (c.2 - a.2) - (b.2 - a.2) * (c.1 - a.1)
def sq (p f : Int × Int) : Int := (p.1 - f.1) * (p.1 - f.1) + (p.2 - f.2) * (p.2 - f.2)
/-- a vector that points forward -/
def fw (x y : Int) : Prop := 0 < x ∨ (x = 0 ∧ 0 < y)
theorem lx_trans {a b c : Int × Int} (h1 : lx a b) (h2 : lx b c) : lx a c := by unfold lx at *; omega
theorem lx_irrefl {a : Int × Int} : ¬ lx a a := by unfold lx; omega
theorem lx_total {a b : Int × Int} (h1 : ¬ lx a b) (h2 : ¬ lx b a) : a = b := by unfold lx at *; apply Prod.ext <;> omega
theorem nn_of_mul {k x : Int} (hk : 0 < k) (h : 0 ≤ x * k) : 0 ≤ x := by
  by_cases hx : 0 ≤ x
  · exact hx
  · exfalso
    have := Int.mul_pos (show 0 < -x by omega) hk
    rw [Int.neg_mul] at this
    omega
theorem pos_of_mul {k x : Int} (hk : 0 < k) (h : 0 < x * k) : 0 < x := by
  by_cases hx : 0 < x
  · exact hx
  · exfalso
    have := Int.mul_nonneg (show 0 ≤ -x by omega) (Int.le_of_lt hk)
    rw [Int.neg_mul] at this
    omega
/-- forward vectors turn one way: not strictly -/
theorem tr_nn {u1 u2 v1 v2 w1 w2 : Int} (hu : fw u1 u2) (hv : fw v1 v2) (hw : fw w1 w2) (h1 : 0 ≤ u1 * v2 - u2 * v1) (h2 : 0 ≤ v1 * w2 - v2 * w1) : 0 ≤ u1 * w2 - u2 * w1 := by
  rcases hv with hv | ⟨hv, hv2⟩
  · refine nn_of_mul hv ?_
    have e : (u1 * w2 - u2 * w1) * v1 = (u1 * v2 - u2 * v1) * w1 + (v1 * w2 - v2 * w1) * u1 := by grind
    rw [e]
    have a := Int.mul_nonneg h1 (show 0 ≤ w1 by unfold fw at hw; omega)
    have b := Int.mul_nonneg h2 (show 0 ≤ u1 by unfold fw at hu; omega)
    omega
  · subst hv
    have hw0 : w1 = 0 := by
      rcases hw with hw | ⟨hw, _⟩
      · exfalso
        have := Int.mul_pos hv2 hw
        omega
      · exact hw
    subst hw0
    have := Int.mul_nonneg (show 0 ≤ u1 by unfold fw at hu; omega) (show 0 ≤ w2 by unfold fw at hw; omega)
    omega
/-- .. strictly, if the second turn is strict -/
theorem tr_ps {u1 u2 v1 v2 w1 w2 : Int} (hu : fw u1 u2) (hv : fw v1 v2) (hw : fw w1 w2) (h1 : 0 ≤ u1 * v2 - u2 * v1) (h2 : 0 < v1 * w2 - v2 * w1) : 0 < u1 * w2 - u2 * w1 := by
  rcases hv with hv | ⟨hv, hv2⟩
  · refine pos_of_mul hv ?_
    have e : (u1 * w2 - u2 * w1) * v1 = (u1 * v2 - u2 * v1) * w1 + (v1 * w2 - v2 * w1) * u1 := by grind
    rw [e]
    have a := Int.mul_nonneg h1 (show 0 ≤ w1 by unfold fw at hw; omega)
    have hu1 : 0 < u1 := by
      rcases hu with hu | ⟨hu, hu2⟩
      · exact hu
      · exfalso
        subst hu
        have := Int.mul_pos hu2 hv
        omega
    have b := Int.mul_pos h2 hu1
    omega
  · exfalso
    subst hv
    have hw0 : 0 ≤ w1 := by unfold fw at hw; omega
    have := Int.mul_nonneg (Int.le_of_lt hv2) hw0
    omega
theorem fw_of {a b : Int × Int} (h : lx a b) : fw (b.1 - a.1) (b.2 - a.2) := by unfold lx at h; unfold fw; omega
theorem tw_swap (a b c : Int × Int) : tw a c b = - tw a b c := by unfold tw; grind
theorem tw_self (a b : Int × Int) : tw a b b = 0 := by unfold tw; grind
theorem tw_self2 (a b : Int × Int) : tw a b a = 0 := by unfold tw; grind
theorem tw_self1 (a b : Int × Int) : tw a a b = 0 := by unfold tw; grind
theorem hA {a b c q : Int × Int} (hab : lx a b) (hbc : lx b c) (hcq : lx c q) (h1 : 0 < tw a b c) (h2 : 0 < tw b c q) : 0 < tw a b q := by
  have t := tr_ps (fw_of hab) (fw_of hbc) (fw_of hcq)
    (show 0 ≤ (b.1 - a.1) * (c.2 - b.2) - (b.2 - a.2) * (c.1 - b.1) by unfold tw at h1; grind)
    (show 0 < (c.1 - b.1) * (q.2 - c.2) - (c.2 - b.2) * (q.1 - c.1) by unfold tw at h2; grind)
  unfold tw at *
  grind
theorem hB {a b p q : Int × Int} (hab : lx a b) (hap : lx a p) (haq : lx a q) (h1 : tw a b q ≤ 0) (h2 : 0 ≤ tw a b p) : 0 ≤ tw a q p := by
  have t := tr_nn (fw_of haq) (fw_of hab) (fw_of hap)
    (show 0 ≤ (q.1 - a.1) * (b.2 - a.2) - (q.2 - a.2) * (b.1 - a.1) by unfold tw at h1; grind)
    (show 0 ≤ (b.1 - a.1) * (p.2 - a.2) - (b.2 - a.2) * (p.1 - a.1) by unfold tw at h2; grind)
  unfold tw; exact t
theorem hC {a b p q : Int × Int} (hab : lx a b) (hbp : lx b p) (hpq : lx p q) (h1 : 0 ≤ tw b q p) (h2 : tw a b q ≤ 0) : 0 ≤ tw a q p := by
  have t := tr_nn (fw_of hpq) (fw_of (lx_trans hbp hpq)) (fw_of hab)
    (show 0 ≤ (q.1 - p.1) * (q.2 - b.2) - (q.2 - p.2) * (q.1 - b.1) by unfold tw at h1; grind)
    (show 0 ≤ (q.1 - b.1) * (b.2 - a.2) - (q.2 - b.2) * (b.1 - a.1) by unfold tw at h2; grind)
  unfold tw at *
  grind
theorem hD {a b p q : Int × Int} (hba : lx b a) (hpa : lx p a) (haq : lx a q) (h1 : 0 ≤ tw b a p) (h2 : 0 < tw b a q) : 0 < tw a q p := by
  have t := tr_ps (fw_of hpa) (fw_of hba) (fw_of haq)
    (show 0 ≤ (a.1 - p.1) * (a.2 - b.2) - (a.2 - p.2) * (a.1 - b.1) by unfold tw at h1; grind)
    (show 0 < (a.1 - b.1) * (q.2 - a.2) - (a.2 - b.2) * (q.1 - a.1) by unfold tw at h2; grind)
  unfold tw
  grind

/-- p lies to the left of the line from a to b, or on it between both -/
def Ed (a b p : Int × Int) : Prop := 0 < tw a b p ∨ (tw a b p = 0 ∧ ¬ lx p a ∧ ¬ lx b p)
theorem Ed.nn {a b p : Int × Int} (h : Ed a b p) : 0 ≤ tw a b p := by unfold Ed at h; omega
theorem Ed.left {a b p : Int × Int} (h : Ed a b p) (hp : lx b p) : 0 < tw a b p := by
  rcases h with h | ⟨_, _, h⟩
  · exact h
  · exact absurd hp h
/-- the last one first: each goes on behind the next one of the row, and all points are to the left -/
def Eds (s : List (Int × Int)) : List (Int × Int) → Prop
  | b :: a :: t => lx a b ∧ (∀ p ∈ s, Ed a b p) ∧ Eds s (a :: t)
  | _ => True
def popS (q : Int × Int) : List (Int × Int) → List (Int × Int)
  | b :: a :: t => if tw a b q ≤ 0 then popS q (a :: t) else b :: a :: t
  | l => l
def pushS (st : List (Int × Int)) (q : Int × Int) : List (Int × Int) := q :: popS q st
def chain (s : List (Int × Int)) : List (Int × Int) := s.foldl pushS []
theorem popS_ne (q : Int × Int) : ∀ (st : List (Int × Int)), st ≠ [] → popS q st ≠ []
  | [], h => absurd rfl h
  | [a], _ => by unfold popS; simp
  | b :: a :: t, _ => by
    unfold popS
    split
    · exact popS_ne q (a :: t) (by simp)
    · simp
/-- what stays when points are taken off for q -/
theorem pop_ok {s : List (Int × Int)} {q : Int × Int} (hq : ∀ p ∈ s, lx p q) : ∀ (st : List (Int × Int)), st ≠ [] → (∀ x ∈ st, x ∈ s) → Eds s st → (∀ p ∈ s, ∀ c, st.head? = some c → lx c p → 0 ≤ tw c q p) →
    (∀ x ∈ popS q st, x ∈ s) ∧ Eds s (popS q st) ∧ (popS q st).getLast? = st.getLast? ∧ (∀ p ∈ s, ∀ c, (popS q st).head? = some c → lx c p → 0 ≤ tw c q p) ∧ (∀ b a t, popS q st = b :: a :: t → 0 < tw a b q)
  | [], h, _, _, _ => absurd rfl h
  | [a], _, hm, he, h2 => by
    have e : popS q [a] = [a] := by unfold popS; rfl
    rw [e]
    exact ⟨hm, he, rfl, h2, fun b a' t h => by simp at h⟩
  | b :: a :: t, _, hm, he, h2 => by
    by_cases h : tw a b q ≤ 0
    · have e : popS q (b :: a :: t) = popS q (a :: t) := by rw [popS, if_pos h]
      rw [e]
      have hb : b ∈ s := hm b (by simp)
      have ha : a ∈ s := hm a (by simp)
      have r := pop_ok hq (a :: t) (by simp) (fun x hx => hm x (List.mem_cons_of_mem _ hx)) he.2.2 (fun p hp c hc hcp => by
        simp at hc
        subst hc
        by_cases hbp : lx b p
        · exact hC he.1 hbp (hq p hp) (h2 p hp b rfl hbp) h
        · exact hB he.1 hcp (hq _ ha) h (he.2.1 p hp).nn)
      refine ⟨r.1, r.2.1, ?_, r.2.2.2⟩
      rw [r.2.2.1]; simp
    · have e : popS q (b :: a :: t) = b :: a :: t := by rw [popS, if_neg h]
      rw [e]
      refine ⟨hm, he, rfl, h2, fun b' a' t' h' => ?_⟩
      simp at h'
      obtain ⟨rfl, rfl, _⟩ := h'
      omega
/-- the point q, too, is to the left of all lines -/
theorem eds_more {s : List (Int × Int)} {q : Int × Int} (hq : ∀ p ∈ s, lx p q) : ∀ (st : List (Int × Int)), (∀ x ∈ st, x ∈ s) → Eds s st → (∀ b a t, st = b :: a :: t → 0 < tw a b q) → Eds (s ++ [q]) st
  | [], _, _, _ => trivial
  | [_], _, _, _ => trivial
  | b :: a :: t, hm, he, hb => by
    have h0 := hb b a t rfl
    refine ⟨he.1, fun p hp => ?_, ?_⟩
    · rw [List.mem_append] at hp
      rcases hp with hp | hp
      · exact he.2.1 p hp
      · simp at hp
        subst hp
        exact Or.inl h0
    · refine eds_more hq (a :: t) (fun x hx => hm x (List.mem_cons_of_mem _ hx)) he.2.2 (fun b' a' t' h => ?_)
      simp at h
      obtain ⟨rfl, rfl⟩ := h
      have he2 := he.2.2
      exact hA he2.1 he.1 (hq b (hm b (by simp))) ((he2.2.1 b (hm b (by simp))).left he.1) h0
structure Chn (s st : List (Int × Int)) : Prop where
  mem : ∀ x ∈ st, x ∈ s
  eds : Eds s st
  head : st.head? = s.getLast?
  last : st.getLast? = s.head?
theorem push_ok {s st : List (Int × Int)} {q : Int × Int} (hs : s.Pairwise lx) (hne : s ≠ []) (hq : ∀ p ∈ s, lx p q) (h : Chn s st) : Chn (s ++ [q]) (pushS st q) := by
  have hst : st ≠ [] := by
    intro e
    have := h.head
    rw [e] at this
    simp at this
    exact hne (List.getLast?_eq_none_iff.1 this.symm)
  have hgl : ∀ c, s.getLast? = some c → ∀ p ∈ s, ¬ lx c p := by
    intro c hc p hp hcp
    obtain ⟨ys, rfl⟩ := List.getLast?_eq_some_iff.1 hc
    rw [List.mem_append] at hp
    rcases hp with hp | hp
    · exact lx_irrefl (lx_trans hcp ((List.pairwise_append.1 hs).2.2 p hp c (by simp)))
    · simp at hp; subst hp; exact lx_irrefl hcp
  obtain ⟨r1, r2, r3, r4, r5⟩ := pop_ok hq st hst h.mem h.eds (fun p hp c hc hcp => by
    rw [h.head] at hc
    exact absurd hcp (hgl c hc p hp))
  have hpn := popS_ne q st hst
  refine ⟨?_, ?_, ?_, ?_⟩
  · intro x hx
    unfold pushS at hx
    rw [List.mem_cons] at hx
    rw [List.mem_append]
    rcases hx with hx | hx
    · right; simp [hx]
    · left; exact r1 x hx
  · unfold pushS
    have e2 := eds_more hq (popS q st) r1 r2 r5
    cases hc : popS q st with
    | nil => exact absurd hc hpn
    | cons c t =>
      rw [hc] at r1 r2 r3 r4 r5 e2
      have hcs : c ∈ s := r1 c (by simp)
      refine ⟨hq c hcs, fun p hp => ?_, e2⟩
      rw [List.mem_append] at hp
      rcases hp with hp | hp
      · by_cases h1 : lx c p
        · have := r4 p hp c rfl h1
          by_cases h0 : tw c q p = 0
          · exact Or.inr ⟨h0, fun h => lx_irrefl (lx_trans h1 h), fun h => lx_irrefl (lx_trans h (hq p hp))⟩
          · exact Or.inl (by omega)
        · by_cases h2 : lx p c
          · cases ht : t with
            | nil =>
              exfalso
              rw [ht] at r3
              have e3 : s.head? = some c := by rw [← h.last, ← r3]; rfl
              cases s with
              | nil => simp at e3
              | cons x s' =>
                simp at e3
                subst e3
                rw [List.mem_cons] at hp
                rcases hp with hp | hp
                · subst hp; exact lx_irrefl h2
                · exact lx_irrefl (lx_trans h2 ((List.pairwise_cons.1 hs).1 p hp))
            | cons b t' =>
              rw [ht] at r2 r5
              exact Or.inl (hD r2.1 h2 (hq c hcs) (r2.2.1 p hp).nn (r5 c b t' rfl))
          · have e := lx_total h1 h2
            subst e
            exact Or.inr ⟨tw_self2 _ _, lx_irrefl, fun h => lx_irrefl (lx_trans h (hq c hcs))⟩
      · simp at hp
        subst hp
        exact Or.inr ⟨tw_self _ _, fun h => lx_irrefl (lx_trans h (hq c hcs)), lx_irrefl⟩
  · unfold pushS; simp
  · unfold pushS
    rw [List.getLast?_cons, r3, h.last]
    cases s with
    | nil => exact absurd rfl hne
    | cons x s' => simp
theorem chain_app (s : List (Int × Int)) (q : Int × Int) : chain (s ++ [q]) = pushS (chain s) q := by unfold chain; rw [List.foldl_append]; rfl
theorem chain_ok : ∀ (n : Nat) (s : List (Int × Int)), s.length = n + 1 → s.Pairwise lx → Chn s (chain s)
  | 0, s, hn, _ => by
    match s, hn with
    | [a], _ => exact ⟨fun x hx => hx, trivial, rfl, rfl⟩
  | n + 1, s, hn, hs => by
    have hne : s ≠ [] := by intro e; rw [e] at hn; simp at hn
    have e := List.dropLast_concat_getLast hne
    rw [← e] at hs ⊢
    rw [chain_app]
    have hs2 := List.pairwise_append.1 hs
    have hl : s.dropLast.length = n + 1 := by rw [List.length_dropLast]; omega
    exact push_ok hs2.1 (by intro e; rw [e] at hl; simp at hl) (fun p hp => hs2.2.2 p hp _ (by simp)) (chain_ok n _ hl hs2.1)

theorem sq_lt {a b : Int} (h0 : 0 ≤ a) (h : a < b) : a * a < b * b := by
  have e : b * b - a * a = (b - a) * (b + a) := by grind
  have := Int.mul_pos (show 0 < b - a by omega) (show 0 < b + a by omega)
  omega
/-- seen from f, b is the one farthest to the right, and the farthest on its line -/
def Nx (f b p : Int × Int) : Prop := 0 < tw f b p ∨ (tw f b p = 0 ∧ (p = b ∨ sq p f < sq b f))
theorem nx_of {f b p : Int × Int} (hfb : lx f b) (h : Ed f b p) : Nx f b p := by
  rcases h with h | ⟨h, h1, h2⟩
  · exact Or.inl h
  · refine Or.inr ⟨h, ?_⟩
    unfold lx at *
    unfold tw at h
    unfold sq
    by_cases hx : f.1 = b.1
    · by_cases hp : p.2 = b.2
      · left; apply Prod.ext <;> omega
      · right
        have e1 : p.1 = f.1 := by omega
        have e3 : (b.1 - f.1) = 0 := by omega
        have e4 : (p.1 - f.1) = 0 := by omega
        rw [e3, e4]
        have a1 : 0 ≤ p.2 - f.2 := by omega
        have a2 : p.2 - f.2 < b.2 - f.2 := by omega
        have := sq_lt a1 a2
        omega
    · have hx1 : 0 < b.1 - f.1 := by omega
      have hp0 : 0 ≤ p.1 - f.1 := by omega
      generalize hU : b.1 - f.1 = U at *
      generalize hV : b.2 - f.2 = V at *
      generalize hP : p.1 - f.1 = P at *
      generalize hR : p.2 - f.2 = R at *
      have hPU : P ≤ U := by omega
      by_cases he : P = U
      · left
        subst he
        have e : P * (R - V) = 0 := by grind
        rcases Int.mul_eq_zero.1 e with e | e
        · omega
        · apply Prod.ext <;> omega
      · right
        have hlt : P < U := by omega
        have e : (U * U + V * V - (P * P + R * R)) * (U * U) = (U * U - P * P) * (U * U + V * V) := by grind
        have hUU : 0 < U * U := Int.mul_pos hx1 hx1
        have hVV : 0 ≤ V * V := by
          by_cases hv : 0 ≤ V
          · exact Int.mul_nonneg hv hv
          · have := Int.mul_nonneg (show 0 ≤ -V by omega) (show 0 ≤ -V by omega)
            rw [Int.neg_mul_neg] at this
            exact this
        have hPP : P * P < U * U := sq_lt hp0 hlt
        have := pos_of_mul hUU (show 0 < (U * U + V * V - (P * P + R * R)) * (U * U) by
          rw [e]
          exact Int.mul_pos (by omega) (by omega))
        omega
def neg (p : Int × Int) : Int × Int := (-p.1, -p.2)
theorem neg_neg (p : Int × Int) : neg (neg p) = p := by unfold neg; apply Prod.ext <;> simp
theorem neg_inj {p q : Int × Int} (h : neg p = neg q) : p = q := by rw [← neg_neg p, h, neg_neg]
theorem tw_neg (a b c : Int × Int) : tw (neg a) (neg b) (neg c) = tw a b c := by unfold tw neg; grind
theorem sq_neg (a b : Int × Int) : sq (neg a) (neg b) = sq a b := by unfold sq neg; grind
theorem lx_neg {a b : Int × Int} : lx (neg a) (neg b) ↔ lx b a := by unfold lx neg; simp only; omega
theorem nx_neg {f b p : Int × Int} (h : Nx (neg f) (neg b) (neg p)) : Nx f b p := by
  unfold Nx at *
  rw [tw_neg, sq_neg, sq_neg] at h
  rcases h with h | ⟨h, h1 | h1⟩
  · exact Or.inl h
  · exact Or.inr ⟨h, Or.inl (neg_inj h1)⟩
  · exact Or.inr ⟨h, Or.inr h1⟩
theorem popS_neg (q : Int × Int) : ∀ (st : List (Int × Int)), popS (neg q) (st.map neg) = (popS q st).map neg
  | [] => rfl
  | [a] => rfl
  | b :: a :: t => by
    show popS (neg q) (neg b :: neg a :: t.map neg) = _
    rw [popS, popS, tw_neg]
    by_cases h : tw a b q ≤ 0
    · rw [if_pos h, if_pos h]; exact popS_neg q (a :: t)
    · rw [if_neg h, if_neg h]; rfl
theorem chain_neg (s : List (Int × Int)) : chain (s.map neg) = (chain s).map neg := by
  unfold chain
  rw [List.foldl_map]
  suffices ∀ (st : List (Int × Int)), s.foldl (fun x y => pushS x (neg y)) (st.map neg) = (s.foldl pushS st).map neg from this []
  intro st
  induction s generalizing st with
  | nil => rfl
  | cons q s ih =>
    show s.foldl _ (pushS (st.map neg) (neg q)) = (s.foldl pushS (pushS st q)).map neg
    rw [← ih (pushS st q)]
    congr 1
    unfold pushS
    rw [popS_neg]; rfl
/-- each goes on to the next one -/
def Path (R : Int × Int → Int × Int → Prop) : List (Int × Int) → Prop
  | a :: b :: t => R a b ∧ Path R (b :: t)
  | _ => True
theorem path_app {R : Int × Int → Int × Int → Prop} {y : Int × Int} {m : List (Int × Int)} (hm : Path R (y :: m)) : ∀ (l : List (Int × Int)), Path R (l ++ [y]) → Path R (l ++ y :: m)
  | [], _ => hm
  | [a], h => ⟨h.1, hm⟩
  | a :: b :: t, h => ⟨h.1, path_app hm (b :: t) h.2⟩
theorem path_get {R : Int × Int → Int × Int → Prop} : ∀ (l : List (Int × Int)) (i : Nat) (a b : Int × Int), Path R l → l[i]? = some a → l[i + 1]? = some b → R a b
  | [], i, _, _, _, h, _ => by simp at h
  | [_], i, _, _, _, _, h => by simp at h
  | x :: y :: t, 0, a, b, hp, h1, h2 => by
    simp at h1 h2
    subst h1; subst h2
    exact hp.1
  | x :: y :: t, i + 1, a, b, hp, h1, h2 => path_get (y :: t) i a b hp.2 (by simpa using h1) (by simpa using h2)
/-- what a row of lines tells, told the other way round -/
theorem path_of_eds {s : List (Int × Int)} {R : Int × Int → Int × Int → Prop} (hR : ∀ a b, lx a b → (∀ p ∈ s, Ed a b p) → b ∈ s → R a b) : ∀ (st : List (Int × Int)), (∀ x ∈ st, x ∈ s) → Eds s st → Path R st.reverse
  | [], _, _ => trivial
  | [_], _, _ => trivial
  | b :: a :: t, hm, he => by
    have ih := path_of_eds hR (a :: t) (fun x hx => hm x (List.mem_cons_of_mem _ hx)) he.2.2
    rw [List.reverse_cons, List.reverse_cons, List.append_assoc]
    rw [List.reverse_cons] at ih
    exact path_app (y := a) (m := [b]) ⟨hR a b he.1 he.2.1 (hm b (by simp)), trivial⟩ t.reverse ih
def hull (s : List (Int × Int)) : List (Int × Int) := if s.length < 3 then s else (chain s).tail.reverse ++ (chain s.reverse).tail.reverse
/-- what the next corner behind f is: all points are told from there -/
def Nxt (s : List (Int × Int)) (f b : Int × Int) : Prop := b ∈ s ∧ f ≠ b ∧ ∀ p ∈ s, Nx f b p
theorem lx_ne {a b : Int × Int} (h : lx a b) : a ≠ b := fun e => by subst e; exact lx_irrefl h
theorem low_path {s : List (Int × Int)} {n : Nat} (hn : s.length = n + 1) (hs : s.Pairwise lx) : Path (Nxt s) (chain s).reverse := by
  have h := chain_ok n s hn hs
  exact path_of_eds (fun _ _ hab he hb => ⟨hb, lx_ne hab, fun p hp => nx_of hab (he p hp)⟩) _ h.mem h.eds
theorem rev_sorted {s : List (Int × Int)} (hs : s.Pairwise lx) : (s.reverse.map neg).Pairwise lx := by
  rw [List.pairwise_map, List.pairwise_reverse]
  exact hs.imp fun h => lx_neg.2 h
theorem up_chn {s : List (Int × Int)} {n : Nat} (hn : s.length = n + 1) (hs : s.Pairwise lx) : Chn (s.reverse.map neg) ((chain s.reverse).map neg) := by
  rw [← chain_neg]
  exact chain_ok n _ (by simp [hn]) (rev_sorted hs)
theorem up_path {s : List (Int × Int)} {n : Nat} (hn : s.length = n + 1) (hs : s.Pairwise lx) : Path (Nxt s) (chain s.reverse).reverse := by
  have h := up_chn hn hs
  have hmem : ∀ x, x ∈ s → neg x ∈ s.reverse.map neg := fun x hx => List.mem_map.2 ⟨x, by simpa using hx, rfl⟩
  have p := path_of_eds (R := fun a b => Nxt s (neg a) (neg b)) (fun _ b hab he hb => by
    refine ⟨?_, fun e => lx_ne hab (neg_inj e), fun p hp => ?_⟩
    · obtain ⟨x, hx, rfl⟩ := List.mem_map.1 hb
      rw [neg_neg]; simpa using hx
    · apply nx_neg
      rw [neg_neg, neg_neg]
      exact nx_of hab (he _ (hmem p hp))) _ h.mem h.eds
  have q : ∀ (l : List (Int × Int)), Path (fun a b => Nxt s (neg a) (neg b)) (l.map neg) → Path (Nxt s) l := by
    intro l
    induction l with
    | nil => intro _; trivial
    | cons a t ih =>
      cases t with
      | nil => intro _; trivial
      | cons b t =>
        intro hp
        refine ⟨?_, ih hp.2⟩
        have := hp.1
        simp only [neg_neg] at this
        exact this
  apply q
  rw [List.map_reverse]
  exact p

theorem eds_desc {s : List (Int × Int)} : ∀ (st : List (Int × Int)), Eds s st → st.Pairwise (fun x y => lx y x)
  | [], _ => List.Pairwise.nil
  | [a], _ => List.pairwise_singleton _ a
  | b :: a :: t, he => by
    have ih := eds_desc (a :: t) he.2.2
    refine List.pairwise_cons.2 ⟨fun x hx => ?_, ih⟩
    rw [List.mem_cons] at hx
    rcases hx with hx | hx
    · subst hx; exact he.1
    · exact lx_trans ((List.pairwise_cons.1 ih).1 x hx) he.1
theorem pop_len (q : Int × Int) : ∀ (st : List (Int × Int)), (popS q st).length ≤ st.length
  | [] => Nat.le_refl _
  | [a] => Nat.le_refl _
  | b :: a :: t => by
    rw [popS]
    split
    · have := pop_len q (a :: t)
      simp at this ⊢
      omega
    · exact Nat.le_refl _
theorem chain_len (s : List (Int × Int)) : (chain s).length ≤ s.length := by
  unfold chain
  suffices ∀ (st : List (Int × Int)), (s.foldl pushS st).length ≤ st.length + s.length by
    have := this []
    simpa using this
  intro st
  induction s generalizing st with
  | nil => exact Nat.le_refl _
  | cons q s ih =>
    have h1 := ih (pushS st q)
    have h2 := pop_len q st
    show (s.foldl pushS (pushS st q)).length ≤ _
    unfold pushS at *
    simp at h1 ⊢
    omega
/-- the band goes around: from its first corner back to it -/
theorem hull_ok {s t : List (Int × Int)} {h0 h1 : Int × Int} (hs : (h0 :: h1 :: t).Pairwise lx) (es : s = h0 :: h1 :: t) :
    ∃ R, hull s = h0 :: R ∧ (∀ x ∈ R, lx h0 x ∧ x ∈ s) ∧ Path (Nxt s) (h0 :: R ++ [h0]) := by
  have hmin : ∀ p ∈ s, p ≠ h0 → lx h0 p := by
    intro p hp hne
    rw [es, List.mem_cons] at hp
    rcases hp with hp | hp
    · exact absurd hp hne
    · exact (List.pairwise_cons.1 hs).1 p hp
  rw [← es] at hs
  have hlen : s.length = (t.length + 1) + 1 := by rw [es]; rfl
  unfold hull
  by_cases h3 : s.length < 3
  · rw [if_pos h3]
    have ht : t = [] := by
      cases t with
      | nil => rfl
      | cons _ _ => simp at hlen; omega
    subst ht
    have h01 : lx h0 h1 := hmin h1 (by rw [es]; simp) (by
      intro e; rw [es, e] at hs
      exact lx_irrefl ((List.pairwise_cons.1 hs).1 h0 (by simp)))
    refine ⟨[h1], es, fun x hx => by simp at hx; subst hx; exact ⟨h01, by rw [es]; simp⟩, ?_⟩
    have hE : ∀ p ∈ s, Ed h0 h1 p := by
      intro p hp
      rw [es] at hp
      simp at hp
      rcases hp with hp | hp
      · subst hp; exact Or.inr ⟨tw_self2 _ _, lx_irrefl, fun h => lx_irrefl (lx_trans h01 h)⟩
      · subst hp; exact Or.inr ⟨tw_self _ _, fun h => lx_irrefl (lx_trans h01 h), lx_irrefl⟩
    have hE2 : ∀ p ∈ s, Nx h1 h0 p := by
      intro p hp
      apply nx_neg
      refine nx_of (lx_neg.2 h01) ?_
      have := hE p hp
      rw [es] at hp
      simp at hp
      rcases hp with hp | hp
      · subst hp; exact Or.inr ⟨tw_self _ _, fun h => lx_irrefl (lx_trans h01 (lx_neg.1 h)), lx_irrefl⟩
      · subst hp; exact Or.inr ⟨tw_self2 _ _, lx_irrefl, fun h => lx_irrefl (lx_trans h01 (lx_neg.1 h))⟩
    exact ⟨⟨by rw [es]; simp, lx_ne h01, fun p hp => nx_of h01 (hE p hp)⟩, ⟨by rw [es]; simp, (lx_ne h01).symm, hE2⟩, trivial⟩
  · rw [if_neg h3]
    have C := chain_ok _ s hlen hs
    have U := up_chn hlen hs
    have dC := eds_desc _ C.eds
    have dU := eds_desc _ U.eds
    have pC := low_path hlen hs
    have pU := up_path hlen hs
    have eu1 : (chain s.reverse).head? = some h0 := by
      have := U.head
      rw [List.head?_map, List.getLast?_map, List.getLast?_reverse, es] at this
      rw [es]
      cases h : (chain (h0 :: h1 :: t).reverse).head? with
      | none => rw [h] at this; simp at this
      | some x => rw [h] at this; simp at this; rw [neg_inj this]
    have eu2 : (chain s.reverse).getLast? = s.getLast? := by
      have := U.last
      rw [List.head?_map, List.getLast?_map, List.head?_reverse] at this
      cases h : (chain s.reverse).getLast? with
      | none => rw [h] at this; cases h' : s.getLast? with
        | none => rfl
        | some y => rw [h'] at this; simp at this
      | some x => rw [h] at this; cases h' : s.getLast? with
        | none => rw [h'] at this; simp at this
        | some y => rw [h'] at this; simp at this; rw [neg_inj this]
    have ec1 := C.head
    have ec2 : (chain s).getLast? = some h0 := by rw [C.last, es]; rfl
    have mC := C.mem
    have mU : ∀ x ∈ chain s.reverse, x ∈ s := by
      intro x hx
      have := U.mem (neg x) (List.mem_map.2 ⟨x, hx, rfl⟩)
      obtain ⟨y, hy, e⟩ := List.mem_map.1 this
      rw [← neg_inj e]
      simpa using hy
    have dU2 : (chain s.reverse).Pairwise lx := by
      rw [List.pairwise_map] at dU
      exact dU.imp fun h => lx_neg.1 h
    clear C U dU
    generalize chain s = c at *
    generalize chain s.reverse = u at *
    obtain ⟨lst, hlst⟩ : ∃ z, s.getLast? = some z := by rw [es]; exact ⟨_, List.getLast?_cons⟩
    rw [hlst] at ec1 eu2
    have hne : h0 ≠ lst := by
      intro e
      obtain ⟨ys, hy⟩ := List.getLast?_eq_some_iff.1 hlst
      cases ys with
      | nil => rw [es] at hy; simp at hy
      | cons y ys =>
        have h2 := hs
        rw [hy] at h2
        have e0 : y = h0 := by rw [es] at hy; simp at hy; exact hy.1.symm
        have := (List.pairwise_cons.1 h2).1 lst (by simp)
        rw [e0, ← e] at this
        exact lx_irrefl this
    cases c with
    | nil => simp at ec1
    | cons z c' =>
      simp at ec1
      subst ec1
      cases u with
      | nil => simp at eu1
      | cons y u' =>
        simp at eu1
        subst eu1
        have hc' : c' ≠ [] := by intro e; rw [e] at ec2; simp at ec2; exact hne ec2.symm
        have hc2 : c'.getLast? = some y := by
          rw [List.getLast?_cons] at ec2
          cases h : c'.getLast? with
          | none => exact absurd (List.getLast?_eq_none_iff.1 h) hc'
          | some v => rw [h] at ec2; simp at ec2; rw [ec2]
        obtain ⟨k, hk⟩ := List.getLast?_eq_some_iff.1 hc2
        have hu' : u' ≠ [] := by intro e; rw [e] at eu2; simp at eu2; exact hne eu2
        have hu2 : u'.getLast? = some z := by
          rw [List.getLast?_cons] at eu2
          cases h : u'.getLast? with
          | none => exact absurd (List.getLast?_eq_none_iff.1 h) hu'
          | some v => rw [h] at eu2; simp at eu2; rw [eu2]
        obtain ⟨m, hm⟩ := List.getLast?_eq_some_iff.1 hu2
        subst hk
        subst hm
        refine ⟨k.reverse ++ (m ++ [z]).reverse, by simp, fun x hx => ?_, ?_⟩
        · rw [List.mem_append, List.mem_reverse, List.mem_reverse] at hx
          rcases hx with hx | hx
          · refine ⟨?_, mC x (by simp [hx])⟩
            have := (List.pairwise_append.1 (List.pairwise_cons.1 dC).2).2.2 x hx y (by simp)
            exact this
          · exact ⟨(List.pairwise_cons.1 dU2).1 x hx, mU x (List.mem_cons_of_mem _ hx)⟩
        · have e1 : (z :: (k ++ [y])).reverse = (y :: k.reverse) ++ [z] := by simp
          have e2 : (y :: (m ++ [z])).reverse = z :: (m.reverse ++ [y]) := by simp
          rw [e1] at pC
          rw [e2] at pU
          have := path_app pU _ pC
          simpa using this
/-- one step of the search for the next corner -/
def stepN (f n p : Int × Int) : Int × Int := if tw f n p < 0 ∨ (tw f n p = 0 ∧ sq n f < sq p f) then p else n
theorem sq_self (f : Int × Int) : sq f f = 0 := by unfold sq; grind
theorem mul_self_nn (x : Int) : 0 ≤ x * x := by
  by_cases h : 0 ≤ x
  · exact Int.mul_nonneg h h
  · have := Int.mul_nonneg (show 0 ≤ -x by omega) (show 0 ≤ -x by omega)
    rw [Int.neg_mul_neg] at this
    exact this
theorem sq_pos {f b : Int × Int} (h : f ≠ b) : 0 < sq b f := by
  unfold sq
  have a1 := mul_self_nn (b.1 - f.1)
  have a2 := mul_self_nn (b.2 - f.2)
  by_cases h1 : f.1 = b.1
  · by_cases h2 : f.2 = b.2
    · exact absurd (Prod.ext h1 h2) h
    · by_cases h3 : 0 < b.2 - f.2
      · have := Int.mul_pos h3 h3; omega
      · have := Int.mul_pos (show 0 < -(b.2 - f.2) by omega) (show 0 < -(b.2 - f.2) by omega)
        rw [Int.neg_mul_neg] at this
        omega
  · by_cases h3 : 0 < b.1 - f.1
    · have := Int.mul_pos h3 h3; omega
    · have := Int.mul_pos (show 0 < -(b.1 - f.1) by omega) (show 0 < -(b.1 - f.1) by omega)
      rw [Int.neg_mul_neg] at this
      omega
theorem next_stay {f b : Int × Int} : ∀ (L : List (Int × Int)), (∀ p ∈ L, Nx f b p) → L.foldl (stepN f) b = b
  | [], _ => rfl
  | p :: L, h => by
    have hp := h p (by simp)
    have e : stepN f b p = b := by
      unfold stepN Nx at *
      rcases hp with hp | ⟨hp, h1 | h1⟩
      · rw [if_neg (by omega)]
      · subst h1; split <;> rfl
      · rw [if_neg (by omega)]
    show L.foldl (stepN f) (stepN f b p) = b
    rw [e]
    exact next_stay L fun x hx => h x (List.mem_cons_of_mem _ hx)
theorem next_go {f b : Int × Int} (hf : f ≠ b) : ∀ (L : List (Int × Int)) (n : Int × Int), b ∈ L → (∀ p ∈ L, Nx f b p) → (n = f ∨ Nx f b n) → L.foldl (stepN f) n = b
  | [], _, hb, _, _ => by simp at hb
  | p :: L, n, hb, h, hn => by
    show L.foldl (stepN f) (stepN f n p) = b
    by_cases hp : p = b
    · subst hp
      have e : stepN f n p = p := by
        by_cases hnp : n = p
        · subst hnp; unfold stepN; split <;> rfl
        · unfold stepN
          rw [if_pos]
          rcases hn with hn | hn
          · subst hn
            right
            rw [tw_self1, sq_self]
            exact ⟨rfl, sq_pos hf⟩
          · unfold Nx at hn
            have := tw_swap f p n
            rcases hn with hn | ⟨hn, h1 | h1⟩
            · left; omega
            · exact absurd h1 hnp
            · right; exact ⟨by omega, h1⟩
      rw [e]
      exact next_stay L fun x hx => h x (List.mem_cons_of_mem _ hx)
    · refine next_go hf L _ ?_ (fun x hx => h x (List.mem_cons_of_mem _ hx)) ?_
      · rw [List.mem_cons] at hb
        rcases hb with hb | hb
        · exact absurd hb.symm hp
        · exact hb
      · unfold stepN
        split
        · exact Or.inr (h p (by simp))
        · exact hn
theorem next_ok {s L : List (Int × Int)} {f b : Int × Int} (hL : ∀ p, p ∈ L ↔ p ∈ s) (h : Nxt s f b) : L.foldl (stepN f) f = b :=
  next_go h.2.1 L f ((hL b).2 h.1) (fun p hp => h.2.2 p ((hL p).1 hp)) (Or.inl rfl)
theorem next_one (f : Int × Int) : ∀ (L : List (Int × Int)), (∀ p ∈ L, p = f) → L.foldl (stepN f) f = f
  | [], _ => rfl
  | p :: L, h => by
    show L.foldl (stepN f) (stepN f f p) = f
    have e : stepN f f p = f := by
      have := h p (by simp)
      subst this
      unfold stepN; split <;> rfl
    rw [e]
    exact next_one f L fun x hx => h x (List.mem_cons_of_mem _ hx)
/-- WHAT THE WALK AROUND FINDS: from each corner of the band the next one, and behind the last one the first one -/
theorem band_ok {s t L : List (Int × Int)} {h0 : Int × Int} (hs : s.Pairwise lx) (es : s = h0 :: t) (hL : ∀ p, p ∈ L ↔ p ∈ s) :
    ∃ R, hull s = h0 :: R ∧ (∀ x ∈ R, x ≠ h0) ∧ (∀ x ∈ R, x ∈ s) ∧ ∀ i x y, (h0 :: R ++ [h0])[i]? = some x → (h0 :: R ++ [h0])[i + 1]? = some y → L.foldl (stepN x) x = y := by
  cases t with
  | nil =>
    subst es
    refine ⟨[], rfl, by simp, by simp, fun i x y hx hy => ?_⟩
    match i with
    | 0 =>
      simp at hx hy
      subst hx; subst hy
      exact next_one _ L fun p hp => by have := (hL p).1 hp; simpa using this
    | i + 1 => simp at hy
  | cons h1 t =>
    obtain ⟨R, e, h, hp⟩ := hull_ok (es ▸ hs) es
    exact ⟨R, e, fun x hx => (lx_ne (h x hx).1).symm, fun x hx => (h x hx).2, fun i x y hx hy => next_ok hL (path_get _ i x y hp hx hy)⟩
end MH
end Go.Proofs.Ytheddoinnakneaa
/- plain: the model's band, step by step -/
namespace Go.Proofs.Ytheddoinnakneaa
open Go.ChangeShapes Go.WideShapes Go.ChangeAt Go.RowKit Go.Joins
set_option linter.unusedVariables false
set_option linter.unusedSimpArgs false
set_option maxRecDepth 4000
theorem lxP_lx {p q : Int × Int} : lxP p q ↔ MH.lx p q := Iff.rfl
theorem tw_twI (a b c : Int × Int) : MH.tw a b c = twI a.1 a.2 b.1 b.2 c.1 c.2 := rfl
theorem chain_step {q : List (Int × Int)} {i : Nat} (h : i < q.length) : MH.chain (q.take (i + 1)) = pt q i :: MH.popS (pt q i) (MH.chain (q.take i)) := by
  rw [List.take_add_one, pt_get h]
  exact MH.chain_app _ _
theorem popS_mem (p : Int × Int) : ∀ (st : List (Int × Int)) (x : Int × Int), x ∈ MH.popS p st → x ∈ st
  | [], x, h => h
  | [a], x, h => h
  | b :: a :: t, x, h => by
    rw [MH.popS] at h
    split at h
    · exact List.mem_cons_of_mem _ (popS_mem p (a :: t) x h)
    · exact h
theorem chain_mem : ∀ (q : List (Int × Int)) (x : Int × Int), x ∈ MH.chain q → x ∈ q := by
  suffices ∀ (q st : List (Int × Int)) (x : Int × Int), x ∈ q.foldl MH.pushS st → x ∈ st ∨ x ∈ q from fun q x h => by
    have := this q [] x h
    simpa using this
  intro q
  induction q with
  | nil => intro st x h; exact Or.inl h
  | cons p q ih =>
    intro st x h
    rw [List.foldl_cons] at h
    rcases ih _ x h with h | h
    · unfold MH.pushS at h
      rw [List.mem_cons] at h
      rcases h with h | h
      · exact Or.inr (by simp [h])
      · exact Or.inl (popS_mem p st x h)
    · exact Or.inr (List.mem_cons_of_mem _ h)
theorem pop_yes {p a b : Int × Int} {t : List (Int × Int)} (h : MH.tw a b p ≤ 0) : MH.popS p (b :: a :: t) = MH.popS p (a :: t) := by rw [MH.popS, if_pos h]
theorem pop_no {p a b : Int × Int} {t : List (Int × Int)} (h : ¬ MH.tw a b p ≤ 0) : MH.popS p (b :: a :: t) = b :: a :: t := by rw [MH.popS, if_neg h]
theorem pop_few {p : Int × Int} {st : List (Int × Int)} (h : st.length ≤ 1) : MH.popS p st = st := by
  match st, h with
  | [], _ => rfl
  | [a], _ => rfl
/-- the two points on top -/
theorem top_two (P t : List (Int × Int)) (a b : Int × Int) (m : Nat) (hm : m = P.length + t.length) : pt (P ++ (b :: a :: t).reverse) m = a ∧ pt (P ++ (b :: a :: t).reverse) (m + 1) = b := by
  have e : P ++ (b :: a :: t).reverse = (P ++ t.reverse) ++ [a, b] := by simp
  rw [e]
  have hl : (P ++ t.reverse).length = m := by simp; omega
  constructor
  · unfold pt; rw [List.getElem?_append_right (by omega), hl, Nat.sub_self]; rfl
  · unfold pt; rw [List.getElem?_append_right (by omega), hl, show m + 1 - m = 1 by omega]; rfl
theorem pt_rev (s : List (Int × Int)) (i : Nat) (h : i < s.length) : pt s.reverse i = pt s (s.length - 1 - i) := by
  unfold pt; rw [List.getElem?_reverse h]
theorem pt_mem {s : List (Int × Int)} {i : Nat} (h : i < s.length) : pt s i ∈ s := List.mem_of_getElem? (pt_get h)
/-- the lower part, and the upper part -/
def lowC (s : List (Int × Int)) : List (Int × Int) := (MH.chain s).tail.reverse
theorem chain_ne {s : List (Int × Int)} (h : 0 < s.length) : MH.chain s ≠ [] := by
  intro e
  cases s with
  | nil => simp at h
  | cons p s =>
    have h1 := List.dropLast_concat_getLast (l := p :: s) (by simp)
    rw [← h1, MH.chain_app] at e
    unfold MH.pushS at e
    simp at e
theorem chain_tail {s : List (Int × Int)} (h : 0 < s.length) : ∃ z, (MH.chain s).reverse = lowC s ++ [z] ∧ (MH.chain s).length = (lowC s).length + 1 := by
  have := chain_ne h
  unfold lowC
  cases hc : MH.chain s with
  | nil => exact absurd hc this
  | cons z t => exact ⟨z, by simp, by simp⟩
theorem lowC_len {s : List (Int × Int)} (h : 0 < s.length) : (lowC s).length + 1 ≤ s.length := by
  obtain ⟨z, _, e⟩ := chain_tail h
  have := MH.chain_len s
  omega
theorem hull_big {s : List (Int × Int)} (h : ¬ s.length < 3) : MH.hull s = lowC s ++ lowC s.reverse := by unfold MH.hull lowC; rw [if_neg h]
theorem hull_few {s : List (Int × Int)} (h : s.length < 3) : MH.hull s = s := by unfold MH.hull; rw [if_pos h]
theorem own_sl {w : World} {base : Nat} {e : TypeId} {size : Nat} {v : Value} {n : Nat} {xs : List Value} (h : w.ownsRow base e size v n xs) : ∃ X cap, v = .slice X n cap ∧ n ≤ cap ∧ cap ≤ maxLen := by
  rcases own_val h with ⟨hv, hn⟩ | ⟨g, cap, hv, h1, h2, _⟩
  · exact ⟨none, 0, by rw [hv, hn], by omega, by simp [maxLen]⟩
  · exact ⟨_, cap, hv, h1, h2⟩
end Go.Proofs.Ytheddoinnakneaa
/- contracts: is a peg in a list; different pegs, the program's side -/
namespace Go.Proofs.Ytheddoinnakneaa
open Go.ChangeShapes Go.WideShapes Go.ChangeAt Go.RowKit Go.Joins
set_option linter.unusedVariables false
set_option linter.unusedSimpArgs false
set_option maxRecDepth 4000
theorem in_iff {l : List (Int × Int)} {p : Int × Int} : p ∈ l ↔ ∃ i, i < l.length ∧ vx l i = p := by
  constructor
  · intro h
    obtain ⟨i, hi, rfl⟩ := List.mem_iff_getElem.1 h
    have e := vx_get hi
    rw [List.getElem?_eq_getElem hi] at e
    injection e with e
    exact ⟨i, hi, e.symm⟩
  · rintro ⟨i, hi, rfl⟩
    exact List.mem_of_getElem? (vx_get hi)
set_option maxHeartbeats 4000000 in
theorem index_any (A : Option Addr) (c n : Nat) (l : List (Int × Int)) (p : Int × Int) (w : World) (hln : l.length = n) (hn : n ≤ 1048576) (hR : Rd w w.heap.size A l) :
    Calls Try.prog 171 #[.slice A n c, .agg #[.int .i64 p.1, .int .i64 p.2]] w fun e w' => (∃ r : Int, e = .returned (.int .i64 r) ∧ (0 ≤ r ↔ p ∈ l)) ∧ Below w.heap.size w w' := by
  have HN := Lib.hid hln
  have HC : Hid (∀ W, Below w.heap.size w W → ∀ i, i < n → ∃ b off, A = some ⟨b, off, none⟩ ∧ b < w.heap.size ∧ W.cell? ⟨b, off + i * 2, none⟩ = some (.int .i64 (vx l i).1) ∧ W.cell? ⟨b, off + i * 2 + 1, none⟩ = some (.int .i64 (vx l i).2)) := Lib.hid (fun W hW i hi => by
    obtain ⟨b, off, e, hb, hc⟩ := hR (by omega)
    obtain ⟨h1, h2⟩ := hc i _ (vx_get (by omega))
    exact ⟨b, off, e, hb, (hW.cell (p := ⟨b, off + i * 2, none⟩) hb).trans h1, (hW.cell (p := ⟨b, off + i * 2 + 1, none⟩) hb).trans h2⟩)
  clear hR hln
  obtain ⟨p1, p2⟩ := p
  have HI := Lib.hid (in_iff (l := l) (p := (p1, p2)))
  go_enter Try.func171, Try.ntmps171
  go_wp2_with fail
  obtain ⟨W1, hW1⟩ : ∃ W1, W1 = (w.alloc (.cells #[.int .i64 p1, .int .i64 p2] 56)) := ⟨_, rfl⟩
  rw [← hW1]
  have yW10_0 : W1.cell? ⟨w.heap.size, 0, none⟩ = some (.int .i64 p1) := by rw [hW1]; go_simp
  have yW10_1 : W1.cell? ⟨w.heap.size, 1, none⟩ = some (.int .i64 p2) := by rw [hW1]; go_simp
  have fW10 : ∀ o, W1.frozen? ⟨w.heap.size, o, none⟩ = false := by intro o; rw [hW1]; (repeat rw [frozen?_alloc_cells]); simp [World.frozen?]
  have zW10 : w.heap.size < W1.heap.size := by rw [hW1]; simp <;> omega
  have BW1 : Below w.heap.size w W1 := by rw [hW1]; exact (Below.alloc (Below.refl _ _) (by simp <;> omega) _)
  have eW1 : Hid (W1.heap.size = w.heap.size + 1) := Lib.hid (by rw [hW1]; simp)
  clear hW1
  go_loopg [8] n (fun g i wr => ∃ k : Nat, k ≤ n ∧ g = n - k ∧ i = .int .i64 k ∧ Below W1.heap.size W1 wr ∧ Hid (∀ j, j < k → vx l j ≠ (p1, p2)))
  case atStart => exact ⟨0, Nat.zero_le _, rfl, rfl, Below.refl _ _, Lib.hid (fun i h => absurd h (Nat.not_lt_zero _))⟩
  case round =>
    obtain ⟨k, hk, hg, rfl, hB, hF⟩ := hrel
    rename World => wo
    have HGK := Lib.hid hg
    clear hg
    have BP := BW1.trans (hB.mono BW1.size)
    by_cases hlt : k < n
    · obtain ⟨b, off, hA, hb, x1, x2⟩ := HC.out wo BP k hlt
      subst hA
      have zb : b < wo.heap.size := Nat.lt_of_lt_of_le hb BP.size
      obtain ⟨hcB, hfB⟩ := bcell hB
      have y1 := (hcB _ 0 zW10).trans yW10_0
      have y2 := (hcB _ 1 zW10).trans yW10_1
      have zw : w.heap.size < wo.heap.size := Nat.lt_of_lt_of_le zW10 hB.size
      obtain ⟨q1, q2, hqe⟩ : ∃ q1 q2, vx l k = (q1, q2) := ⟨_, _, rfl⟩
      rw [hqe] at x1 x2
      have HQE := Lib.hid hqe
      clear hqe hcB hfB yW10_0 yW10_1 fW10 zW10
      by_cases h1 : p1 = q1
      · by_cases h2 : p2 = q2
        · subst h1; subst h2
          have hin : Hid ((p1, p2) ∈ l) := Lib.hid (HI.out.2 ⟨k, by have := HN.out; omega, HQE.out⟩)
          go_wp2_with fail
          refine wp_region_B (fun W => Below wo.heap.size wo W) (by kernel_rfl) (by repeat (first | exact Below.refl _ _ | apply Below.drew)) ?_
          first | refine wpB_skip 0 rfl (by kernel_rfl) (by kernel_rfl) (by kernel_rfl) (by rfl) ?_ | (refine wpB_text 0 (v := ?_) rfl (by kernel_rfl) (by kernel_rfl) (by kernel_rfl) (by rfl) (fun W hW => ?_) ?_; rotate_left; (have k1 := hW; obtain ⟨hc1, hf1⟩ := bcell k1; go_simp; refine comes_v ?_; exact k1))
          (try simp only [Act.put, List.setIfInBounds_toArray, List.set_cons_zero, List.set_cons_succ])
          first | refine wpB_skip 1 rfl (by kernel_rfl) (by kernel_rfl) (by kernel_rfl) (by rfl) ?_ | (refine wpB_text 1 (v := ?_) rfl (by kernel_rfl) (by kernel_rfl) (by kernel_rfl) (by rfl) (fun W hW => ?_) ?_; rotate_left; (have k1 := hW; obtain ⟨hc1, hf1⟩ := bcell k1; go_simp; refine comes_v ?_; exact k1))
          (try simp only [Act.put, List.setIfInBounds_toArray, List.set_cons_zero, List.set_cons_succ])
          first | refine wpB_skip 2 rfl (by kernel_rfl) (by kernel_rfl) (by kernel_rfl) (by rfl) ?_ | (refine wpB_text 2 (v := ?_) rfl (by kernel_rfl) (by kernel_rfl) (by kernel_rfl) (by rfl) (fun W hW => ?_) ?_; rotate_left; (have k1 := hW; obtain ⟨hc1, hf1⟩ := bcell k1; go_simp; refine comes_v ?_; exact k1))
          (try simp only [Act.put, List.setIfInBounds_toArray, List.set_cons_zero, List.set_cons_succ])
          first | refine wpB_skip 3 rfl (by kernel_rfl) (by kernel_rfl) (by kernel_rfl) (by rfl) ?_ | (refine wpB_text 3 (v := ?_) rfl (by kernel_rfl) (by kernel_rfl) (by kernel_rfl) (by rfl) (fun W hW => ?_) ?_; rotate_left; (have k1 := hW; obtain ⟨hc1, hf1⟩ := bcell k1; go_simp; refine comes_v ?_; exact k1))
          (try simp only [Act.put, List.setIfInBounds_toArray, List.set_cons_zero, List.set_cons_succ])
          first | refine wpB_skip 4 rfl (by kernel_rfl) (by kernel_rfl) (by kernel_rfl) (by rfl) ?_ | (refine wpB_text 4 (v := ?_) rfl (by kernel_rfl) (by kernel_rfl) (by kernel_rfl) (by rfl) (fun W hW => ?_) ?_; rotate_left; (have k1 := hW; obtain ⟨hc1, hf1⟩ := bcell k1; go_simp; refine comes_v ?_; exact k1))
          (try simp only [Act.put, List.setIfInBounds_toArray, List.set_cons_zero, List.set_cons_succ])
          first | refine wpB_skip 5 rfl (by kernel_rfl) (by kernel_rfl) (by kernel_rfl) (by rfl) ?_ | (refine wpB_text 5 (v := ?_) rfl (by kernel_rfl) (by kernel_rfl) (by kernel_rfl) (by rfl) (fun W hW => ?_) ?_; rotate_left; (have k1 := hW; obtain ⟨hc1, hf1⟩ := bcell k1; go_simp; refine comes_v ?_; exact k1))
          (try simp only [Act.put, List.setIfInBounds_toArray, List.set_cons_zero, List.set_cons_succ])
          refine wpB_done (by kernel_rfl) ?_ _
          intro W hW; have k1 := hW
          go_wp2_with fail
          go_ret
          exact ⟨⟨_, rfl, by simp [hin.out] <;> omega⟩, BP.trans (k1.mono BP.size)⟩
        · have hF2 : Hid (∀ j, j < k + 1 → vx l j ≠ (p1, p2)) := Lib.hid (fun j hj => by
            by_cases hjk : j = k
            · subst hjk; intro e; rw [HQE.out] at e; injection e with e1 e2; exact h2 e2.symm
            · exact hF.out j (by omega))
          subst h1
          go_wp2_with fail
          refine wp_region_B (fun W => Below wo.heap.size wo W) (by kernel_rfl) (by repeat (first | exact Below.refl _ _ | apply Below.drew)) ?_
          first | refine wpB_skip 0 rfl (by kernel_rfl) (by kernel_rfl) (by kernel_rfl) (by rfl) ?_ | (refine wpB_text 0 (v := ?_) rfl (by kernel_rfl) (by kernel_rfl) (by kernel_rfl) (by rfl) (fun W hW => ?_) ?_; rotate_left; (have k1 := hW; obtain ⟨hc1, hf1⟩ := bcell k1; go_simp; refine comes_v ?_; exact k1))
          (try simp only [Act.put, List.setIfInBounds_toArray, List.set_cons_zero, List.set_cons_succ])
          first | refine wpB_skip 1 rfl (by kernel_rfl) (by kernel_rfl) (by kernel_rfl) (by rfl) ?_ | (refine wpB_text 1 (v := ?_) rfl (by kernel_rfl) (by kernel_rfl) (by kernel_rfl) (by rfl) (fun W hW => ?_) ?_; rotate_left; (have k1 := hW; obtain ⟨hc1, hf1⟩ := bcell k1; go_simp; refine comes_v ?_; exact k1))
          (try simp only [Act.put, List.setIfInBounds_toArray, List.set_cons_zero, List.set_cons_succ])
          first | refine wpB_skip 2 rfl (by kernel_rfl) (by kernel_rfl) (by kernel_rfl) (by rfl) ?_ | (refine wpB_text 2 (v := ?_) rfl (by kernel_rfl) (by kernel_rfl) (by kernel_rfl) (by rfl) (fun W hW => ?_) ?_; rotate_left; (have k1 := hW; obtain ⟨hc1, hf1⟩ := bcell k1; go_simp; refine comes_v ?_; exact k1))
          (try simp only [Act.put, List.setIfInBounds_toArray, List.set_cons_zero, List.set_cons_succ])
          first | refine wpB_skip 3 rfl (by kernel_rfl) (by kernel_rfl) (by kernel_rfl) (by rfl) ?_ | (refine wpB_text 3 (v := ?_) rfl (by kernel_rfl) (by kernel_rfl) (by kernel_rfl) (by rfl) (fun W hW => ?_) ?_; rotate_left; (have k1 := hW; obtain ⟨hc1, hf1⟩ := bcell k1; go_simp; refine comes_v ?_; exact k1))
          (try simp only [Act.put, List.setIfInBounds_toArray, List.set_cons_zero, List.set_cons_succ])
          first | refine wpB_skip 4 rfl (by kernel_rfl) (by kernel_rfl) (by kernel_rfl) (by rfl) ?_ | (refine wpB_text 4 (v := ?_) rfl (by kernel_rfl) (by kernel_rfl) (by kernel_rfl) (by rfl) (fun W hW => ?_) ?_; rotate_left; (have k1 := hW; obtain ⟨hc1, hf1⟩ := bcell k1; go_simp; refine comes_v ?_; exact k1))
          (try simp only [Act.put, List.setIfInBounds_toArray, List.set_cons_zero, List.set_cons_succ])
          first | refine wpB_skip 5 rfl (by kernel_rfl) (by kernel_rfl) (by kernel_rfl) (by rfl) ?_ | (refine wpB_text 5 (v := ?_) rfl (by kernel_rfl) (by kernel_rfl) (by kernel_rfl) (by rfl) (fun W hW => ?_) ?_; rotate_left; (have k1 := hW; obtain ⟨hc1, hf1⟩ := bcell k1; go_simp; refine comes_v ?_; exact k1))
          (try simp only [Act.put, List.setIfInBounds_toArray, List.set_cons_zero, List.set_cons_succ])
          refine wpB_done (by kernel_rfl) ?_ _
          intro W hW; have k1 := hW
          go_wp2_with fail
          go_roundg (n - (k + 1))
          case measure => have := HGK.out; omega
          case rel => exact ⟨k + 1, by omega, rfl, by go_num, hB.trans (k1.mono hB.size), hF2⟩
      · have hF2 : Hid (∀ j, j < k + 1 → vx l j ≠ (p1, p2)) := Lib.hid (fun j hj => by
          by_cases hjk : j = k
          · subst hjk; intro e; rw [HQE.out] at e; injection e with e1 e2; exact h1 e1.symm
          · exact hF.out j (by omega))
        go_wp2_with fail
        refine wp_region_B (fun W => Below wo.heap.size wo W) (by kernel_rfl) (by repeat (first | exact Below.refl _ _ | apply Below.drew)) ?_
        first | refine wpB_skip 0 rfl (by kernel_rfl) (by kernel_rfl) (by kernel_rfl) (by rfl) ?_ | (refine wpB_text 0 (v := ?_) rfl (by kernel_rfl) (by kernel_rfl) (by kernel_rfl) (by rfl) (fun W hW => ?_) ?_; rotate_left; (have k1 := hW; obtain ⟨hc1, hf1⟩ := bcell k1; go_simp; refine comes_v ?_; exact k1))
        (try simp only [Act.put, List.setIfInBounds_toArray, List.set_cons_zero, List.set_cons_succ])
        first | refine wpB_skip 1 rfl (by kernel_rfl) (by kernel_rfl) (by kernel_rfl) (by rfl) ?_ | (refine wpB_text 1 (v := ?_) rfl (by kernel_rfl) (by kernel_rfl) (by kernel_rfl) (by rfl) (fun W hW => ?_) ?_; rotate_left; (have k1 := hW; obtain ⟨hc1, hf1⟩ := bcell k1; go_simp; refine comes_v ?_; exact k1))
        (try simp only [Act.put, List.setIfInBounds_toArray, List.set_cons_zero, List.set_cons_succ])
        first | refine wpB_skip 2 rfl (by kernel_rfl) (by kernel_rfl) (by kernel_rfl) (by rfl) ?_ | (refine wpB_text 2 (v := ?_) rfl (by kernel_rfl) (by kernel_rfl) (by kernel_rfl) (by rfl) (fun W hW => ?_) ?_; rotate_left; (have k1 := hW; obtain ⟨hc1, hf1⟩ := bcell k1; go_simp; refine comes_v ?_; exact k1))
        (try simp only [Act.put, List.setIfInBounds_toArray, List.set_cons_zero, List.set_cons_succ])
        first | refine wpB_skip 3 rfl (by kernel_rfl) (by kernel_rfl) (by kernel_rfl) (by rfl) ?_ | (refine wpB_text 3 (v := ?_) rfl (by kernel_rfl) (by kernel_rfl) (by kernel_rfl) (by rfl) (fun W hW => ?_) ?_; rotate_left; (have k1 := hW; obtain ⟨hc1, hf1⟩ := bcell k1; go_simp; refine comes_v ?_; exact k1))
        (try simp only [Act.put, List.setIfInBounds_toArray, List.set_cons_zero, List.set_cons_succ])
        first | refine wpB_skip 4 rfl (by kernel_rfl) (by kernel_rfl) (by kernel_rfl) (by rfl) ?_ | (refine wpB_text 4 (v := ?_) rfl (by kernel_rfl) (by kernel_rfl) (by kernel_rfl) (by rfl) (fun W hW => ?_) ?_; rotate_left; (have k1 := hW; obtain ⟨hc1, hf1⟩ := bcell k1; go_simp; refine comes_v ?_; exact k1))
        (try simp only [Act.put, List.setIfInBounds_toArray, List.set_cons_zero, List.set_cons_succ])
        first | refine wpB_skip 5 rfl (by kernel_rfl) (by kernel_rfl) (by kernel_rfl) (by rfl) ?_ | (refine wpB_text 5 (v := ?_) rfl (by kernel_rfl) (by kernel_rfl) (by kernel_rfl) (by rfl) (fun W hW => ?_) ?_; rotate_left; (have k1 := hW; obtain ⟨hc1, hf1⟩ := bcell k1; go_simp; refine comes_v ?_; exact k1))
        (try simp only [Act.put, List.setIfInBounds_toArray, List.set_cons_zero, List.set_cons_succ])
        refine wpB_done (by kernel_rfl) ?_ _
        intro W hW; have k1 := hW
        go_wp2_with fail
        go_roundg (n - (k + 1))
        case measure => have := HGK.out; omega
        case rel => exact ⟨k + 1, by omega, rfl, by go_num, hB.trans (k1.mono hB.size), hF2⟩
    · have hkn : n = k := by omega
      subst hkn
      have hno : Hid ((p1, p2) ∉ l) := Lib.hid (fun h => by
        obtain ⟨i, hi, e⟩ := HI.out.1 h
        exact hF.out i (by have := HN.out; omega) e)
      go_wp2_with fail
      go_ret
      exact ⟨⟨_, rfl, by simp [hno.out]⟩, BP⟩
set_option maxHeartbeats 4000000 in
theorem contains_any (A : Option Addr) (c n : Nat) (l : List (Int × Int)) (p : Int × Int) (w : World) (hln : l.length = n) (hn : n ≤ 1048576) (hR : Rd w w.heap.size A l) :
    Calls Try.prog 162 #[.slice A n c, .agg #[.int .i64 p.1, .int .i64 p.2]] w fun e w' => e = .returned (.bool (decide (p ∈ l))) ∧ Below w.heap.size w w' := by
  have KI := Lib.hid (fun W (hb : Below w.heap.size w W) => index_any A c n l p W hln hn (rd_more (rd_below hR hb (Nat.le_refl _)) hb.size))
  obtain ⟨p1, p2⟩ := p
  clear hR hln
  go_enter Try.func162, Try.ntmps162
  go_wp2_with fail
  obtain ⟨W1, hW1⟩ : ∃ W1, W1 = (w.alloc (.cells #[.int .i64 p1, .int .i64 p2] 56)) := ⟨_, rfl⟩
  rw [← hW1]
  have yW10_0 : W1.cell? ⟨w.heap.size, 0, none⟩ = some (.int .i64 p1) := by rw [hW1]; go_simp
  have yW10_1 : W1.cell? ⟨w.heap.size, 1, none⟩ = some (.int .i64 p2) := by rw [hW1]; go_simp
  have fW10 : ∀ o, W1.frozen? ⟨w.heap.size, o, none⟩ = false := by intro o; rw [hW1]; (repeat rw [frozen?_alloc_cells]); simp [World.frozen?]
  have zW10 : w.heap.size < W1.heap.size := by rw [hW1]; simp <;> omega
  have BW1 : Below w.heap.size w W1 := by rw [hW1]; exact (Below.alloc (Below.refl _ _) (by simp <;> omega) _)
  have eW1 : Hid (W1.heap.size = w.heap.size + 1) := Lib.hid (by rw [hW1]; simp)
  clear hW1
  refine (KI.out _ BW1).mono ?_; rintro e w2 ⟨⟨r, rfl, hr⟩, hb2⟩
  have B2 := BW1.trans (hb2.mono BW1.size)
  by_cases h0 : (0 : Int) ≤ r
  · have hh : Hid ((p1, p2) ∈ l) := Lib.hid (hr.1 h0)
    clear hr
    go_wp2_with fail
    go_ret
    exact ⟨ret_bool (by simp [hh.out]), B2⟩
  · have hh : Hid ((p1, p2) ∉ l) := Lib.hid (fun h => h0 (hr.2 h))
    clear hr
    go_wp2_with fail
    go_ret
    exact ⟨ret_bool (by simp [hh.out] <;> omega), B2⟩
end Go.Proofs.Ytheddoinnakneaa
/- plain: the band as a list that a walk around finds -/
namespace Go.Proofs.Ytheddoinnakneaa
open Go.ChangeShapes Go.WideShapes Go.ChangeAt Go.RowKit Go.Joins
set_option linter.unusedVariables false
set_option linter.unusedSimpArgs false
set_option maxRecDepth 4000
/-- what the walk around meets: HH is the band with its first corner again at the end -/
structure Around (l H HH : List (Int × Int)) (h0 : Int × Int) : Prop where
  len : HH.length = H.length + 1
  pos : 0 < H.length
  few : H.length ≤ 400
  same : ∀ i, i < H.length → pt HH i = pt H i
  first : pt HH 0 = h0
  last : pt HH H.length = h0
  diff : ∀ i, 0 < i → i < H.length → pt HH i ≠ h0
  next : ∀ i, i < H.length → l.foldl (MH.stepN (pt HH i)) (pt HH i) = pt HH (i + 1)
  mem : ∀ i, i ≤ H.length → pt HH i ∈ l
  least : h0 ∈ l ∧ ∀ m ∈ l, (∀ x ∈ l, ¬ lxP x m) → m = h0
theorem hull_len {s : List (Int × Int)} : (MH.hull s).length ≤ 2 * s.length := by
  unfold MH.hull
  split
  · omega
  · have h1 := MH.chain_len s
    have h2 := MH.chain_len s.reverse
    simp at h2 ⊢
    omega
theorem around_of {l : List (Int × Int)} (hnd : l.Nodup) (h1 : 1 ≤ l.length) (h30 : l.length ≤ 169) : ∃ h0, Around l (MH.hull (srt l)) (MH.hull (srt l) ++ [h0]) h0 := by
  have hs := srt_sorted hnd
  have hl := srt_len l
  obtain ⟨h0, t, es⟩ : ∃ h0 t, srt l = h0 :: t := by
    cases h : srt l with
    | nil => rw [h] at hl; simp at hl; omega
    | cons a t => exact ⟨a, t, rfl⟩
  have hmem : ∀ p, p ∈ l ↔ p ∈ srt l := fun p => srt_mem.symm
  obtain ⟨R, eH, hd, hm, hn⟩ := MH.band_ok hs es hmem
  have hlen := hull_len (s := srt l)
  have e0 : h0 ∈ l := (hmem h0).2 (by rw [es]; simp)
  refine ⟨h0, ?_⟩
  rw [eH] at hlen ⊢
  have g : ∀ i, i < (h0 :: R).length → pt ((h0 :: R) ++ [h0]) i = pt (h0 :: R) i := fun i hi => by
    unfold pt; rw [List.getElem?_append_left hi]
  have gl : pt ((h0 :: R) ++ [h0]) (h0 :: R).length = h0 := by
    unfold pt; rw [List.getElem?_append_right (Nat.le_refl _), Nat.sub_self]; rfl
  have mR : ∀ i, i < (h0 :: R).length → pt (h0 :: R) i ∈ l := fun i hi => by
    have := pt_mem hi
    rw [List.mem_cons] at this
    rcases this with h | h
    · rw [h]; exact e0
    · exact (hmem _).2 (hm _ h)
  refine ⟨by simp, by simp, by rw [hl] at hlen; omega, g, g 0 (by simp), gl, fun i hi hi2 => ?_, fun i hi => ?_, fun i hi => ?_, e0, fun m hm2 hle => ?_⟩
  · rw [g i hi2]
    obtain ⟨j, rfl⟩ : ∃ j, i = j + 1 := ⟨i - 1, by omega⟩
    have : pt (h0 :: R) (j + 1) = pt R j := rfl
    rw [this]
    exact hd _ (pt_mem (by simpa using hi2))
  · have k1 := pt_get (l := (h0 :: R) ++ [h0]) (i := i) (by simp at hi ⊢; omega)
    have k2 := pt_get (l := (h0 :: R) ++ [h0]) (i := i + 1) (by simp at hi ⊢; omega)
    exact hn i _ _ k1 k2
  · rcases Nat.lt_or_ge i (h0 :: R).length with h | h
    · rw [g i h]; exact mR i h
    · have : i = (h0 :: R).length := by omega
      rw [this, gl]; exact e0
  · have h1 := hle h0 e0
    have h2 := (hmem m).1 hm2
    rw [es, List.mem_cons] at h2
    rcases h2 with h2 | h2
    · exact h2
    · rw [es] at hs
      exact absurd ((List.pairwise_cons.1 hs).1 m h2) h1
/-- how memory stands while the program goes around -/
structure BdS (w W : World) (v : Value) (k : Nat) (L : List (Int × Int)) (g3 g5 : Nat) (a1 a2 q1 q2 : Int) : Prop where
  bel : Below w.heap.size w W
  own : W.ownsRow w.heap.size 56 2 v k (flat L)
  l3 : w.heap.size ≤ g3
  l5 : w.heap.size ≤ g5
  z3 : g3 < W.heap.size
  z5 : g5 < W.heap.size
  c30 : W.cell? ⟨g3, 0, none⟩ = some (.int .i64 a1)
  c31 : W.cell? ⟨g3, 1, none⟩ = some (.int .i64 a2)
  c50 : W.cell? ⟨g5, 0, none⟩ = some (.int .i64 q1)
  c51 : W.cell? ⟨g5, 1, none⟩ = some (.int .i64 q2)
  f5 : ∀ o, W.frozen? ⟨g5, o, none⟩ = false
  n3 : v.ownBlock ≠ some g3
  n5 : v.ownBlock ≠ some g5
  n35 : g3 ≠ g5
theorem BdS.up {w W W' : World} {v : Value} {k : Nat} {L : List (Int × Int)} {g3 g5 : Nat} {a1 a2 q1 q2 : Int} (h : BdS w W v k L g3 g5 a1 a2 q1 q2) (hb : Below W.heap.size W W') : BdS w W' v k L g3 g5 a1 a2 q1 q2 := by
  obtain ⟨hc, hf⟩ := bcell hb
  exact ⟨h.bel.trans (hb.mono h.bel.size), ownB h.own hb (Nat.le_refl _), h.l3, h.l5, Nat.lt_of_lt_of_le h.z3 hb.size, Nat.lt_of_lt_of_le h.z5 hb.size, (hc _ _ h.z3).trans h.c30, (hc _ _ h.z3).trans h.c31, (hc _ _ h.z5).trans h.c50, (hc _ _ h.z5).trans h.c51, fun o => (hf _ _ h.z5).trans (h.f5 o), h.n3, h.n5, h.n35⟩
theorem own_set2 {w : World} {base : Nat} {e : TypeId} {size : Nat} {v : Value} {n : Nat} {xs : List Value} (h : w.ownsRow base e size v n xs) (g o : Nat) (u : Value) (hne : v.ownBlock ≠ some g) : (w.setCell ⟨g, o, none⟩ u).ownsRow base e size v n xs := by
  obtain ⟨h1, h2⟩ := h
  rcases h2 with h2 | ⟨g', cap, cur, hv, hg, hh, r⟩
  · exact ⟨h1, .inl h2⟩
  · refine ⟨h1, .inr ⟨g', cap, cur, hv, hg, ?_, r⟩⟩
    rw [Below.heap_setCell _ _ _ _ (fun e => hne (by rw [hv]; show some g' = some g; rw [e]))]
    exact hh
theorem BdS.store {w W : World} {v : Value} {k : Nat} {L : List (Int × Int)} {g3 g5 : Nat} {a1 a2 q1 q2 : Int} (h : BdS w W v k L g3 g5 a1 a2 q1 q2) (p1 p2 : Int) :
    BdS w ((W.setCell ⟨g5, 0, none⟩ (.int .i64 p1)).setCell ⟨g5, 1, none⟩ (.int .i64 p2)) v k L g3 g5 a1 a2 p1 p2 := by
  have ne : ∀ (V : World) (b b' o o' : Nat) (v : Value), ¬ (b = b' ∧ o = o') → (V.setCell ⟨b, o, none⟩ v).cell? ⟨b', o', none⟩ = V.cell? ⟨b', o', none⟩ := fun V b b' o o' v h => World.cell?_setCell_other V _ _ _ (fun e => h (by injection e with e1 e2; exact ⟨e1, e2⟩))
  have sm : ∀ (V : World) (b o : Nat) (u v : Value), V.cell? ⟨b, o, none⟩ = some u → (V.setCell ⟨b, o, none⟩ v).cell? ⟨b, o, none⟩ = some v := fun V b o u v h => World.cell?_setCell_same V _ _ h
  have n35 := h.n35
  refine ⟨(h.bel.setCell (p := ⟨g5, 0, none⟩) h.l5 _).setCell (p := ⟨g5, 1, none⟩) h.l5 _, own_set2 (own_set2 h.own g5 0 _ h.n5) g5 1 _ h.n5, h.l3, h.l5, by simpa [World.setCell] using h.z3, by simpa [World.setCell] using h.z5, ?_, ?_, ?_, ?_, fun o => ?_, h.n3, h.n5, n35⟩
  · rw [ne _ _ _ _ _ _ (by omega), ne _ _ _ _ _ _ (by omega)]; exact h.c30
  · rw [ne _ _ _ _ _ _ (by omega), ne _ _ _ _ _ _ (by omega)]; exact h.c31
  · rw [ne _ _ _ _ _ _ (by omega)]; exact sm _ _ _ _ _ h.c50
  · exact sm _ _ _ _ _ ((ne _ _ _ _ _ _ (by omega)).trans h.c51)
  · rw [World.frozen?_setCell, World.frozen?_setCell]; exact h.f5 o
end Go.Proofs.Ytheddoinnakneaa
/- contract: different pegs, the program's side -/
namespace Go.Proofs.Ytheddoinnakneaa
open Go.ChangeShapes Go.WideShapes Go.ChangeAt Go.RowKit Go.Joins
set_option linter.unusedVariables false
set_option linter.unusedSimpArgs false
set_option maxRecDepth 4000
theorem rd_take {w : World} {B : Nat} {A : Option Addr} {l : List (Int × Int)} (k : Nat) (h : Rd w B A l) : Rd w B A (l.take k) := by
  intro h0
  obtain ⟨b, off, e, hb, hc⟩ := h (by rw [List.length_take] at h0; omega)
  refine ⟨b, off, e, hb, fun i p hp => hc i p ?_⟩
  rw [List.getElem?_take] at hp
  split at hp
  · exact hp
  · simp at hp
theorem in_take {l : List (Int × Int)} {k : Nat} {p : Int × Int} (hk : k ≤ l.length) : p ∈ l.take k ↔ ∃ i, i < k ∧ vx l i = p := by
  rw [in_iff]
  have hv : ∀ i, i < k → vx (l.take k) i = vx l i := fun i hi => by
    have e1 := vx_get (l := l.take k) (i := i) (by rw [List.length_take]; omega)
    have e2 := vx_get (l := l) (i := i) (by omega)
    rw [List.getElem?_take, if_pos hi, e2] at e1
    injection e1 with e1
    exact e1.symm
  constructor
  · rintro ⟨i, hi, e⟩
    rw [List.length_take] at hi
    exact ⟨i, by omega, by rw [← hv i (by omega)]; exact e⟩
  · rintro ⟨i, hi, e⟩
    exact ⟨i, by rw [List.length_take]; omega, by rw [hv i hi]; exact e⟩
set_option maxHeartbeats 4000000 in
theorem upTo30_any (A : Option Addr) (c : Nat) (l : List (Int × Int)) (w : World) (h1 : 1 ≤ l.length) (hn : l.length ≤ 1048576) (hcap : l.length ≤ c) (hc2 : c ≤ 9223372036854775807) (hR : Rd w w.heap.size A l) :
    Calls Try.prog 140 #[.int .i64 30, .slice A l.length c] w fun e w' => e = .returned (.bool (difB l)) ∧ Below w.heap.size w w' := by
  have KA := Lib.hid (fun W hb => arePegs_any A c l W hn (rd_more (rd_below hR hb (Nat.le_refl _)) hb.size))
  by_cases hhi : 30 < l.length
  · have hng : Hid (difB l = false) := Lib.hid (difB_false (fun h => by have := h.few; omega))
    have d2 : ((30 : Int) < (l.length : Int)) := by omega
    clear hR
    go_enter Try.func140, Try.ntmps140
    go_wp2_with fail
    go_ret
    exact ⟨ret_bool hng.out.symm, Below.refl _ _⟩
  · have d1 : ¬ ((l.length : Int) < 1) := by omega
    have d2 : ¬ ((30 : Int) < (l.length : Int)) := by omega
    by_cases hpg : pegsB l = true
    · have K1 := Lib.hid (KA.out w (Below.refl _ _))
      rw [hpg] at K1
      have HPE := Lib.hid ((pegsB_iff l).1 hpg)
      have HT := Lib.hid (fun h => difB_true (l := l) ⟨by omega, h⟩)
      have HG := Lib.hid (fun h => difB_false (l := l) h)
      have KC := Lib.hid (fun k (hk : k ≤ l.length) W (hb : Below w.heap.size w W) => contains_any A c k (l.take k) (vx l k) W (by rw [List.length_take]; omega) (by omega) (rd_take k (rd_more (rd_below hR hb (Nat.le_refl _)) hb.size)))
      have HIN := Lib.hid (fun k (hk : k ≤ l.length) => in_take (l := l) (p := vx l k) hk)
      have hrd : ∀ i, i < l.length → ∃ b off, A = some ⟨b, off, none⟩ ∧ b < w.heap.size ∧ ∀ i, i < l.length → w.cell? ⟨b, off + i * 2, none⟩ = some (.int .i64 (vx l i).1) ∧ w.cell? ⟨b, off + i * 2 + 1, none⟩ = some (.int .i64 (vx l i).2) := fun i hi => by
        obtain ⟨b, off, e, hb, hc⟩ := hR (by omega)
        exact ⟨b, off, e, hb, fun i hi => hc i _ (vx_get hi)⟩
      obtain ⟨b, off, rfl, hb, hcell⟩ := hrd 0 (by omega)
      have HC := Lib.hid hcell
      clear hrd hcell hR hpg KA
      generalize hN : l.length = n at *
      have HN := Lib.hid hN
      clear hN h1 hhi
      go_enter Try.func140, Try.ntmps140
      go_wp2_with fail
      refine K1.out.mono ?_; rintro e w1 ⟨rfl, hb1⟩
      clear K1
      go_wp2_with fail
      go_loopg [18] n (fun g i wr => ∃ k : Nat, k ≤ n ∧ g = n - k ∧ i = .int .i64 k ∧ Below w.heap.size w wr ∧ Hid (∀ i, i < k → ∀ j, j < i → vx l i ≠ vx l j))
      case atStart => exact ⟨0, Nat.zero_le _, rfl, rfl, hb1, Lib.hid (fun i h => absurd h (Nat.not_lt_zero _))⟩
      case round =>
        obtain ⟨k, hk, hg, rfl, hB, hF⟩ := hrel
        rename World => wo
        have HGK := Lib.hid hg
        clear hg hb1
        by_cases hlt : k < n
        · have hq1 : wo.cell? ⟨b, off + k * 2, none⟩ = some (.int .i64 (vx l k).1) := (hB.cell (p := ⟨b, off + k * 2, none⟩) hb).trans (HC.out k hlt).1
          have hq2 : wo.cell? ⟨b, off + k * 2 + 1, none⟩ = some (.int .i64 (vx l k).2) := (hB.cell (p := ⟨b, off + k * 2 + 1, none⟩) hb).trans (HC.out k hlt).2
          have KK := Lib.hid (KC.out k hk)
          have hkc : k ≤ c := by omega
          by_cases hin : vx l k ∈ l.take k
          · have hng : Hid (difB l = false) := Lib.hid (HG.out (fun h => by
              obtain ⟨i, hi, e⟩ := (HIN.out k hk).1 hin
              exact (h.fine k (by have := HN.out; omega)).2 i hi e.symm))
            rw [show decide (vx l k ∈ l.take k) = true by simp [hin]] at KK
            clear hF KC HIN HG HT HC HPE hin
            go_wp2_with fail
            obtain ⟨Wp, hWp⟩ : ∃ Wp, Wp = (wo.alloc (.cells #[.int .i64 ((vx l k).1), .int .i64 ((vx l k).2)] 56)) := ⟨_, rfl⟩
            rw [← hWp]
            have yWp0_0 : Wp.cell? ⟨wo.heap.size, 0, none⟩ = some (.int .i64 ((vx l k).1)) := by rw [hWp]; go_simp
            have yWp0_1 : Wp.cell? ⟨wo.heap.size, 1, none⟩ = some (.int .i64 ((vx l k).2)) := by rw [hWp]; go_simp
            have fWp0 : ∀ o, Wp.frozen? ⟨wo.heap.size, o, none⟩ = false := by intro o; rw [hWp]; (repeat rw [frozen?_alloc_cells]); simp [World.frozen?]
            have zWp0 : wo.heap.size < Wp.heap.size := by rw [hWp]; simp <;> omega
            have BWp : Below wo.heap.size wo Wp := by rw [hWp]; exact (Below.alloc (Below.refl _ _) (by simp <;> omega) _)
            have eWp : Hid (Wp.heap.size = wo.heap.size + 1) := Lib.hid (by rw [hWp]; simp)
            clear hWp
            have BP := hB.trans (BWp.mono hB.size)
            clear hq1 hq2
            refine wp_region_B (fun W => Below Wp.heap.size Wp W) (by kernel_rfl) (by repeat (first | exact Below.refl _ _ | apply Below.drew)) ?_
            first | refine wpB_skip 0 rfl (by kernel_rfl) (by kernel_rfl) (by kernel_rfl) (by rfl) ?_ | (refine wpB_text 0 (v := ?_) rfl (by kernel_rfl) (by kernel_rfl) (by kernel_rfl) (by rfl) (fun W hW => ?_) ?_; rotate_left; (have k1 := hW; obtain ⟨hc1, hf1⟩ := bcell k1; go_simp; refine comes_v ?_; exact k1))
            (try simp only [Act.put, List.setIfInBounds_toArray, List.set_cons_zero, List.set_cons_succ])
            first | refine wpB_skip 1 rfl (by kernel_rfl) (by kernel_rfl) (by kernel_rfl) (by rfl) ?_ | (refine wpB_text 1 (v := ?_) rfl (by kernel_rfl) (by kernel_rfl) (by kernel_rfl) (by rfl) (fun W hW => ?_) ?_; rotate_left; (have k1 := hW; obtain ⟨hc1, hf1⟩ := bcell k1; go_simp; refine comes_v ?_; exact k1))
            (try simp only [Act.put, List.setIfInBounds_toArray, List.set_cons_zero, List.set_cons_succ])
            first | refine wpB_skip 2 rfl (by kernel_rfl) (by kernel_rfl) (by kernel_rfl) (by rfl) ?_ | (refine wpB_text 2 (v := ?_) rfl (by kernel_rfl) (by kernel_rfl) (by kernel_rfl) (by rfl) (fun W hW => ?_) ?_; rotate_left; (have k1 := hW; obtain ⟨hc1, hf1⟩ := bcell k1; go_simp; refine comes_v ?_; exact k1))
            (try simp only [Act.put, List.setIfInBounds_toArray, List.set_cons_zero, List.set_cons_succ])
            first | refine wpB_skip 3 rfl (by kernel_rfl) (by kernel_rfl) (by kernel_rfl) (by rfl) ?_ | (refine wpB_text 3 (v := ?_) rfl (by kernel_rfl) (by kernel_rfl) (by kernel_rfl) (by rfl) (fun W hW => ?_) ?_; rotate_left; (have k1 := hW; obtain ⟨hc1, hf1⟩ := bcell k1; go_simp; refine comes_v ?_; exact k1))
            (try simp only [Act.put, List.setIfInBounds_toArray, List.set_cons_zero, List.set_cons_succ])
            first | refine wpB_skip 4 rfl (by kernel_rfl) (by kernel_rfl) (by kernel_rfl) (by rfl) ?_ | (refine wpB_text 4 (v := .bool true) rfl (by kernel_rfl) (by kernel_rfl) (by kernel_rfl) (by rfl) (fun W hW => ?_) ?_; (have k1 := hW; obtain ⟨hc1, hf1⟩ := bcell k1; go_simp; exact comes_c ( KK.out _ (BP.trans (k1.mono BP.size))) (fun wn hbn => bt_keep k1 hbn)))
            (try simp only [Act.put, List.setIfInBounds_toArray, List.set_cons_zero, List.set_cons_succ])
            refine wpB_done (by kernel_rfl) ?_ _
            intro W hW; have k1 := hW
            go_wp2_with fail
            go_ret
            exact ⟨ret_bool hng.out.symm, BP.trans (k1.mono BP.size)⟩
          · have hF2 : Hid (∀ i, i < k + 1 → ∀ j, j < i → vx l i ≠ vx l j) := Lib.hid (fun i hi j hj => by
              by_cases hik : i = k
              · subst hik; exact fun e => hin ((HIN.out i hk).2 ⟨j, hj, e.symm⟩)
              · exact hF.out i (by omega) j hj)
            rw [show decide (vx l k ∈ l.take k) = false by simp [hin]] at KK
            clear hF KC HIN HG HT HC HPE hin
            go_wp2_with fail
            obtain ⟨Wp, hWp⟩ : ∃ Wp, Wp = (wo.alloc (.cells #[.int .i64 ((vx l k).1), .int .i64 ((vx l k).2)] 56)) := ⟨_, rfl⟩
            rw [← hWp]
            have yWp0_0 : Wp.cell? ⟨wo.heap.size, 0, none⟩ = some (.int .i64 ((vx l k).1)) := by rw [hWp]; go_simp
            have yWp0_1 : Wp.cell? ⟨wo.heap.size, 1, none⟩ = some (.int .i64 ((vx l k).2)) := by rw [hWp]; go_simp
            have fWp0 : ∀ o, Wp.frozen? ⟨wo.heap.size, o, none⟩ = false := by intro o; rw [hWp]; (repeat rw [frozen?_alloc_cells]); simp [World.frozen?]
            have zWp0 : wo.heap.size < Wp.heap.size := by rw [hWp]; simp <;> omega
            have BWp : Below wo.heap.size wo Wp := by rw [hWp]; exact (Below.alloc (Below.refl _ _) (by simp <;> omega) _)
            have eWp : Hid (Wp.heap.size = wo.heap.size + 1) := Lib.hid (by rw [hWp]; simp)
            clear hWp
            have BP := hB.trans (BWp.mono hB.size)
            clear hq1 hq2
            refine wp_region_B (fun W => Below Wp.heap.size Wp W) (by kernel_rfl) (by repeat (first | exact Below.refl _ _ | apply Below.drew)) ?_
            first | refine wpB_skip 0 rfl (by kernel_rfl) (by kernel_rfl) (by kernel_rfl) (by rfl) ?_ | (refine wpB_text 0 (v := ?_) rfl (by kernel_rfl) (by kernel_rfl) (by kernel_rfl) (by rfl) (fun W hW => ?_) ?_; rotate_left; (have k1 := hW; obtain ⟨hc1, hf1⟩ := bcell k1; go_simp; refine comes_v ?_; exact k1))
            (try simp only [Act.put, List.setIfInBounds_toArray, List.set_cons_zero, List.set_cons_succ])
            first | refine wpB_skip 1 rfl (by kernel_rfl) (by kernel_rfl) (by kernel_rfl) (by rfl) ?_ | (refine wpB_text 1 (v := ?_) rfl (by kernel_rfl) (by kernel_rfl) (by kernel_rfl) (by rfl) (fun W hW => ?_) ?_; rotate_left; (have k1 := hW; obtain ⟨hc1, hf1⟩ := bcell k1; go_simp; refine comes_v ?_; exact k1))
            (try simp only [Act.put, List.setIfInBounds_toArray, List.set_cons_zero, List.set_cons_succ])
            first | refine wpB_skip 2 rfl (by kernel_rfl) (by kernel_rfl) (by kernel_rfl) (by rfl) ?_ | (refine wpB_text 2 (v := ?_) rfl (by kernel_rfl) (by kernel_rfl) (by kernel_rfl) (by rfl) (fun W hW => ?_) ?_; rotate_left; (have k1 := hW; obtain ⟨hc1, hf1⟩ := bcell k1; go_simp; refine comes_v ?_; exact k1))
            (try simp only [Act.put, List.setIfInBounds_toArray, List.set_cons_zero, List.set_cons_succ])
            first | refine wpB_skip 3 rfl (by kernel_rfl) (by kernel_rfl) (by kernel_rfl) (by rfl) ?_ | (refine wpB_text 3 (v := ?_) rfl (by kernel_rfl) (by kernel_rfl) (by kernel_rfl) (by rfl) (fun W hW => ?_) ?_; rotate_left; (have k1 := hW; obtain ⟨hc1, hf1⟩ := bcell k1; go_simp; refine comes_v ?_; exact k1))
            (try simp only [Act.put, List.setIfInBounds_toArray, List.set_cons_zero, List.set_cons_succ])
            first | refine wpB_skip 4 rfl (by kernel_rfl) (by kernel_rfl) (by kernel_rfl) (by rfl) ?_ | (refine wpB_text 4 (v := .bool false) rfl (by kernel_rfl) (by kernel_rfl) (by kernel_rfl) (by rfl) (fun W hW => ?_) ?_; (have k1 := hW; obtain ⟨hc1, hf1⟩ := bcell k1; go_simp; exact comes_c ( KK.out _ (BP.trans (k1.mono BP.size))) (fun wn hbn => bt_keep k1 hbn)))
            (try simp only [Act.put, List.setIfInBounds_toArray, List.set_cons_zero, List.set_cons_succ])
            refine wpB_done (by kernel_rfl) ?_ _
            intro W hW; have k1 := hW
            go_wp2_with fail
            go_roundg (n - (k + 1))
            case measure => have := HGK.out; omega
            case rel => exact ⟨k + 1, by omega, rfl, by go_num, BP.trans (k1.mono BP.size), hF2⟩
        · have hkn : n = k := by omega
          subst hkn
          have hy : Hid (difB l = true) := Lib.hid (HT.out (fun i hi => ⟨HPE.out i (by have := HN.out; omega), hF.out i (by have := HN.out; omega)⟩))
          clear hF KC HIN HG HT HC HPE
          go_wp2_with fail
          go_ret
          exact ⟨ret_bool hy.out.symm, hB⟩
    · have hpf : pegsB l = false := by simpa using hpg
      have K1 := Lib.hid (KA.out w (Below.refl _ _))
      rw [hpf] at K1
      have hng : Hid (difB l = false) := Lib.hid (difB_false (fun h => hpg ((pegsB_iff l).2 fun i hi => (h.fine i hi).1)))
      clear hR hpg hpf KA
      go_enter Try.func140, Try.ntmps140
      go_wp2_with fail
      refine K1.out.mono ?_; rintro e w1 ⟨rfl, hb1⟩
      go_wp2_with fail
      go_ret
      exact ⟨ret_bool hng.out.symm, hb1⟩
theorem implAreDifferent_any (A : Option Addr) (c : Nat) (l : List (Int × Int)) (w : World) (hn : l.length ≤ 1048576) (hcap : l.length ≤ c) (hc2 : c ≤ 9223372036854775807) (hR : Rd w w.heap.size A l) :
    Calls Try.prog 120 #[.slice A l.length c] w fun e w' => e = .returned (.bool (difB l)) ∧ Below w.heap.size w w' := by
  by_cases hlo : l.length < 1
  · have hng : Hid (difB l = false) := Lib.hid (difB_false (fun h => by have := h.few; omega))
    have d1 : ¬ ((0 : Int) < (l.length : Int)) := by omega
    clear hR
    go_enter Try.func120, Try.ntmps120
    go_wp2_with fail
    go_ret
    exact ⟨ret_bool hng.out.symm, Below.refl _ _⟩
  · have K := Lib.hid (upTo30_any A c l w (by omega) hn hcap hc2 hR)
    have d1 : (0 : Int) < (l.length : Int) := by omega
    clear hR hlo
    generalize difB l = d at *
    generalize l.length = n at *
    go_enter Try.func120, Try.ntmps120
    go_wp2_with fail
    refine K.out.mono ?_; rintro e w1 ⟨rfl, hb1⟩
    go_wp2_with fail
    go_ret
    exact ⟨rfl, hb1⟩
end Go.Proofs.Ytheddoinnakneaa
/- contract: points put in order, the model -/
namespace Go.Proofs.Ytheddoinnakneaa
open Go.ChangeShapes Go.WideShapes Go.ChangeAt Go.RowKit Go.Joins
set_option linter.unusedVariables false
set_option linter.unusedSimpArgs false
set_option maxRecDepth 4000
theorem pgLess_lx (a1 a2 b1 b2 : Int) (w : World) :
    Calls Try.prog 74 #[.agg #[.int .i64 a1, .int .i64 a2], .agg #[.int .i64 b1, .int .i64 b2]] w fun e w' => e = .returned (.bool (lxB (a1, a2) (b1, b2))) ∧ Below w.heap.size w w' := by
  by_cases h1 : a1 < b1
  · go_enter Try.func74, Try.ntmps74
    go_wp2_with fail
    go_ret
    exact ⟨ret_bool (by simp [lxB, h1]), (by repeat (first | exact Below.refl _ _ | assumption | apply Below.drew | refine Below.alloc ?_ (by simp <;> omega) _))⟩
  · by_cases h2 : a1 = b1
    · by_cases h3 : a2 < b2
      all_goals
        subst h2
        go_enter Try.func74, Try.ntmps74
        go_wp2_with fail
        go_ret
        exact ⟨ret_bool (by simp [lxB, h3]), (by repeat (first | exact Below.refl _ _ | assumption | apply Below.drew | refine Below.alloc ?_ (by simp <;> omega) _))⟩
    · go_enter Try.func74, Try.ntmps74
      go_wp2_with fail
      go_ret
      exact ⟨ret_bool (by simp [lxB, h1, h2]), (by repeat (first | exact Below.refl _ _ | assumption | apply Below.drew | refine Below.alloc ?_ (by simp <;> omega) _))⟩
end Go.Proofs.Ytheddoinnakneaa
/- contract: the band, the model -/
namespace Go.Proofs.Ytheddoinnakneaa
open Go.ChangeShapes Go.WideShapes Go.ChangeAt Go.RowKit Go.Joins
set_option linter.unusedVariables false
set_option linter.unusedSimpArgs false
set_option maxRecDepth 4000
end Go.Proofs.Ytheddoinnakneaa
/- contract: comparing two numbers -/
namespace Go.Proofs.Ytheddoinnakneaa
open Go.ChangeShapes Go.WideShapes Go.ChangeAt Go.RowKit Go.Joins
set_option linter.unusedVariables false
set_option linter.unusedSimpArgs false
set_option maxRecDepth 4000
theorem isNaN_any (a : Int) (w : World) : Calls Try.prog 153 #[.int .i64 a] w fun e w' => e = .returned (.bool false) ∧ w = w' := by
  go_enter Try.func153, Try.ntmps153
  go_wp2
  go_ret
  exact ⟨by simp, rfl⟩
/-- a number's sign -/
def sgI (x : Int) : Int := if 0 < x then 1 else if x < 0 then -1 else 0
theorem compare_any (a b : Int) (w : World) : Calls Try.prog 133 #[.int .i64 a, .int .i64 b] w fun e w' => e = .returned (.int .i64 (sgI (a - b))) ∧ w = w' := by
  have K1 := Lib.hid (fun W => isNaN_any a W)
  have K2 := Lib.hid (fun W => isNaN_any b W)
  rcases Int.lt_trichotomy a b with h | h | h
  · have e : sgI (a - b) = -1 := by unfold sgI; rw [if_neg (by omega), if_pos (by omega)]
    rw [e]
    go_enter Try.func133, Try.ntmps133
    go_wp2_with fail
    refine (K1.out _).mono ?_; rintro e _ ⟨rfl, rfl⟩
    go_wp2_with fail
    refine (K2.out _).mono ?_; rintro e _ ⟨rfl, rfl⟩
    go_wp2_with fail
    go_ret
    exact ⟨rfl, rfl⟩
  · subst h
    have e : sgI (a - a) = 0 := by unfold sgI; rw [if_neg (by omega), if_neg (by omega)]
    rw [e]
    go_enter Try.func133, Try.ntmps133
    go_wp2_with fail
    refine (K1.out _).mono ?_; rintro e _ ⟨rfl, rfl⟩
    go_wp2_with fail
    refine (K2.out _).mono ?_; rintro e _ ⟨rfl, rfl⟩
    go_wp2_with fail
    go_ret
    exact ⟨rfl, rfl⟩
  · have e : sgI (a - b) = 1 := by unfold sgI; rw [if_pos (by omega)]
    have h2 : ¬ a < b := by omega
    rw [e]
    go_enter Try.func133, Try.ntmps133
    go_wp2_with fail
    refine (K1.out _).mono ?_; rintro e _ ⟨rfl, rfl⟩
    go_wp2_with fail
    refine (K2.out _).mono ?_; rintro e _ ⟨rfl, rfl⟩
    go_wp2_with fail
    go_ret
    exact ⟨rfl, rfl⟩
end Go.Proofs.Ytheddoinnakneaa
/- contracts: differences of points, squares -/
namespace Go.Proofs.Ytheddoinnakneaa
open Go.ChangeShapes Go.WideShapes Go.ChangeAt Go.RowKit Go.Joins
set_option linter.unusedVariables false
set_option linter.unusedSimpArgs false
set_option maxRecDepth 4000
/-- numbers that leave room -/
def Mid (x : Int) : Prop := -1000000000000 ≤ x ∧ x ≤ 1000000000000
theorem minus_any (a1 a2 b1 b2 : Int) (w : World) (h1 : Mid a1) (h2 : Mid a2) (h3 : Mid b1) (h4 : Mid b2) :
    Calls Try.prog 80 #[.agg #[.int .i64 a1, .int .i64 a2], .agg #[.int .i64 b1, .int .i64 b2]] w fun e w' => e = .returned (.agg #[.int .i64 (a1 - b1), .int .i64 (a2 - b2)]) ∧ Below w.heap.size w w' := by
  obtain ⟨x1, x2⟩ := h1
  obtain ⟨x3, x4⟩ := h2
  obtain ⟨x5, x6⟩ := h3
  obtain ⟨x7, x8⟩ := h4
  go_enter Try.func80, Try.ntmps80
  go_wp2
  refine bodyPost_ret (v := .agg #[.int .i64 (a1 - b1), .int .i64 (a2 - b2)]) (by simp [results, Try.results80, go_sem]) rfl ⟨rfl, ?_⟩
  repeat (first | with_reducible assumption | with_reducible exact Below.refl _ _ | with_reducible apply Below.drew | ((with_reducible refine Below.setCell ?_ ?_ _); rotate_left; (first | exact Nat.le_refl _ | omega | (simp <;> omega))) | ((with_reducible refine Below.alloc ?_ ?_ _); rotate_left; (first | omega | (simp <;> omega))))
end Go.Proofs.Ytheddoinnakneaa
/- contracts: squares -/
namespace Go.Proofs.Ytheddoinnakneaa
open Go.ChangeShapes Go.WideShapes Go.ChangeAt Go.RowKit Go.Joins
set_option linter.unusedVariables false
set_option linter.unusedSimpArgs false
set_option maxRecDepth 4000
theorem sq_bd {x : Int} (h : -100000000 ≤ x ∧ x ≤ 100000000) : 0 ≤ x * x ∧ x * x ≤ 10000000000000000 := by
  have h1 := mul_bd (x := x) (y := x) (m := 100000000) (n := 100000000) (by omega) (by omega) (by omega) (by omega)
  refine ⟨?_, by omega⟩
  rcases Int.le_total 0 x with h | h
  · exact Int.mul_nonneg h h
  · have := Int.mul_nonneg (show 0 ≤ -x by omega) (show 0 ≤ -x by omega)
    rwa [Int.neg_mul_neg] at this
theorem square_any (a1 a2 : Int) (w : World) (h1 : -100000000 ≤ a1 ∧ a1 ≤ 100000000) (h2 : -100000000 ≤ a2 ∧ a2 ≤ 100000000) :
    Calls Try.prog 81 #[.agg #[.int .i64 a1, .int .i64 a2]] w fun e w' => e = .returned (.int .i64 (a1 * a1 + a2 * a2)) ∧ Below w.heap.size w w' := by
  obtain ⟨x1, x2⟩ := sq_bd h1
  obtain ⟨x3, x4⟩ := sq_bd h2
  go_enter Try.func81, Try.ntmps81
  go_wp2
  go_ret
  exact ⟨rfl, (by repeat (first | exact Below.refl _ _ | assumption | apply Below.drew | refine Below.alloc ?_ (by simp <;> omega) _))⟩
end Go.Proofs.Ytheddoinnakneaa
/- contracts: the order of points, the program's side -/
namespace Go.Proofs.Ytheddoinnakneaa
open Go.ChangeShapes Go.WideShapes Go.ChangeAt Go.RowKit Go.Joins
set_option linter.unusedVariables false
set_option linter.unusedSimpArgs false
set_option maxRecDepth 4000
def cmpP (p q : Int × Int) : Int := if sgI (p.1 - q.1) ≠ 0 then sgI (p.1 - q.1) else sgI (p.2 - q.2)
theorem cmpP_lt {p q : Int × Int} : cmpP p q < 0 ↔ lxP p q := by
  unfold cmpP sgI lxP
  repeat' split
  all_goals omega
theorem or2_any (g n : Nat) (x y : Int) (w : World) (h0 : w.cell? ⟨g, 0, none⟩ = some (.int .i64 x)) (h1 : w.cell? ⟨g, 1, none⟩ = some (.int .i64 y)) :
    Calls Try.prog 132 #[.slice (some ⟨g, 0, none⟩) 2 n] w fun e w' => e = .returned (.int .i64 (if x ≠ 0 then x else y)) ∧ w = w' := by
  obtain ⟨r, hr⟩ : ∃ r, r = if x ≠ 0 then x else y := ⟨_, rfl⟩
  rw [← hr]
  have HR := Lib.hid hr
  clear hr
  go_enter Try.func132, Try.ntmps132
  go_wp2_with fail
  go_loopg [8] 2 (fun g2 i wr => ∃ k : Nat, k ≤ 2 ∧ g2 = 2 - k ∧ i = .int .i64 k ∧ wr = w ∧ Hid (k = 0 ∨ (x = 0 ∧ (k = 1 ∨ y = 0))))
  case atStart => exact ⟨0, by omega, rfl, rfl, rfl, Lib.hid (Or.inl rfl)⟩
  case round =>
    obtain ⟨k, hk, hg, rfl, rfl, hz⟩ := hrel
    have HGK := Lib.hid hg
    clear hg
    have hk3 : k = 0 ∨ k = 1 ∨ k = 2 := by omega
    rcases hk3 with rfl | rfl | rfl
    · by_cases hx : x = 0
      · subst hx
        go_wp2_with fail
        go_roundg 1
        case measure => have := HGK.out; omega
        case rel => exact ⟨1, by omega, rfl, by go_num, rfl, Lib.hid (by simp)⟩
      · have hrx : Hid (r = x) := Lib.hid (by rw [HR.out, if_pos hx])
        go_wp2_with fail
        go_ret
        exact ⟨ret_int hrx.out.symm, rfl⟩
    · have hx : x = 0 := by
        rcases hz.out with h | h
        · omega
        · exact h.1
      have hry : Hid (r = y) := Lib.hid (by rw [HR.out, if_neg (by omega)])
      by_cases hy : y = 0
      · subst hy
        subst hx
        go_wp2_with fail
        go_roundg 0
        case measure => have := HGK.out; omega
        case rel => exact ⟨2, by omega, rfl, by go_num, rfl, Lib.hid (by simp)⟩
      · clear hz hx
        go_wp2_with fail
        go_ret
        exact ⟨ret_int hry.out.symm, rfl⟩
    · have hxy : x = 0 ∧ y = 0 := by have := hz.out; omega
      have hr0 : Hid (r = 0) := Lib.hid (by rw [HR.out, hxy.1, hxy.2]; simp)
      clear hxy
      go_wp2_with fail
      go_ret
      exact ⟨ret_int hr0.out.symm, rfl⟩
theorem pegCompare_any (a1 a2 b1 b2 : Int) (w : World) (ha : Sz a1 a2) (hb : Sz b1 b2) :
    Calls Try.prog 118 #[.agg #[.int .i64 a1, .int .i64 a2], .agg #[.int .i64 b1, .int .i64 b2]] w fun e w' => e = .returned (.int .i64 (cmpP (a1, a2) (b1, b2))) ∧ Below w.heap.size w w' := by
  have K1 := Lib.hid (fun W => compare_any a1 b1 W)
  have K2 := Lib.hid (fun W => compare_any a2 b2 W)
  have KO : Hid (∀ (g n : Nat) (W : World) (h0 : W.cell? ⟨g, 0, none⟩ = some (.int .i64 (sgI (a1 - b1)))) (h1 : W.cell? ⟨g, 1, none⟩ = some (.int .i64 (sgI (a2 - b2)))), Calls Try.prog 132 #[.slice (some ⟨g, 0, none⟩) 2 n] W fun e w' => e = .returned (.int .i64 (cmpP (a1, a2) (b1, b2))) ∧ W = w') := Lib.hid (fun g n W h0 h1 => or2_any g n (sgI (a1 - b1)) (sgI (a2 - b2)) W h0 h1)
  clear ha hb
  generalize cmpP (a1, a2) (b1, b2) = r at *
  generalize sgI (a1 - b1) = x at *
  generalize sgI (a2 - b2) = y at *
  go_enter Try.func118, Try.ntmps118
  go_wp2_with fail
  obtain ⟨Wp, hWp⟩ : ∃ Wp, Wp = ((w.alloc (.cells #[.int .i64 a1, .int .i64 a2] 56)).alloc (.cells #[.int .i64 b1, .int .i64 b2] 56)) := ⟨_, rfl⟩
  rw [← hWp]
  have yWp0_0 : Wp.cell? ⟨w.heap.size, 0, none⟩ = some (.int .i64 a1) := by rw [hWp]; go_simp
  have yWp0_1 : Wp.cell? ⟨w.heap.size, 1, none⟩ = some (.int .i64 a2) := by rw [hWp]; go_simp
  have fWp0 : ∀ o, Wp.frozen? ⟨w.heap.size, o, none⟩ = false := by intro o; rw [hWp]; (repeat rw [frozen?_alloc_cells]); simp [World.frozen?]
  have zWp0 : w.heap.size < Wp.heap.size := by rw [hWp]; simp <;> omega
  have yWp1_0 : Wp.cell? ⟨w.heap.size + 1, 0, none⟩ = some (.int .i64 b1) := by rw [hWp]; go_simp
  have yWp1_1 : Wp.cell? ⟨w.heap.size + 1, 1, none⟩ = some (.int .i64 b2) := by rw [hWp]; go_simp
  have fWp1 : ∀ o, Wp.frozen? ⟨w.heap.size + 1, o, none⟩ = false := by intro o; rw [hWp]; (repeat rw [frozen?_alloc_cells]); simp [World.frozen?]
  have zWp1 : w.heap.size + 1 < Wp.heap.size := by rw [hWp]; simp <;> omega
  have BWp : Below w.heap.size w Wp := by rw [hWp]; exact (Below.alloc (Below.alloc (Below.refl _ _) (by simp <;> omega) _) (by simp <;> omega) _)
  have eWp : Hid (Wp.heap.size = w.heap.size + 2) := Lib.hid (by rw [hWp]; simp)
  clear hWp
  refine wp_region_BT 10 (fun W => Below (Wp).heap.size (Wp) W) (by kernel_rfl) (by kernel_rfl) (by repeat (first | exact Below.refl _ _ | apply Below.drew)) ?_
  simp only [List.take_succ_cons, List.take_zero, List.drop_succ_cons, List.drop_zero]
  first | refine wpH_skip (by rfl) ?_ | (refine wpH_text (v := ?_) (by rfl) (fun W k1 => ?_) ?_; rotate_left; (obtain ⟨hc1, hf1⟩ := bcell k1;  go_simp; refine comes_v ?_; exact k1))
  (try simp only [Act.put, List.setIfInBounds_toArray, List.set_cons_zero, List.set_cons_succ])
  first | refine wpH_skip (by rfl) ?_ | (refine wpH_text (v := ?_) (by rfl) (fun W k1 => ?_) ?_; rotate_left; (obtain ⟨hc1, hf1⟩ := bcell k1;  go_simp; refine comes_v ?_; exact k1))
  (try simp only [Act.put, List.setIfInBounds_toArray, List.set_cons_zero, List.set_cons_succ])
  first | refine wpH_skip (by rfl) ?_ | (refine wpH_text (v := ?_) (by rfl) (fun W k1 => ?_) ?_; rotate_left; (obtain ⟨hc1, hf1⟩ := bcell k1;  go_simp; refine comes_v ?_; exact k1))
  (try simp only [Act.put, List.setIfInBounds_toArray, List.set_cons_zero, List.set_cons_succ])
  first | refine wpH_skip (by rfl) ?_ | (refine wpH_text (v := ?_) (by rfl) (fun W k1 => ?_) ?_; rotate_left; (obtain ⟨hc1, hf1⟩ := bcell k1;  go_simp; refine comes_v ?_; exact k1))
  (try simp only [Act.put, List.setIfInBounds_toArray, List.set_cons_zero, List.set_cons_succ])
  first | refine wpH_skip (by rfl) ?_ | (refine wpH_text (v := .int .i64 x) (by rfl) (fun W k1 => ?_) ?_; (obtain ⟨hc1, hf1⟩ := bcell k1;  go_simp; exact comes_q ( K1.out _) k1))
  (try simp only [Act.put, List.setIfInBounds_toArray, List.set_cons_zero, List.set_cons_succ])
  first | refine wpH_skip (by rfl) ?_ | (refine wpH_text (v := ?_) (by rfl) (fun W k1 => ?_) ?_; rotate_left; (obtain ⟨hc1, hf1⟩ := bcell k1;  go_simp; refine comes_v ?_; exact k1))
  (try simp only [Act.put, List.setIfInBounds_toArray, List.set_cons_zero, List.set_cons_succ])
  first | refine wpH_skip (by rfl) ?_ | (refine wpH_text (v := ?_) (by rfl) (fun W k1 => ?_) ?_; rotate_left; (obtain ⟨hc1, hf1⟩ := bcell k1;  go_simp; refine comes_v ?_; exact k1))
  (try simp only [Act.put, List.setIfInBounds_toArray, List.set_cons_zero, List.set_cons_succ])
  first | refine wpH_skip (by rfl) ?_ | (refine wpH_text (v := ?_) (by rfl) (fun W k1 => ?_) ?_; rotate_left; (obtain ⟨hc1, hf1⟩ := bcell k1;  go_simp; refine comes_v ?_; exact k1))
  (try simp only [Act.put, List.setIfInBounds_toArray, List.set_cons_zero, List.set_cons_succ])
  first | refine wpH_skip (by rfl) ?_ | (refine wpH_text (v := ?_) (by rfl) (fun W k1 => ?_) ?_; rotate_left; (obtain ⟨hc1, hf1⟩ := bcell k1;  go_simp; refine comes_v ?_; exact k1))
  (try simp only [Act.put, List.setIfInBounds_toArray, List.set_cons_zero, List.set_cons_succ])
  first | refine wpH_skip (by rfl) ?_ | (refine wpH_text (v := .int .i64 y) (by rfl) (fun W k1 => ?_) ?_; (obtain ⟨hc1, hf1⟩ := bcell k1;  go_simp; exact comes_q ( K2.out _) k1))
  (try simp only [Act.put, List.setIfInBounds_toArray, List.set_cons_zero, List.set_cons_succ])
  refine wpH_nil ?_
  intro W k1; obtain ⟨hc1, hf1⟩ := bcell k1
  go_wp2_with fail
  refine (KO.out W.heap.size 2 _ (by go_simp) (by go_simp)).mono ?_; rintro e w2 ⟨rfl, rfl⟩
  have BW := BWp.trans (k1.mono BWp.size)
  have B2 := Below.alloc BW BW.size (.cells #[.int .i64 x, .int .i64 y] 3)
  go_wp2_with fail
  go_ret
  exact ⟨rfl, B2⟩
end Go.Proofs.Ytheddoinnakneaa
/- contract: the next corner, the program's side -/
namespace Go.Proofs.Ytheddoinnakneaa
open Go.ChangeShapes Go.WideShapes Go.ChangeAt Go.RowKit Go.Joins
set_option linter.unusedVariables false
set_option linter.unusedSimpArgs false
set_option maxRecDepth 4000
theorem fold_step {l : List (Int × Int)} {k : Nat} (f a : Int × Int) (h : k < l.length) : (l.take (k + 1)).foldl (MH.stepN f) a = MH.stepN f ((l.take k).foldl (MH.stepN f) a) (vx l k) := by
  rw [List.take_add_one, vx_get h, List.foldl_append]
  rfl
theorem step_yes {f n p : Int × Int} (h : MH.tw f n p < 0 ∨ (MH.tw f n p = 0 ∧ MH.sq n f < MH.sq p f)) : MH.stepN f n p = p := by unfold MH.stepN; rw [if_pos h]
theorem step_no {f n p : Int × Int} (h : ¬ (MH.tw f n p < 0 ∨ (MH.tw f n p = 0 ∧ MH.sq n f < MH.sq p f))) : MH.stepN f n p = n := by unfold MH.stepN; rw [if_neg h]
theorem step_or {f n p : Int × Int} : MH.stepN f n p = p ∨ MH.stepN f n p = n := by unfold MH.stepN; split <;> simp
theorem isPg_bd {p : Int × Int} (h : isPg p = true) : (-40 ≤ p.1 ∧ p.1 ≤ 40) ∧ (-40 ≤ p.2 ∧ p.2 ≤ 40) := by unfold isPg isPegB at h; simp at h; omega
/-- how memory stands while the next corner is sought: from, the result, the next one -/
structure NcS (w W : World) (f1 f2 n1 n2 : Int) : Prop where
  bel : Below w.heap.size w W
  size : w.heap.size + 2 < W.heap.size
  c30 : W.cell? ⟨w.heap.size, 0, none⟩ = some (.int .i64 f1)
  c31 : W.cell? ⟨w.heap.size, 1, none⟩ = some (.int .i64 f2)
  c40 : ∃ u, W.cell? ⟨w.heap.size + 1, 0, none⟩ = some u
  c41 : ∃ u, W.cell? ⟨w.heap.size + 1, 1, none⟩ = some u
  c50 : W.cell? ⟨w.heap.size + 2, 0, none⟩ = some (.int .i64 n1)
  c51 : W.cell? ⟨w.heap.size + 2, 1, none⟩ = some (.int .i64 n2)
  f4 : ∀ o, W.frozen? ⟨w.heap.size + 1, o, none⟩ = false
  f5 : ∀ o, W.frozen? ⟨w.heap.size + 2, o, none⟩ = false
theorem NcS.up {w W W' : World} {f1 f2 n1 n2 : Int} (h : NcS w W f1 f2 n1 n2) (hb : Below W.heap.size W W') : NcS w W' f1 f2 n1 n2 := by
  obtain ⟨hc, hf⟩ := bcell hb
  have hz := h.size
  obtain ⟨u, hu⟩ := h.c40
  obtain ⟨v, hv⟩ := h.c41
  exact ⟨h.bel.trans (hb.mono h.bel.size), Nat.lt_of_lt_of_le hz hb.size, (hc _ _ (by omega)).trans h.c30, (hc _ _ (by omega)).trans h.c31, ⟨u, (hc _ _ (by omega)).trans hu⟩, ⟨v, (hc _ _ (by omega)).trans hv⟩, (hc _ _ (by omega)).trans h.c50, (hc _ _ (by omega)).trans h.c51, fun o => (hf _ _ (by omega)).trans (h.f4 o), fun o => (hf _ _ (by omega)).trans (h.f5 o)⟩
theorem NcS.store {w W : World} {f1 f2 n1 n2 : Int} (h : NcS w W f1 f2 n1 n2) (p1 p2 : Int) : NcS w ((W.setCell ⟨w.heap.size + 2, 0, none⟩ (.int .i64 p1)).setCell ⟨w.heap.size + 2, 1, none⟩ (.int .i64 p2)) f1 f2 p1 p2 := by
  have ne : ∀ (V : World) (b b' o o' : Nat) (v : Value), ¬ (b = b' ∧ o = o') → (V.setCell ⟨b, o, none⟩ v).cell? ⟨b', o', none⟩ = V.cell? ⟨b', o', none⟩ := fun V b b' o o' v h => World.cell?_setCell_other V _ _ _ (fun e => h (by injection e with e1 e2; exact ⟨e1, e2⟩))
  have sm : ∀ (V : World) (b o : Nat) (u v : Value), V.cell? ⟨b, o, none⟩ = some u → (V.setCell ⟨b, o, none⟩ v).cell? ⟨b, o, none⟩ = some v := fun V b o u v h => World.cell?_setCell_same V _ _ h
  have hz := h.size
  obtain ⟨u, hu⟩ := h.c40
  obtain ⟨v, hv⟩ := h.c41
  refine ⟨(h.bel.setCell (p := ⟨w.heap.size + 2, 0, none⟩) (by show w.heap.size ≤ w.heap.size + 2; omega) _).setCell (p := ⟨w.heap.size + 2, 1, none⟩) (by show w.heap.size ≤ w.heap.size + 2; omega) _, by simpa [World.setCell] using hz, ?_, ?_, ⟨u, ?_⟩, ⟨v, ?_⟩, ?_, ?_, fun o => ?_, fun o => ?_⟩
  · rw [ne _ _ _ _ _ _ (by omega), ne _ _ _ _ _ _ (by omega)]; exact h.c30
  · rw [ne _ _ _ _ _ _ (by omega), ne _ _ _ _ _ _ (by omega)]; exact h.c31
  · rw [ne _ _ _ _ _ _ (by omega), ne _ _ _ _ _ _ (by omega)]; exact hu
  · rw [ne _ _ _ _ _ _ (by omega), ne _ _ _ _ _ _ (by omega)]; exact hv
  · rw [ne _ _ _ _ _ _ (by omega)]; exact sm _ _ _ _ _ h.c50
  · exact sm _ _ _ _ _ ((ne _ _ _ _ _ _ (by omega)).trans h.c51)
  · rw [World.frozen?_setCell, World.frozen?_setCell]; exact h.f4 o
  · rw [World.frozen?_setCell, World.frozen?_setCell]; exact h.f5 o
end Go.Proofs.Ytheddoinnakneaa
/- contract: the first of some points, by the library -/
namespace Go.Proofs.Ytheddoinnakneaa
open Go.ChangeShapes Go.WideShapes Go.ChangeAt Go.RowKit Go.Joins
set_option linter.unusedVariables false
set_option linter.unusedSimpArgs false
set_option maxRecDepth 4000
/-- how memory stands while the least point is sought: the result, the least one till now -/
structure MnS (w W : World) (n1 n2 : Int) : Prop where
  bel : Below w.heap.size w W
  size : w.heap.size + 1 < W.heap.size
  c40 : ∃ u, W.cell? ⟨w.heap.size, 0, none⟩ = some u
  c41 : ∃ u, W.cell? ⟨w.heap.size, 1, none⟩ = some u
  c50 : W.cell? ⟨w.heap.size + 1, 0, none⟩ = some (.int .i64 n1)
  c51 : W.cell? ⟨w.heap.size + 1, 1, none⟩ = some (.int .i64 n2)
  f4 : ∀ o, W.frozen? ⟨w.heap.size, o, none⟩ = false
  f5 : ∀ o, W.frozen? ⟨w.heap.size + 1, o, none⟩ = false
theorem MnS.up {w W W' : World} {n1 n2 : Int} (h : MnS w W n1 n2) (hb : Below W.heap.size W W') : MnS w W' n1 n2 := by
  obtain ⟨hc, hf⟩ := bcell hb
  have hz := h.size
  obtain ⟨u, hu⟩ := h.c40
  obtain ⟨v, hv⟩ := h.c41
  exact ⟨h.bel.trans (hb.mono h.bel.size), Nat.lt_of_lt_of_le hz hb.size, ⟨u, (hc _ _ (by omega)).trans hu⟩, ⟨v, (hc _ _ (by omega)).trans hv⟩, (hc _ _ (by omega)).trans h.c50, (hc _ _ (by omega)).trans h.c51, fun o => (hf _ _ (by omega)).trans (h.f4 o), fun o => (hf _ _ (by omega)).trans (h.f5 o)⟩
theorem MnS.store {w W : World} {n1 n2 : Int} (h : MnS w W n1 n2) (p1 p2 : Int) : MnS w ((W.setCell ⟨w.heap.size + 1, 0, none⟩ (.int .i64 p1)).setCell ⟨w.heap.size + 1, 1, none⟩ (.int .i64 p2)) p1 p2 := by
  have ne : ∀ (V : World) (b b' o o' : Nat) (v : Value), ¬ (b = b' ∧ o = o') → (V.setCell ⟨b, o, none⟩ v).cell? ⟨b', o', none⟩ = V.cell? ⟨b', o', none⟩ := fun V b b' o o' v h => World.cell?_setCell_other V _ _ _ (fun e => h (by injection e with e1 e2; exact ⟨e1, e2⟩))
  have sm : ∀ (V : World) (b o : Nat) (u v : Value), V.cell? ⟨b, o, none⟩ = some u → (V.setCell ⟨b, o, none⟩ v).cell? ⟨b, o, none⟩ = some v := fun V b o u v h => World.cell?_setCell_same V _ _ h
  have hz := h.size
  obtain ⟨u, hu⟩ := h.c40
  obtain ⟨v, hv⟩ := h.c41
  refine ⟨(h.bel.setCell (p := ⟨w.heap.size + 1, 0, none⟩) (by show w.heap.size ≤ w.heap.size + 1; omega) _).setCell (p := ⟨w.heap.size + 1, 1, none⟩) (by show w.heap.size ≤ w.heap.size + 1; omega) _, by simpa [World.setCell] using hz, ⟨u, ?_⟩, ⟨v, ?_⟩, ?_, ?_, fun o => ?_, fun o => ?_⟩
  · rw [ne _ _ _ _ _ _ (by omega), ne _ _ _ _ _ _ (by omega)]; exact hu
  · rw [ne _ _ _ _ _ _ (by omega), ne _ _ _ _ _ _ (by omega)]; exact hv
  · rw [ne _ _ _ _ _ _ (by omega)]; exact sm _ _ _ _ _ h.c50
  · exact sm _ _ _ _ _ ((ne _ _ _ _ _ _ (by omega)).trans h.c51)
  · rw [World.frozen?_setCell, World.frozen?_setCell]; exact h.f4 o
  · rw [World.frozen?_setCell, World.frozen?_setCell]; exact h.f5 o
end Go.Proofs.Ytheddoinnakneaa
/- contract: the program goes from corner to corner around the pegs -/
namespace Go.Proofs.Ytheddoinnakneaa
open Go.ChangeShapes Go.WideShapes Go.ChangeAt Go.RowKit Go.Joins
set_option linter.unusedVariables false
set_option linter.unusedSimpArgs false
set_option maxRecDepth 4000
end Go.Proofs.Ytheddoinnakneaa
/- contracts: AreDifferent on both sides, as the law calls them -/
namespace Go.Proofs.Ytheddoinnakneaa
open Go.ChangeShapes Go.WideShapes Go.ChangeAt Go.RowKit Go.Joins
set_option linter.unusedVariables false
set_option linter.unusedSimpArgs false
set_option maxRecDepth 4000
end Go.Proofs.Ytheddoinnakneaa
/- a list or none -/
namespace Go.Proofs.Ytheddoinnakneaa
open Go.ChangeShapes Go.WideShapes Go.ChangeAt Go.RowKit Go.Joins
set_option linter.unusedVariables false
set_option linter.unusedSimpArgs false
set_option maxRecDepth 4000
def sel (b : Bool) (m : List (Int × Int)) : List (Int × Int) := if b = true then m else []
end Go.Proofs.Ytheddoinnakneaa
/- contracts: BandOf on both sides -/
namespace Go.Proofs.Ytheddoinnakneaa
open Go.ChangeShapes Go.WideShapes Go.ChangeAt Go.RowKit Go.Joins
set_option linter.unusedVariables false
set_option linter.unusedSimpArgs false
set_option maxRecDepth 4000
/-- the band -/
def band (l : List (Int × Int)) : List (Int × Int) := MH.hull (srt l)
theorem band_few {l : List (Int × Int)} (h : Dif l) : (band l).length ≤ 60 := by
  have h1 := hull_len (s := srt l)
  rw [srt_len] at h1
  have := h.few.2
  unfold band
  omega
theorem dif_pegs {l : List (Int × Int)} (h : Dif l) : ∀ x ∈ l, isPg x = true := by
  intro x hx
  obtain ⟨i, hi, e⟩ := in_iff.1 hx
  rw [← e]
  exact (h.fine i hi).1
theorem retL_own {w w' : World} {v : Value} {m : List (Int × Int)} (h : w'.ownsRow w.heap.size 56 2 v m.length (flat m)) (hb : Below w.heap.size w w') : RetL w m true (.returned (.tuple #[v, .bool true])) w' := by
  obtain ⟨A, c, rfl, h1, h2, h3⟩ := rw_of_own h
  exact ⟨A, c, rfl, h1, h2, hb, h3⟩
theorem band_le (l : List (Int × Int)) : (sel (difB l) (band l)).length ≤ 1048576 := by
  unfold sel
  split
  · rename_i h
    have := band_few (dif_of h)
    omega
  · simp
end Go.Proofs.Ytheddoinnakneaa

