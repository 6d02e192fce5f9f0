/- plain mathematics: what is left of a line -/
import Derived.Test.YtjkfdcjfoliboaaZb
namespace Go.Proofs.Ytjkfdcjfoliboaa.MJ
set_option linter.unusedVariables false
set_option linter.unusedSimpArgs false
theorem mz {x y : Int} (h : x * y = 0) (hx : x ≠ 0) : y = 0 := by
  rcases Int.mul_eq_zero.1 h with h | h
  · exact absurd h hx
  · exact h
/-- the value of a line at a point of another one -/
theorem tw_conv2 (a b c d x : Pt) (h : tw a b x = 0) : tw c d x * (b.2 - a.2) = tw c d a * (b.2 - x.2) + tw c d b * (x.2 - a.2) := by
  have e : tw c d x * (b.2 - a.2) - tw c d a * (b.2 - x.2) - tw c d b * (x.2 - a.2) = (d.2 - c.2) * tw a b x := by unfold tw; grind
  rw [h] at e; omega
theorem tw_conv1 (a b c d x : Pt) (h : tw a b x = 0) : tw c d x * (b.1 - a.1) = tw c d a * (b.1 - x.1) + tw c d b * (x.1 - a.1) := by
  have e : tw c d x * (b.1 - a.1) - tw c d a * (b.1 - x.1) - tw c d b * (x.1 - a.1) = (d.1 - c.1) * tw a b x := by unfold tw; grind
  rw [h] at e; omega
theorem on_left (a b : Pt) : on a b a := by
  refine ⟨by unfold tw; grind, ?_, ?_, ?_, ?_⟩ <;> omega
theorem on_right (a b : Pt) : on a b b := by
  refine ⟨by unfold tw; grind, ?_, ?_, ?_, ?_⟩ <;> omega
theorem on_same {a x : Pt} (h : on a a x) : x = a := by
  obtain ⟨_, h1, h2, h3, h4⟩ := h
  exact Prod.ext (by omega) (by omega)
/-- weights of two numbers that are together 0 -/
theorem conv {A B s t : Int} (h : A * s + B * t = 0) (hs : (0 ≤ s ∧ 0 ≤ t) ∨ (s ≤ 0 ∧ t ≤ 0)) (hst : s + t ≠ 0) : ¬ 0 < A * B := by
  intro hp
  rcases Int.lt_trichotomy A 0 with hA | hA | hA
  · have hB : B < 0 := by
      rcases Int.lt_or_le B 0 with hB | hB
      · exact hB
      · have := Int.mul_nonneg (show 0 ≤ -A by omega) hB; rw [Int.neg_mul] at this; omega
    rcases hs with ⟨h1, h2⟩ | ⟨h1, h2⟩
    · have a1 := Int.mul_nonneg (show 0 ≤ -A by omega) h1
      have a2 := Int.mul_nonneg (show 0 ≤ -B by omega) h2
      rw [Int.neg_mul] at a1 a2
      have z1 : A * s = 0 := by omega
      have z2 : B * t = 0 := by omega
      have := mz z1 (by omega); have := mz z2 (by omega); omega
    · have a1 := Int.mul_nonneg (show 0 ≤ -A by omega) (show 0 ≤ -s by omega)
      have a2 := Int.mul_nonneg (show 0 ≤ -B by omega) (show 0 ≤ -t by omega)
      rw [Int.neg_mul_neg] at a1 a2
      have z1 : A * s = 0 := by omega
      have z2 : B * t = 0 := by omega
      have := mz z1 (by omega); have := mz z2 (by omega); omega
  · subst hA; rw [Int.zero_mul] at hp; omega
  · have hB : 0 < B := by
      rcases Int.lt_or_le 0 B with hB | hB
      · exact hB
      · have := Int.mul_nonneg (Int.le_of_lt hA) (show 0 ≤ -B by omega); rw [Int.mul_neg] at this; omega
    rcases hs with ⟨h1, h2⟩ | ⟨h1, h2⟩
    · have a1 := Int.mul_nonneg (Int.le_of_lt hA) h1
      have a2 := Int.mul_nonneg (Int.le_of_lt hB) h2
      have z1 : A * s = 0 := by omega
      have z2 : B * t = 0 := by omega
      have := mz z1 (by omega); have := mz z2 (by omega); omega
    · have a1 := Int.mul_nonneg (Int.le_of_lt hA) (show 0 ≤ -s by omega)
      have a2 := Int.mul_nonneg (Int.le_of_lt hB) (show 0 ≤ -t by omega)
      rw [Int.mul_neg] at a1 a2
      have z1 : A * s = 0 := by omega
      have z2 : B * t = 0 := by omega
      have := mz z1 (by omega); have := mz z2 (by omega); omega
/-- a point of a line between its ends is no more to one side than both of them -/
theorem on_between {a b c d x : Pt} (h : on a b x) (hx : tw c d x = 0) (hne : a ≠ b) : ¬ 0 < tw c d a * tw c d b := by
  obtain ⟨h0, h1, h2, h3, h4⟩ := h
  by_cases e : a.2 = b.2
  · have e1 : a.1 ≠ b.1 := fun e' => hne (Prod.ext e' e)
    have := tw_conv1 a b c d x h0
    rw [hx, Int.zero_mul] at this
    exact conv this.symm (by omega) (by omega)
  · have := tw_conv2 a b c d x h0
    rw [hx, Int.zero_mul] at this
    exact conv this.symm (by omega) (by omega)
theorem end_of {a b c d x : Pt} (h : on a b x) (hx : tw c d x = 0) (hA : tw c d a = 0) (hB : tw c d b ≠ 0) : x = a := by
  obtain ⟨h0, h1, h2, h3, h4⟩ := h
  have c1 := tw_conv1 a b c d x h0
  have c2 := tw_conv2 a b c d x h0
  rw [hx, hA, Int.zero_mul, Int.zero_mul, Int.zero_add] at c1 c2
  have := mz c1.symm hB
  have := mz c2.symm hB
  exact Prod.ext (by omega) (by omega)
theorem share {a b c d x : Pt} (h1 : on a b x) (h2 : on c d x) : meets a b c d := by
  refine Classical.byContradiction fun hm => ?_
  have nA : ¬ on c d a := fun x => hm (Or.inl x)
  have nB : ¬ on c d b := fun x => hm (Or.inr (Or.inl x))
  have nC : ¬ on a b c := fun x => hm (Or.inr (Or.inr (Or.inl x)))
  have nD : ¬ on a b d := fun x => hm (Or.inr (Or.inr (Or.inr (Or.inl x))))
  have P := packs hm
  by_cases eab : a = b
  · subst eab; rw [on_same h1] at h2; exact nA h2
  by_cases ecd : c = d
  · subst ecd; rw [on_same h2] at h1; exact nC h1
  have p1 := on_between h1 h2.1 eab
  have p2 := on_between h2 h1.1 ecd
  rcases Int.lt_trichotomy (tw c d a * tw c d b) 0 with hAB | hAB | hAB
  · exact p2 (P.ab hAB)
  · have z : tw c d a = 0 ∧ tw c d b = 0 := by
      rcases Int.mul_eq_zero.1 hAB with h0 | h0
      · by_cases hB : tw c d b = 0
        · exact ⟨h0, hB⟩
        · exact absurd (end_of h1 h2.1 h0 hB ▸ h2) nA
      · by_cases hA : tw c d a = 0
        · exact ⟨hA, h0⟩
        · exact absurd (end_of (on_swap h1) h2.1 h0 hA ▸ h2) nB
    obtain ⟨zA, zB⟩ := z
    have hs := tw_sum a b c d
    have hx := tw_x a b c d
    have hy := tw_y a b c d
    rw [zA, zB] at hs hx hy
    have eCD : tw a b c = tw a b d := by omega
    have k1 : tw a b c * (c.1 - d.1) = 0 := by rw [← eCD] at hx; grind
    have k2 : tw a b c * (c.2 - d.2) = 0 := by rw [← eCD] at hy; grind
    have zC : tw a b c = 0 := by
      refine Classical.byContradiction fun hC => ecd (Prod.ext ?_ ?_)
      · have := mz k1 hC; omega
      · have := mz k2 hC; omega
    have zD : tw a b d = 0 := by omega
    obtain ⟨g0, g1, g2, g3, g4⟩ := h1
    obtain ⟨f0, f1, f2, f3, f4⟩ := h2
    by_cases e2 : c.2 = d.2
    · have e1 : c.1 ≠ d.1 := fun e' => ecd (Prod.ext e' e2)
      have ya : a.2 = c.2 := by
        have : (d.1 - c.1) * (a.2 - c.2) = 0 := by unfold tw at zA; rw [← e2] at zA; grind
        have := mz this (by omega); omega
      have yb : b.2 = c.2 := by
        have : (d.1 - c.1) * (b.2 - c.2) = 0 := by unfold tw at zB; rw [← e2] at zB; grind
        have := mz this (by omega); omega
      unfold on at nA nB nC nD
      omega
    · have lev : ∀ p q : Pt, tw c d p = 0 → tw c d q = 0 → p.2 = q.2 → p = q := by
        intro p q hp hq hpq
        have : (d.2 - c.2) * (p.1 - q.1) = 0 := by unfold tw at hp hq; rw [hpq] at hp; grind
        have := mz this (by omega)
        exact Prod.ext (by omega) hpq
      have e3 : a.2 ≠ b.2 := fun e => eab (lev a b zA zB e)
      have oA : ¬ ((c.2 ≤ a.2 ∧ a.2 ≤ d.2) ∨ (d.2 ≤ a.2 ∧ a.2 ≤ c.2)) := fun w => nA (on_of_level c d a zA w e2)
      have oB : ¬ ((c.2 ≤ b.2 ∧ b.2 ≤ d.2) ∨ (d.2 ≤ b.2 ∧ b.2 ≤ c.2)) := fun w => nB (on_of_level c d b zB w e2)
      have oC : ¬ ((a.2 ≤ c.2 ∧ c.2 ≤ b.2) ∨ (b.2 ≤ c.2 ∧ c.2 ≤ a.2)) := fun w => nC (on_of_level a b c zC w e3)
      have oD : ¬ ((a.2 ≤ d.2 ∧ d.2 ≤ b.2) ∨ (b.2 ≤ d.2 ∧ d.2 ≤ a.2)) := fun w => nD (on_of_level a b d zD w e3)
      clear nA nB nC nD hs hx hy k1 k2 p1 p2 P hm g0 f0 hAB
      omega
  · exact p1 hAB
/-- a part of a line that begins where it does -/
theorem on_part {a b x c : Pt} (hx : on a b x) (h : on a x c) : on a b c := by
  obtain ⟨h0, h1, h2, h3, h4⟩ := hx
  obtain ⟨g0, g1, g2, g3, g4⟩ := h
  refine ⟨?_, by omega, by omega, by omega, by omega⟩
  by_cases e : x = a
  · subst e
    have e1 : c.1 = x.1 := by omega
    have e2 : c.2 = x.2 := by omega
    unfold tw; rw [e1, e2]; grind
  · have k1 : tw a b c * (x.1 - a.1) = 0 := by
      have : tw a b c * (x.1 - a.1) = tw a x c * (b.1 - a.1) + (c.1 - a.1) * tw a b x := by unfold tw; grind
      rw [h0, g0] at this; omega
    have k2 : tw a b c * (x.2 - a.2) = 0 := by
      have : tw a b c * (x.2 - a.2) = tw a x c * (b.2 - a.2) + (c.2 - a.2) * tw a b x := by unfold tw; grind
      rw [h0, g0] at this; omega
    refine Classical.byContradiction fun hC => e (Prod.ext ?_ ?_)
    · have := mz k1 hC; omega
    · have := mz k2 hC; omega
theorem mul_neg_iff {x y : Int} : x * y < 0 ↔ (0 < x ∧ y < 0) ∨ (x < 0 ∧ 0 < y) := by
  have k := signs x y
  generalize x * y = m at *
  omega
theorem mul_pos_iff' {x y : Int} : 0 < x * y ↔ (0 < x ∧ 0 < y) ∨ (x < 0 ∧ y < 0) := by
  have k := signs x y
  generalize x * y = m at *
  omega
theorem conv_pos {A B X s t : Int} (hst : (0 ≤ s ∧ 0 ≤ t ∧ s ≤ t) ∨ (s ≤ 0 ∧ t ≤ 0 ∧ t ≤ s)) (hs : s ≠ 0) (ht : t ≠ 0) (e : X * t = A * (t - s) + B * s) (hA : 0 < A) (hB : 0 < B) : 0 < X := by
  rcases hst with ⟨h1, h2, h3⟩ | ⟨h1, h2, h3⟩
  · have m1 := Int.mul_nonneg (Int.le_of_lt hA) (show 0 ≤ t - s by omega)
    have m2 := Int.mul_pos hB (show 0 < s by omega)
    exact pos_of_mul (y := t) (by omega) (by omega)
  · have m1 := Int.mul_nonneg (Int.le_of_lt hA) (show 0 ≤ -(t - s) by omega)
    have m2 := Int.mul_pos hB (show 0 < -s by omega)
    rw [Int.mul_neg] at m1 m2
    exact pos_of_mul (y := -t) (by rw [Int.mul_neg]; omega) (by omega)
theorem meets_part {a b x c d : Pt} (hx : on a b x) (h : meets a x c d) : meets a b c d := by
  rcases h with h | h | h | h | ⟨h, g⟩
  · exact .inl h
  · exact share hx h
  · exact .inr (.inr (.inl (on_part hx h)))
  · exact .inr (.inr (.inr (.inl (on_part hx h))))
  · refine Classical.byContradiction fun hm => ?_
    have P := packs hm
    obtain ⟨h0, h1, h2, h3, h4⟩ := hx
    have key : ∀ s t u : Int, t ≠ 0 → ((0 ≤ s ∧ 0 ≤ t ∧ s ≤ t) ∨ (s ≤ 0 ∧ t ≤ 0 ∧ t ≤ s)) →
        tw a x c * t = tw a b c * s → tw a x d * t = tw a b d * s → tw c d x * t = tw c d a * (t - s) + tw c d b * s → False := by
      intro s t _ ht hst e1 e2 e3
      generalize tw a x c = C' at *
      generalize tw a x d = D' at *
      generalize tw c d x = X at *
      generalize tw a b c = C at *
      generalize tw a b d = D at *
      generalize tw c d a = A at *
      generalize tw c d b = B at *
      have hs0 : s ≠ 0 := by
        intro e; subst e
        rw [Int.mul_zero] at e1
        have : C' = 0 := by
          rcases Int.mul_eq_zero.1 e1 with z | z
          · exact z
          · exact absurd z ht
        rw [this] at h; omega
      have q1 := sign_eq e1 (by omega)
      have q2 := sign_eq e2 (by omega)
      have hCD : C * D < 0 := by rw [mul_neg_iff] at h ⊢; omega
      have hAB := P.cd hCD
      rw [mul_pos_iff'] at hAB
      rw [mul_neg_iff] at g
      have c1 := conv_pos (A := A) (B := B) (X := X) hst hs0 ht e3
      have c2 := conv_pos (A := -A) (B := -B) (X := -X) hst hs0 ht (by rw [Int.neg_mul, Int.neg_mul, Int.neg_mul, e3]; omega)
      clear q1 q2 e1 e2 e3 h hCD P hm
      rcases g with g | g <;> rcases hAB with hAB | hAB
      · have := c1 hAB.1 hAB.2; omega
      · omega
      · omega
      · have := c2 (by omega) (by omega); omega
    by_cases e : a.2 = b.2
    · by_cases e' : a.1 = b.1
      · have : x = a := Prod.ext (by omega) (by omega)
        subst this
        have : tw x x c = 0 := by unfold tw; grind
        rw [this] at h; omega
      · refine key (x.1 - a.1) (b.1 - a.1) 0 (by omega) (by omega) ?_ ?_ ?_
        · have : tw a b c * (x.1 - a.1) = tw a x c * (b.1 - a.1) + (c.1 - a.1) * tw a b x := by unfold tw; grind
          rw [h0] at this; omega
        · have : tw a b d * (x.1 - a.1) = tw a x d * (b.1 - a.1) + (d.1 - a.1) * tw a b x := by unfold tw; grind
          rw [h0] at this; omega
        · have := tw_conv1 a b c d x h0
          rw [this, show b.1 - a.1 - (x.1 - a.1) = b.1 - x.1 by omega]
    · refine key (x.2 - a.2) (b.2 - a.2) 0 (by omega) (by omega) ?_ ?_ ?_
      · have : tw a b c * (x.2 - a.2) = tw a x c * (b.2 - a.2) + (c.2 - a.2) * tw a b x := by unfold tw; grind
        rw [h0] at this; omega
      · have : tw a b d * (x.2 - a.2) = tw a x d * (b.2 - a.2) + (d.2 - a.2) * tw a b x := by unfold tw; grind
        rw [h0] at this; omega
      · have := tw_conv2 a b c d x h0
        rw [this, show b.2 - a.2 - (x.2 - a.2) = b.2 - x.2 by omega]
/-- a polygon: no corner is straight -/
structure Poly (v : Nat → Pt) (n : Nat) : Prop extends Simple v n where
  turn : ∀ i, tw (v i) (v (i + 1)) (v (i + 2)) ≠ 0
/-- how often the lines go around a point -/
def WN (v : Nat → Pt) (n : Nat) (p : Pt) : Int := sm (fun j => cr (v j) (v (j + 1)) p) n
/-- what the lines that do not end at corner k bring to that -/
def Ot (v : Nat → Pt) (n k : Nat) (p : Pt) : Int := sm (fun j => cr (v (k + 1 + j)) (v (k + 2 + j)) p) (n - 2)
theorem WN_at {v : Nat → Pt} {n : Nat} (h : Simple v n) (k : Nat) (p : Pt) :
    WN v n p = cr (v k) (v (k + 1)) p + Ot v n k p + cr (v (k + n - 1)) (v k) p := by
  have h3 := h.three
  obtain ⟨m, rfl⟩ : ∃ m, n = m + 3 := ⟨n - 3, by omega⟩
  unfold WN Ot
  have hp : ∀ i, cr (v (i + (m + 3))) (v (i + (m + 3) + 1)) p = cr (v i) (v (i + 1)) p := fun i => by
    rw [show i + (m + 3) + 1 = i + 1 + (m + 3) by omega, h.per, h.per]
  rw [← sm_shift hp k, sm_head, show m + 3 - 2 = m + 1 from rfl, sm]
  rw [show k + (m + 1 + 1) + 1 = k + (m + 3) by omega, h.per, show k + (m + 3) - 1 = k + (m + 1 + 1) by omega]
  have : sm (fun i => cr (v (k + (i + 1))) (v (k + (i + 1) + 1)) p) (m + 1) = sm (fun j => cr (v (k + 1 + j)) (v (k + 2 + j)) p) (m + 1) :=
    sm_congr fun i _ => by rw [show k + (i + 1) + 1 = k + 2 + i by omega, show k + (i + 1) = k + 1 + i by omega]
  rw [this]
  simp only [Nat.add_zero]
  omega
theorem Ck_0 {v : Nat → Pt} {n : Nat} (h : Simple v n) (k : Nat) : Ck v n k = Ck v n 0 := by
  induction k with
  | zero => rfl
  | succ k ih => rw [Ck_step h k, ih]
/-- the side of a polygon: 1 or 0 -/
def Cs (v : Nat → Pt) (n : Nat) : Int := Ck v n 0
theorem Cs_at {v : Nat → Pt} {n : Nat} (h : Simple v n) (k : Nat) : Cs v n = Ot v n k (v k) + co (v (k + n - 1)) (v k) (v (k + 1)) := by
  have := Ck_0 h k
  unfold Cs
  rw [← this]
  unfold Ck co Fk Ot
  omega
theorem adj_at {v : Nat → Pt} {n : Nat} (h : Simple v n) (k : Nat) : adj (v (k + n - 1)) (v k) (v (k + 1)) := by
  have h3 := h.three
  have a := h.adj (k + n - 1)
  rw [show k + n - 1 + 1 = k + n by omega, show k + n - 1 + 2 = k + 1 + n by omega, h.per, h.per] at a
  exact a
theorem turn_at {v : Nat → Pt} {n : Nat} (h : Poly v n) (k : Nat) : tw (v (k + n - 1)) (v k) (v (k + 1)) ≠ 0 := by
  have h3 := h.three
  have a := h.turn (k + n - 1)
  rw [show k + n - 1 + 1 = k + n by omega, show k + n - 1 + 2 = k + 1 + n by omega, h.per, h.per] at a
  exact a
/-- a row has a greatest one -/
theorem most (f : Nat → Int) (n : Nat) (hn : 0 < n) : ∃ k, k < n ∧ ∀ j, j < n → f j ≤ f k := by
  induction n with
  | zero => omega
  | succ n ih =>
    by_cases h0 : n = 0
    · subst h0; exact ⟨0, by omega, fun j hj => by rw [show j = 0 by omega]; exact Int.le_refl _⟩
    · obtain ⟨k, hk, hm⟩ := ih (by omega)
      by_cases hc : f n ≤ f k
      · refine ⟨k, by omega, fun j hj => ?_⟩
        by_cases hj' : j = n
        · subst hj'; exact hc
        · exact hm j (by omega)
      · refine ⟨n, by omega, fun j hj => ?_⟩
        by_cases hj' : j = n
        · subst hj'; exact Int.le_refl _
        · have := hm j (by omega); omega
theorem per_mod {v : Nat → Pt} {n : Nat} (hp : ∀ i, v (i + n) = v i) (i : Nat) : v i = v (i % n) := by
  have : ∀ q r, v (r + n * q) = v r := by
    intro q
    induction q with
    | zero => intro r; rfl
    | succ q ih => intro r; rw [show r + n * (q + 1) = r + n * q + n by rw [Nat.mul_succ]; omega, hp, ih]
  have e := Nat.mod_add_div i n
  rw [← this (i / n) (i % n), e]
/-- the corner farthest east -/
theorem east {v : Nat → Pt} {n : Nat} (h : Simple v n) : ∃ k, k < n ∧ ∀ j, (v j).1 ≤ (v k).1 := by
  have h3 := h.three
  obtain ⟨k, hk, hm⟩ := most (fun j => (v j).1) n (by omega)
  exact ⟨k, hk, fun j => by rw [per_mod h.per j]; exact hm _ (Nat.mod_lt _ (by omega))⟩
theorem Cs_east {v : Nat → Pt} {n : Nat} (h : Simple v n) {k : Nat} (hk : ∀ j, (v j).1 ≤ (v k).1) : Cs v n = co (v (k + n - 1)) (v k) (v (k + 1)) := by
  rw [Cs_at h k]
  have : Ot v n k (v k) = 0 := sm_zero fun i _ => cr_west (hk _) (hk _)
  omega
theorem Cs_01 {v : Nat → Pt} {n : Nat} (h : Simple v n) : Cs v n = 0 ∨ Cs v n = 1 := by
  obtain ⟨k, _, hk⟩ := east h
  rw [Cs_east h hk]
  exact co_01 (adj_at h k)
theorem Cs_turn {v : Nat → Pt} {n : Nat} (h : Simple v n) {k : Nat} (hk : ∀ j, (v j).1 ≤ (v k).1) :
    (0 < tw (v (k + n - 1)) (v k) (v (k + 1)) → Cs v n = 1) ∧ (tw (v (k + n - 1)) (v k) (v (k + 1)) < 0 → Cs v n = 0) := by
  rw [Cs_east h hk]
  exact co_east (adj_at h k) (hk _) (hk _)

/-- strictly between the ends of a line -/
def In (a b x : Pt) : Prop := tw a b x = 0 ∧ ((a.2 < x.2 ∧ x.2 < b.2) ∨ (b.2 < x.2 ∧ x.2 < a.2) ∨ (a.2 = b.2 ∧ x.2 = a.2 ∧ ((a.1 < x.1 ∧ x.1 < b.1) ∨ (b.1 < x.1 ∧ x.1 < a.1))))
theorem on_in {a b x : Pt} (h : on a b x) : x = a ∨ x = b ∨ In a b x := by
  obtain ⟨h0, h1, h2, h3, h4⟩ := h
  by_cases e : a.2 = b.2
  · by_cases ea : x.1 = a.1
    · exact .inl (Prod.ext ea (by omega))
    · by_cases eb : x.1 = b.1
      · exact .inr (.inl (Prod.ext eb (by omega)))
      · exact .inr (.inr ⟨h0, by omega⟩)
  · have lev : ∀ q : Pt, tw a b q = 0 → x.2 = q.2 → x = q := by
      intro q hq hpq
      have : (b.2 - a.2) * (x.1 - q.1) = 0 := by unfold tw at h0 hq; rw [hpq] at h0; grind
      have := mz this (by omega)
      exact Prod.ext (by omega) hpq
    by_cases ea : x.2 = a.2
    · exact .inl (lev a (on_left a b).1 ea)
    · by_cases eb : x.2 = b.2
      · exact .inr (.inl (lev b (on_right a b).1 eb))
      · exact .inr (.inr ⟨h0, by omega⟩)
theorem in_on {a b x : Pt} (h : In a b x) : on a b x := by
  obtain ⟨h0, h1⟩ := h
  by_cases e : a.2 = b.2
  · exact ⟨h0, by omega, by omega, by omega, by omega⟩
  · exact on_of_level a b x h0 (by omega) e
theorem in_ne {a b x : Pt} (h : In a b x) : x ≠ a ∧ x ≠ b ∧ a ≠ b := by
  obtain ⟨h0, h1⟩ := h
  exact ⟨fun e => by subst e; omega, fun e => by subst e; omega, fun e => by subst e; omega⟩
/-- the line before a point in the middle: the same side as the corner behind -/
theorem tw_part1 {a b c x : Pt} (h : tw b c x = 0) : tw a b x * (c.1 - b.1) = tw a b c * (x.1 - b.1) := by
  have : tw a b x * (c.1 - b.1) - tw a b c * (x.1 - b.1) = (b.1 - a.1) * tw b c x := by unfold tw; grind
  rw [h] at this; omega
theorem in_side {a b c x : Pt} (h : In b c x) : (0 < tw a b x ↔ 0 < tw a b c) ∧ (tw a b x < 0 ↔ tw a b c < 0) := by
  obtain ⟨h0, h1⟩ := h
  by_cases e : b.2 = c.2
  · exact sign_eq (tw_part1 (a := a) h0) (by omega)
  · exact sign_eq (tw_part (a := a) h0) (by omega)
theorem in_swap {a b x : Pt} (h : In a b x) : In b a x := by
  unfold In at *
  rw [tw_swap a b x]
  omega
theorem co_in {a b c x : Pt} (h : adj a b c) (hm : In b c x) : rh b x a + cr a b x = rh b c a + cr a b c := by
  by_cases e : b.2 = c.2
  · have hs := in_side (a := a) hm
    have h2 : x.2 = b.2 := by have := hm.2; omega
    have r1 : rh b x a = 0 := by unfold rh; rw [h2, if_neg (by omega), if_neg (by omega)]
    have r2 : rh b c a = 0 := by unfold rh; rw [← e, if_neg (by omega), if_neg (by omega)]
    rw [r1, r2]
    unfold cr
    rw [h2, ← e]
    clear h hm r1 r2 h2 e
    generalize tw a b x = X at *
    generalize tw a b c = T at *
    (repeat' split) <;> omega
  · exact co_mid h ⟨hm.1, by have := hm.2; omega⟩
/-- the first part of a line stays away from the next line -/
theorem near_next {a b c x : Pt} (ht : tw a b c ≠ 0) (hx : In a b x) : ¬ meets a x b c := by
  have n1 : tw b c x ≠ 0 := by
    have := in_side (a := c) (in_swap hx)
    have e1 := tw_rot x b c
    have e2 : tw c b x = - tw b c x := tw_swap b c x
    have e3 : tw c b a = - tw a b c := by rw [tw_swap b c a, tw_rot a b c]
    omega
  have n2 : tw b c a ≠ 0 := by rw [tw_rot]; exact ht
  have zb : tw a x b = 0 := by
    have := hx.1
    have e : tw a x b = - tw a b x := by unfold tw; grind
    omega
  have nx := in_ne hx
  intro h
  rcases h with h | h | h | h | ⟨h, _⟩
  · exact n2 h.1
  · exact n1 h.1
  · have hb := on_part (in_on hx) h
    have hx' := hx.2
    obtain ⟨g0, g1, g2, g3, g4⟩ := h
    omega
  · have := (on_part (in_on hx) h).1
    exact ht this
  · rw [zb, Int.zero_mul] at h; omega
/-- lines apart from line k -/
theorem far_line {v : Nat → Pt} {n : Nat} (h : Poly v n) {k j : Nat} (h1 : k + 1 < j) (h2 : j + 2 ≤ k + n) : ¬ meets (v k) (v (k + 1)) (v j) (v (j + 1)) := h.apart k j (by omega) h2
/-- WHAT IS LEFT OF A LINE at a point in its middle -/
theorem mid_sum {v : Nat → Pt} {n : Nat} (h : Poly v n) (k : Nat) {x : Pt} (hx : In (v k) (v (k + 1)) x) :
    Ot v n k x + cr (v (k + n - 1)) (v k) x = Cs v n - up (v k) (v (k + 1)) := by
  have h3 := h.three
  have hc := Cs_at h.toSimple k
  have hm := co_in (adj_at h.toSimple k) hx
  unfold co at hc
  have hT : Ot v n k x - Ot v n k (v k) = rh (v k) x (v (k + n - 1)) - rh (v k) x (v (k + 1)) := by
    obtain ⟨m, rfl⟩ : ∃ m, n = m + 3 := ⟨n - 3, by omega⟩
    unfold Ot
    rw [← sm_sub]
    have ht := sm_tele (fun j => rh (v k) x (v (k + 1 + j))) (m + 1)
    simp only [Nat.add_zero] at ht
    rw [show k + (m + 3) - 1 = k + 1 + (m + 1) by omega, ← ht]
    refine sm_congr fun j hj => ?_
    rw [show k + 1 + (j + 1) = k + 2 + j by omega]
    refine cell (v k) x (v (k + 1 + j)) (v (k + 2 + j)) ?_
    by_cases e : j = 0
    · subst e
      exact near_next (h.turn k) hx
    · intro w
      have := meets_part (in_on hx) w
      rw [show k + 2 + j = k + 1 + j + 1 by omega] at this
      exact far_line h (by omega) (by omega) this
  have z : rh (v k) x (v (k + 1)) = 0 := by
    have zb : tw (v k) x (v (k + 1)) = 0 := by
      have := hx.1
      have e : tw (v k) x (v (k + 1)) = - tw (v k) (v (k + 1)) x := by unfold tw; grind
      omega
    unfold rh
    rw [zb, if_neg (by omega), if_neg (by omega)]
  omega
/-- at a point on a line, counted to the one side -/
theorem WN_in {v : Nat → Pt} {n : Nat} (h : Poly v n) (k : Nat) {x : Pt} (hx : In (v k) (v (k + 1)) x) : WN v n x = Cs v n - up (v k) (v (k + 1)) := by
  have := mid_sum h k hx
  have w := WN_at h.toSimple k x
  have z : cr (v k) (v (k + 1)) x = 0 := by unfold cr; rw [hx.1, if_neg (by omega), if_neg (by omega)]
  omega
theorem cr_left (a b : Pt) : cr a b a = 0 := by unfold cr; rw [(on_left a b).1, if_neg (by omega), if_neg (by omega)]
theorem cr_right (a b : Pt) : cr a b b = 0 := by unfold cr; rw [(on_right a b).1, if_neg (by omega), if_neg (by omega)]
theorem WN_corner {v : Nat → Pt} {n : Nat} (h : Poly v n) (k : Nat) : WN v n (v k) = Cs v n - co (v (k + n - 1)) (v k) (v (k + 1)) := by
  have w := WN_at h.toSimple k (v k)
  have := Cs_at h.toSimple k
  rw [cr_left, cr_right] at w
  omega
end Go.Proofs.Ytjkfdcjfoliboaa.MJ
