/- plain mathematics: lines that do not meet -/
import Derived.Test.YtjkfdcjfoliboaaRows
namespace Go.Proofs.Ytjkfdcjfoliboaa.MJ
set_option linter.unusedVariables false
set_option linter.unusedSimpArgs false
abbrev Pt := Int × Int
def tw (a b c : Pt) : Int := (b.1-a.1)*(c.2-a.2) - (c.1-a.1)*(b.2-a.2)
def cr (a b p : Pt) : Int :=
  if a.2 ≤ p.2 ∧ p.2 < b.2 ∧ 0 < tw a b p then 1
  else if b.2 ≤ p.2 ∧ p.2 < a.2 ∧ tw a b p < 0 then -1 else 0
def rh (a b z : Pt) : Int :=
  if b.2 < z.2 ∧ z.2 ≤ a.2 ∧ 0 < tw a b z then 1
  else if a.2 < z.2 ∧ z.2 ≤ b.2 ∧ tw a b z < 0 then -1 else 0

theorem tw_sum (a b c d : Pt) : tw a b c - tw a b d = tw c d b - tw c d a := by
  simp only [tw]; grind
theorem tw_y (a b c d : Pt) : tw c d b * a.2 - tw c d a * b.2 + tw a b d * c.2 - tw a b c * d.2 = 0 := by
  simp only [tw]; grind
theorem tw_x (a b c d : Pt) : tw c d b * a.1 - tw c d a * b.1 + tw a b d * c.1 - tw a b c * d.1 = 0 := by
  simp only [tw]; grind
theorem tw_swap (a b p : Pt) : tw b a p = - tw a b p := by simp only [tw]; grind
theorem cr_swap (a b p : Pt) : cr b a p = - cr a b p := by
  unfold cr; rw [tw_swap a b p]; split <;> split <;> (try split) <;> omega
theorem rh_swap (a b p : Pt) : rh b a p = - rh a b p := by
  unfold rh; rw [tw_swap a b p]; split <;> split <;> (try split) <;> omega

def on (a b p : Pt) : Prop := tw a b p = 0 ∧ min a.1 b.1 ≤ p.1 ∧ p.1 ≤ max a.1 b.1 ∧ min a.2 b.2 ≤ p.2 ∧ p.2 ≤ max a.2 b.2
def meets (a b c d : Pt) : Prop := on c d a ∨ on c d b ∨ on a b c ∨ on a b d ∨
  (tw a b c * tw a b d < 0 ∧ tw c d a * tw c d b < 0)

-- the sign pack of two segments that do not meet
theorem btw {P Q x y : Int} (hP : 0 < P) (hQ : 0 < Q) (h : P * x + Q * y = 0) : (x ≤ 0 ∧ 0 ≤ y) ∨ (0 ≤ x ∧ y ≤ 0) := by
  rcases Int.lt_trichotomy x 0 with hx | hx | hx
  · left; refine ⟨by omega, ?_⟩
    have := Int.mul_neg_of_pos_of_neg hP hx
    rcases Int.lt_or_le y 0 with hy | hy
    · have := Int.mul_neg_of_pos_of_neg hQ hy; omega
    · exact hy
  · subst hx; rcases Int.lt_or_le 0 y with hy | hy
    · have := Int.mul_pos hQ hy; omega
    · right; omega
  · right; refine ⟨by omega, ?_⟩
    have := Int.mul_pos hP hx
    rcases Int.lt_or_le 0 y with hy | hy
    · have := Int.mul_pos hQ hy; omega
    · exact hy
theorem on_of (a b c d : Pt) (hC : tw a b c = 0) (h : tw c d a * tw c d b < 0) : on a b c := by
  have hx := tw_x a b c d
  have hy := tw_y a b c d
  have hs := tw_sum a b c d
  rw [hC] at hx hy hs
  rcases Int.lt_trichotomy (tw c d a) 0 with hA | hA | hA
  · have hB : 0 < tw c d b := by
      rcases Int.lt_or_le 0 (tw c d b) with hB | hB
      · exact hB
      · have := Int.mul_nonneg_of_nonpos_of_nonpos (Int.le_of_lt hA) hB; omega
    have h1 := btw (P := tw c d b) (Q := - tw c d a) (x := a.1 - c.1) (y := b.1 - c.1) hB (by omega) (by grind)
    have h2 := btw (P := tw c d b) (Q := - tw c d a) (x := a.2 - c.2) (y := b.2 - c.2) hB (by omega) (by grind)
    refine ⟨hC, ?_, ?_, ?_, ?_⟩ <;> omega
  · rw [hA] at h; simp at h
  · have hB : tw c d b < 0 := by
      rcases Int.lt_or_le (tw c d b) 0 with hB | hB
      · exact hB
      · have := Int.mul_nonneg (Int.le_of_lt hA) hB; omega
    have h1 := btw (P := - tw c d b) (Q := tw c d a) (x := a.1 - c.1) (y := b.1 - c.1) (by omega) hA (by grind)
    have h2 := btw (P := - tw c d b) (Q := tw c d a) (x := a.2 - c.2) (y := b.2 - c.2) (by omega) hA (by grind)
    refine ⟨hC, ?_, ?_, ?_, ?_⟩ <;> omega
/-- a point level with a slanted segment's span and on its line lies on it -/
theorem on_of_level (a b p : Pt) (h : tw a b p = 0) (h1 : (a.2 ≤ p.2 ∧ p.2 ≤ b.2) ∨ (b.2 ≤ p.2 ∧ p.2 ≤ a.2)) (hne : a.2 ≠ b.2) : on a b p := by
  refine ⟨h, ?_⟩
  have e : (b.2 - a.2) * (p.1 - a.1) = (b.1 - a.1) * (p.2 - a.2) := by unfold tw at h; grind
  have e2 : (b.2 - a.2) * (b.1 - p.1) = (b.1 - a.1) * (b.2 - p.2) := by unfold tw at h; grind
  have key : ∀ P Q R S : Int, 0 < P → 0 ≤ S → P * Q = R * S → (0 ≤ R → 0 ≤ Q) ∧ (R ≤ 0 → Q ≤ 0) := by
    intro P Q R S hP hS h
    constructor
    · intro hR
      rcases Int.lt_or_le Q 0 with hq | hq
      · have := Int.mul_neg_of_pos_of_neg hP hq; have := Int.mul_nonneg hR hS; omega
      · exact hq
    · intro hR
      rcases Int.lt_or_le 0 Q with hq | hq
      · have := Int.mul_pos hP hq; have := Int.mul_nonneg (Int.neg_nonneg.2 hR) hS; rw [Int.neg_mul] at this; omega
      · exact hq
  rcases h1 with h1 | h1
  · have k1 := key _ _ _ _ (by omega) (by omega) e
    have k2 := key _ _ _ _ (by omega) (by omega) e2
    omega
  · have k1 := key (a.2 - b.2) (p.1 - a.1) (b.1 - a.1) (a.2 - p.2) (by omega) (by omega) (by grind)
    have k2 := key (a.2 - b.2) (b.1 - p.1) (b.1 - a.1) (p.2 - b.2) (by omega) (by omega) (by grind)
    omega

structure Packs (A B C D : Int) : Prop where
  ab : A * B < 0 → 0 < C * D
  cd : C * D < 0 → 0 < A * B
theorem packs {a b c d : Pt} (h : ¬ meets a b c d) : Packs (tw c d a) (tw c d b) (tw a b c) (tw a b d) := by
  unfold meets at h
  constructor
  · intro hAB
    rcases Int.lt_trichotomy (tw a b c * tw a b d) 0 with hc | hc | hc
    · exact absurd (Or.inr (Or.inr (Or.inr (Or.inr ⟨hc, hAB⟩)))) h
    · rcases Int.mul_eq_zero.1 hc with h0 | h0
      · exact absurd (Or.inr (Or.inr (Or.inl (on_of a b c d h0 hAB)))) h
      · refine absurd (Or.inr (Or.inr (Or.inr (Or.inl (on_of a b d c h0 ?_))))) h
        rw [tw_swap c d a, tw_swap c d b, Int.neg_mul_neg]; exact hAB
    · exact hc
  · intro hCD
    rcases Int.lt_trichotomy (tw c d a * tw c d b) 0 with hc | hc | hc
    · exact absurd (Or.inr (Or.inr (Or.inr (Or.inr ⟨hCD, hc⟩)))) h
    · rcases Int.mul_eq_zero.1 hc with h0 | h0
      · exact absurd (Or.inl (on_of c d a b h0 hCD)) h
      · refine absurd (Or.inr (Or.inl (on_of c d b a h0 ?_))) h
        rw [tw_swap a b c, tw_swap a b d, Int.neg_mul_neg]; exact hCD
    · exact hc


theorem pos_of_mul {x y : Int} (h : 0 < x * y) (hy : 0 < y) : 0 < x := by
  rcases Int.lt_or_le 0 x with h1 | h1
  · exact h1
  · have := Int.mul_nonneg (Int.neg_nonneg.2 h1) (Int.le_of_lt hy); rw [Int.neg_mul] at this; omega
theorem nonneg_of_mul {x y : Int} (h : 0 ≤ x * y) (hy : 0 < y) : 0 ≤ x := by
  rcases Int.lt_or_le x 0 with h1 | h1
  · have := Int.mul_neg_of_neg_of_pos h1 hy; omega
  · exact h1
theorem cd_ {A B C D ya yb yc yd : Int} (hs : C - D = B - A) (hy : B * ya - A * yb + D * yc - C * yd = 0) : B * (yd - ya) + A * (yb - yd) + D * (yd - yc) = 0 := by grind
theorem cc_ {A B C D ya yb yc yd : Int} (hs : C - D = B - A) (hy : B * ya - A * yb + D * yc - C * yd = 0) : B * (ya - yc) + A * (yc - yb) + C * (yc - yd) = 0 := by grind
theorem cb_ {A B C D ya yb yc yd : Int} (hs : C - D = B - A) (hy : B * ya - A * yb + D * yc - C * yd = 0) : B * (ya - yb) + D * (yc - yb) + C * (yb - yd) = 0 := by grind
theorem ca_ {A B C D ya yb yc yd : Int} (hs : C - D = B - A) (hy : B * ya - A * yb + D * yc - C * yd = 0) : A * (ya - yb) + D * (yc - ya) + C * (ya - yd) = 0 := by grind
/-- a and b level with cd: both on one side -/
theorem rr_ {A B C D ya yb yc yd : Int} (hs : C - D = B - A) (hy : B * ya - A * yb + D * yc - C * yd = 0) (p1 : A * B < 0 → 0 < C * D) (h1 : yc ≤ ya) (h2 : ya < yd) (h3 : yc ≤ yb) (h4 : yb < yd) (hA : 0 < A) (hB : B < 0) : False := by
  have hCD := p1 (Int.mul_neg_of_pos_of_neg hA hB)
  have e1 := cd_ hs hy
  have e2 := cc_ hs hy
  have m1 := Int.mul_neg_of_neg_of_pos hB (show 0 < yd - ya by omega)
  have m2 := Int.mul_neg_of_pos_of_neg hA (show yb - yd < 0 by omega)
  have hD : 0 < D := pos_of_mul (y := yd - yc) (by omega) (by omega)
  have m3 := Int.mul_nonneg (show 0 ≤ -B by omega) (show 0 ≤ ya - yc by omega)
  have m4 := Int.mul_nonneg (show 0 ≤ A by omega) (show 0 ≤ yb - yc by omega)
  have hC : 0 ≤ -C := nonneg_of_mul (y := yd - yc) (by grind) (by omega)
  have := Int.mul_nonneg hC (Int.le_of_lt hD); rw [Int.neg_mul] at this; omega

theorem rs_ {A B C D ya yb yc yd : Int} (hs : C - D = B - A) (hy : B * ya - A * yb + D * yc - C * yd = 0) (p2 : C * D < 0 → 0 < A * B) (h1 : yc ≤ ya) (h2 : ya < yd) (h3 : yd ≤ yb) (hA : 0 < A) (hD : 0 < D) : False := by
  have e1 := ca_ hs hy
  have e2 := cd_ hs hy
  have m1 := Int.mul_neg_of_pos_of_neg hA (show ya - yb < 0 by omega)
  have m2 := Int.mul_nonneg (show 0 ≤ D by omega) (show 0 ≤ ya - yc by omega)
  have hC : 0 < -C := pos_of_mul (y := yd - ya) (by grind) (by omega)
  have hAB := p2 (Int.mul_neg_of_neg_of_pos (show C < 0 by omega) hD)
  have hB : 0 < B := pos_of_mul (y := A) (by grind) hA
  have m3 := Int.mul_pos hB (show 0 < yd - ya by omega)
  have m4 := Int.mul_nonneg (show 0 ≤ A by omega) (show 0 ≤ yb - yd by omega)
  have m5 := Int.mul_pos hD (show 0 < yd - yc by omega)
  omega
theorem sr_ {A B C D ya yb yc yd : Int} (hs : C - D = B - A) (hy : B * ya - A * yb + D * yc - C * yd = 0) (p1 : A * B < 0 → 0 < C * D) (h1 : ya < yc) (h2 : yc ≤ yb) (h3 : yb < yd) (hB : 0 < B) (hC : 0 < C) : False := by
  have e1 := cc_ hs hy
  have e2 := cb_ hs hy
  have m1 := Int.mul_neg_of_pos_of_neg hB (show ya - yc < 0 by omega)
  have m2 := Int.mul_neg_of_pos_of_neg hC (show yc - yd < 0 by omega)
  have hA : 0 < -A := by
    have h0 : 0 ≤ yb - yc := by omega
    rcases Int.lt_or_le A 0 with h | h
    · omega
    · have := Int.mul_nonneg h h0; grind
  have hCD := p1 (Int.mul_neg_of_neg_of_pos (show A < 0 by omega) hB)
  have hD : 0 < D := pos_of_mul (y := C) (by grind) hC
  have m3 := Int.mul_neg_of_pos_of_neg hB (show ya - yb < 0 by omega)
  have m4 := Int.mul_nonneg (show 0 ≤ D by omega) (show 0 ≤ yb - yc by omega)
  have m5 := Int.mul_neg_of_pos_of_neg hC (show yb - yd < 0 by omega)
  grind
theorem ss_ {A B C D ya yb yc yd : Int} (hs : C - D = B - A) (hy : B * ya - A * yb + D * yc - C * yd = 0) (p2 : C * D < 0 → 0 < A * B) (h1 : ya < yc) (h2 : yc ≤ yb) (h3 : ya < yd) (h4 : yd ≤ yb) (hC : C < 0) (hD : 0 < D) : False := by
  have hAB := p2 (Int.mul_neg_of_neg_of_pos hC hD)
  have e1 := ca_ hs hy
  have e2 := cb_ hs hy
  have m1 := Int.mul_pos hD (show 0 < yc - ya by omega)
  have m2 := Int.mul_pos_of_neg_of_neg hC (show ya - yd < 0 by omega)
  have hA : 0 < A := pos_of_mul (y := yb - ya) (by grind) (by omega)
  have hB : 0 < B := pos_of_mul (y := A) (by grind) hA
  have m3 := Int.mul_neg_of_pos_of_neg hB (show ya - yb < 0 by omega)
  have m4 := Int.mul_nonneg (show 0 ≤ D by omega) (show 0 ≤ yb - yc by omega)
  have m5 := Int.mul_nonneg (show 0 ≤ -C by omega) (show 0 ≤ yb - yd by omega)
  grind
theorem Packs.neg {A B C D : Int} (h : Packs A B C D) : Packs (-A) (-B) (-C) (-D) :=
  ⟨fun x => by rw [Int.neg_mul_neg] at *; exact h.ab x, fun x => by rw [Int.neg_mul_neg] at *; exact h.cd x⟩

theorem cr_up {c d : Pt} (h : c.2 ≤ d.2) (p : Pt) : cr c d p = if c.2 ≤ p.2 ∧ p.2 < d.2 ∧ 0 < tw c d p then 1 else 0 := by
  unfold cr; split
  · rfl
  · rw [if_neg (by omega)]
theorem rh_up {a b : Pt} (h : a.2 ≤ b.2) (z : Pt) : rh a b z = if a.2 < z.2 ∧ z.2 ≤ b.2 ∧ tw a b z < 0 then -1 else 0 := by
  unfold rh; rw [if_neg (by omega)]

theorem cell_up (a b c d : Pt) (hab : a.2 ≤ b.2) (hcd : c.2 ≤ d.2) (h : ¬ meets a b c d) : cr c d b - cr c d a = rh a b d - rh a b c := by
  have P := packs h
  have hs := tw_sum a b c d
  have hy := tw_y a b c d
  have nA : ¬ on c d a := fun x => h (Or.inl x)
  have nB : ¬ on c d b := fun x => h (Or.inr (Or.inl x))
  have nC : ¬ on a b c := fun x => h (Or.inr (Or.inr (Or.inl x)))
  have nD : ¬ on a b d := fun x => h (Or.inr (Or.inr (Or.inr (Or.inl x))))
  have zA : tw c d a = 0 → c.2 ≤ a.2 → a.2 ≤ d.2 → c.2 = d.2 := fun h0 h1 h2 => Classical.byContradiction fun hne => nA (on_of_level c d a h0 (Or.inl ⟨h1, h2⟩) hne)
  have zB : tw c d b = 0 → c.2 ≤ b.2 → b.2 ≤ d.2 → c.2 = d.2 := fun h0 h1 h2 => Classical.byContradiction fun hne => nB (on_of_level c d b h0 (Or.inl ⟨h1, h2⟩) hne)
  have zC : tw a b c = 0 → a.2 ≤ c.2 → c.2 ≤ b.2 → a.2 = b.2 := fun h0 h1 h2 => Classical.byContradiction fun hne => nC (on_of_level a b c h0 (Or.inl ⟨h1, h2⟩) hne)
  have zD : tw a b d = 0 → a.2 ≤ d.2 → d.2 ≤ b.2 → a.2 = b.2 := fun h0 h1 h2 => Classical.byContradiction fun hne => nD (on_of_level a b d h0 (Or.inl ⟨h1, h2⟩) hne)
  clear h nA nB nC nD
  rw [cr_up hcd, cr_up hcd, rh_up hab, rh_up hab]
  generalize tw c d a = A at *
  generalize tw c d b = B at *
  generalize tw a b c = C at *
  generalize tw a b d = D at *
  generalize a.2 = ya at *
  generalize b.2 = yb at *
  generalize c.2 = yc at *
  generalize d.2 = yd at *
  have N := P.neg
  have hs' : -C - -D = -B - -A := by omega
  have hy' : -B * ya - -A * yb + -D * yc - -C * yd = 0 := by grind
  by_cases ra : yc ≤ ya ∧ ya < yd
  · by_cases rb : yc ≤ yb ∧ yb < yd
    · have n1 : ¬ (0 < A ∧ B < 0) := fun ⟨u, v⟩ => rr_ hs hy P.ab ra.1 ra.2 rb.1 rb.2 u v
      have n2 : ¬ (A < 0 ∧ 0 < B) := fun ⟨u, v⟩ => rr_ hs' hy' N.ab ra.1 ra.2 rb.1 rb.2 (by omega) (by omega)
      (repeat' split) <;> omega
    · have n1 : ¬ (0 < A ∧ 0 < D) := fun ⟨u, v⟩ => rs_ hs hy P.cd ra.1 ra.2 (by omega) u v
      have n2 : ¬ (A < 0 ∧ D < 0) := fun ⟨u, v⟩ => rs_ hs' hy' N.cd ra.1 ra.2 (by omega) (by omega) (by omega)
      (repeat' split) <;> omega
  · by_cases rb : yc ≤ yb ∧ yb < yd
    · have n1 : ¬ (0 < B ∧ 0 < C) := fun ⟨u, v⟩ => sr_ hs hy P.ab (by omega) rb.1 rb.2 u v
      have n2 : ¬ (B < 0 ∧ C < 0) := fun ⟨u, v⟩ => sr_ hs' hy' N.ab (by omega) rb.1 rb.2 (by omega) (by omega)
      (repeat' split) <;> omega
    · by_cases sc : ya < yc ∧ yc ≤ yb
      · by_cases sd : ya < yd ∧ yd ≤ yb
        · have n1 : ¬ (C < 0 ∧ 0 < D) := fun ⟨u, v⟩ => ss_ hs hy P.cd sc.1 sc.2 sd.1 sd.2 u v
          have n2 : ¬ (0 < C ∧ D < 0) := fun ⟨u, v⟩ => ss_ hs' hy' N.cd sc.1 sc.2 sd.1 sd.2 (by omega) (by omega)
          (repeat' split) <;> omega
        · (repeat' split) <;> omega
      · (repeat' split) <;> omega
theorem on_swap {a b p : Pt} (h : on b a p) : on a b p := by
  unfold on at *; rw [tw_swap a b p] at h
  refine ⟨by omega, ?_, ?_, ?_, ?_⟩ <;> omega
theorem meets_swap1 {a b c d : Pt} (h : meets b a c d) : meets a b c d := by
  unfold meets at *
  rw [tw_swap a b c, tw_swap a b d, Int.neg_mul_neg, Int.mul_comm (tw c d b)] at h
  rcases h with h | h | h | h | h
  · exact .inr (.inl h)
  · exact .inl h
  · exact .inr (.inr (.inl (on_swap h)))
  · exact .inr (.inr (.inr (.inl (on_swap h))))
  · exact .inr (.inr (.inr (.inr h)))
theorem meets_swap2 {a b c d : Pt} (h : meets a b d c) : meets a b c d := by
  unfold meets at *
  rw [tw_swap c d a, tw_swap c d b, Int.neg_mul_neg, Int.mul_comm (tw a b d)] at h
  rcases h with h | h | h | h | h
  · exact .inl (on_swap h)
  · exact .inr (.inl (on_swap h))
  · exact .inr (.inr (.inr (.inl h)))
  · exact .inr (.inr (.inl h))
  · exact .inr (.inr (.inr (.inr h)))
theorem cell (a b c d : Pt) (h : ¬ meets a b c d) : cr c d b - cr c d a = rh a b d - rh a b c := by
  rcases Int.le_total a.2 b.2 with h1 | h1 <;> rcases Int.le_total c.2 d.2 with h2 | h2
  · exact cell_up a b c d h1 h2 h
  · have := cell_up a b d c h1 h2 (fun x => h (meets_swap2 x)); rw [cr_swap c d a, cr_swap c d b] at this; omega
  · have := cell_up b a c d h1 h2 (fun x => h (meets_swap1 x)); rw [rh_swap a b c, rh_swap a b d] at this; omega
  · have := cell_up b a d c h1 h2 (fun x => h (meets_swap1 (meets_swap2 x)))
    rw [cr_swap c d a, cr_swap c d b, rh_swap a b c, rh_swap a b d] at this; omega

def up (a b : Pt) : Int := if a.2 < b.2 then 1 else if b.2 < a.2 then 0 else if b.1 < a.1 then 1 else 0
/-- neighbours at a corner: if straight, the corner lies between them -/
def adj (a b c : Pt) : Prop := a ≠ b ∧ b ≠ c ∧
  (tw a b c = 0 → ((a.2 < b.2 ∧ b.2 < c.2) ∨ (c.2 < b.2 ∧ b.2 < a.2) ∨ (a.2 = b.2 ∧ b.2 = c.2 ∧ ((a.1 < b.1 ∧ b.1 < c.1) ∨ (c.1 < b.1 ∧ b.1 < a.1)))))
theorem tw_rot (a b c : Pt) : tw b c a = tw a b c := by simp only [tw]; grind
theorem tri (x y : Int) : (x < y ∧ ¬ y < x ∧ x ≤ y ∧ ¬ y ≤ x) ∨ (¬ x < y ∧ ¬ y < x ∧ x ≤ y ∧ y ≤ x) ∨ (¬ x < y ∧ y < x ∧ ¬ x ≤ y ∧ y ≤ x) := by omega
theorem local_ (a b c : Pt) (h : adj a b c) : rh b c a + cr a b c + up b c = rh a b c + cr b c a + up a b := by
  obtain ⟨h1, h2, h3⟩ := h
  have e1 : a.2 = b.2 → a.1 ≠ b.1 := fun e e' => h1 (Prod.ext e' e)
  have e2 : b.2 = c.2 → b.1 ≠ c.1 := fun e e' => h2 (Prod.ext e' e)
  have s1 : a.2 = b.2 → tw a b c = (b.1 - a.1) * (c.2 - b.2) := fun e => by unfold tw; rw [e]; grind
  have s2 : b.2 = c.2 → tw a b c = (b.1 - c.1) * (b.2 - a.2) := fun e => by unfold tw; rw [e]; grind
  have key : ∀ x y : Int, (0 < x → 0 < y → 0 < x * y) ∧ (x < 0 → y < 0 → 0 < x * y) ∧ (0 < x → y < 0 → x * y < 0) ∧ (x < 0 → 0 < y → x * y < 0) ∧ (y = 0 → x * y = 0) :=
    fun x y => ⟨Int.mul_pos, Int.mul_pos_of_neg_of_neg, Int.mul_neg_of_pos_of_neg, Int.mul_neg_of_neg_of_pos, fun e => by rw [e, Int.mul_zero]⟩
  have k1 := key (b.1 - a.1) (c.2 - b.2)
  have k2 := key (b.1 - c.1) (b.2 - a.2)
  have hrot := tw_rot a b c
  unfold rh cr up
  rw [hrot]
  generalize (b.1 - a.1) * (c.2 - b.2) = m1 at *
  generalize (b.1 - c.1) * (b.2 - a.2) = m2 at *
  generalize tw a b c = T at *
  clear key h1 h2 hrot
  rcases tri a.2 b.2 with ⟨a1, a2, a3, a4⟩ | ⟨a1, a2, a3, a4⟩ | ⟨a1, a2, a3, a4⟩ <;> rcases tri b.2 c.2 with ⟨b1, b2, b3, b4⟩ | ⟨b1, b2, b3, b4⟩ | ⟨b1, b2, b3, b4⟩ <;> rcases tri a.2 c.2 with ⟨c1, c2, c3, c4⟩ | ⟨c1, c2, c3, c4⟩ | ⟨c1, c2, c3, c4⟩ <;> rcases tri T 0 with ⟨d1, d2, d3, d4⟩ | ⟨d1, d2, d3, d4⟩ | ⟨d1, d2, d3, d4⟩
  all_goals
    try (simp only [a1, a2, a3, a4, b1, b2, b3, b4, c1, c2, c3, c4, d1, d2, and_true, and_false, if_false, if_true]; done)
  all_goals
    try (exfalso; clear e1 e2 k1 k2 s1 s2 h3; omega)
  all_goals
    (try simp only [a1, a2, a3, a4, b1, b2, b3, b4, c1, c2, c3, c4, d1, d2, and_true, and_false, if_false, if_true]); ((repeat' split) <;> omega)
end Go.Proofs.Ytjkfdcjfoliboaa.MJ
