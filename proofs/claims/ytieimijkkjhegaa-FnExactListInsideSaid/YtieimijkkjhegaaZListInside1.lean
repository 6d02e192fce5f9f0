/- joined: Za Zb Zc Zd Ze Zf A B C D L E F R G H I Ms -/
import Derived.Test.YtieimijkkjhegaaRows
import Derived.WalkKit
import Derived.ProofKit
import Derived.OpenShut
import Derived.Outline
import Derived.Lib.SmallJoins
import Derived.Below
import Derived.Carry
import Derived.Lib.Hide
import Derived.OrdersHeld
/- plain mathematics: lines that do not meet -/
namespace Go.Proofs.Ytieimijkkjhegaa.MJ
set_option linter.unusedVariables false
set_option linter.unusedSimpArgs false
abbrev Pt := Int × Int
def tw (a b c : Pt) : Int := (b.1-a.1)*(c.2-a.2) - (c.1-a.1)*(b.2-a.2)
def cr (a b p : Pt) : Int :=
  if a.2 ≤ p.2 ∧ p.2 < b.2 ∧ 0 < tw a b p then 1
  else if b.2 ≤ p.2 ∧ p.2 < a.2 ∧ tw a b p < 0 then -1 else 0
def rh (a b z : Pt) : Int :=
  if b.2 < z.2 ∧ z.2 ≤ a.2 ∧ 0 < tw a b z then 1
  else if a.2 < z.2 ∧ z.2 ≤ b.2 ∧ tw a b z < 0 then -1 else 0

theorem tw_sum (a b c d : Pt) : tw a b c - tw a b d = tw c d b - tw c d a := by
  simp only [tw]; grind
theorem tw_y (a b c d : Pt) : tw c d b * a.2 - tw c d a * b.2 + tw a b d * c.2 - tw a b c * d.2 = 0 := by
  simp only [tw]; grind
theorem tw_x (a b c d : Pt) : tw c d b * a.1 - tw c d a * b.1 + tw a b d * c.1 - tw a b c * d.1 = 0 := by
  simp only [tw]; grind
theorem tw_swap (a b p : Pt) : tw b a p = - tw a b p := by simp only [tw]; grind
theorem cr_swap (a b p : Pt) : cr b a p = - cr a b p := by
  unfold cr; rw [tw_swap a b p]; split <;> split <;> (try split) <;> omega
theorem rh_swap (a b p : Pt) : rh b a p = - rh a b p := by
  unfold rh; rw [tw_swap a b p]; split <;> split <;> (try split) <;> omega

def on (a b p : Pt) : Prop := tw a b p = 0 ∧ min a.1 b.1 ≤ p.1 ∧ p.1 ≤ max a.1 b.1 ∧ min a.2 b.2 ≤ p.2 ∧ p.2 ≤ max a.2 b.2
def meets (a b c d : Pt) : Prop := on c d a ∨ on c d b ∨ on a b c ∨ on a b d ∨
  (tw a b c * tw a b d < 0 ∧ tw c d a * tw c d b < 0)

-- the sign pack of two segments that do not meet
theorem btw {P Q x y : Int} (hP : 0 < P) (hQ : 0 < Q) (h : P * x + Q * y = 0) : (x ≤ 0 ∧ 0 ≤ y) ∨ (0 ≤ x ∧ y ≤ 0) := by
  rcases Int.lt_trichotomy x 0 with hx | hx | hx
  · left; refine ⟨by omega, ?_⟩
    have := Int.mul_neg_of_pos_of_neg hP hx
    rcases Int.lt_or_le y 0 with hy | hy
    · have := Int.mul_neg_of_pos_of_neg hQ hy; omega
    · exact hy
  · subst hx; rcases Int.lt_or_le 0 y with hy | hy
    · have := Int.mul_pos hQ hy; omega
    · right; omega
  · right; refine ⟨by omega, ?_⟩
    have := Int.mul_pos hP hx
    rcases Int.lt_or_le 0 y with hy | hy
    · have := Int.mul_pos hQ hy; omega
    · exact hy
theorem on_of (a b c d : Pt) (hC : tw a b c = 0) (h : tw c d a * tw c d b < 0) : on a b c := by
  have hx := tw_x a b c d
  have hy := tw_y a b c d
  have hs := tw_sum a b c d
  rw [hC] at hx hy hs
  rcases Int.lt_trichotomy (tw c d a) 0 with hA | hA | hA
  · have hB : 0 < tw c d b := by
      rcases Int.lt_or_le 0 (tw c d b) with hB | hB
      · exact hB
      · have := Int.mul_nonneg_of_nonpos_of_nonpos (Int.le_of_lt hA) hB; omega
    have h1 := btw (P := tw c d b) (Q := - tw c d a) (x := a.1 - c.1) (y := b.1 - c.1) hB (by omega) (by grind)
    have h2 := btw (P := tw c d b) (Q := - tw c d a) (x := a.2 - c.2) (y := b.2 - c.2) hB (by omega) (by grind)
    refine ⟨hC, ?_, ?_, ?_, ?_⟩ <;> omega
  · rw [hA] at h; simp at h
  · have hB : tw c d b < 0 := by
      rcases Int.lt_or_le (tw c d b) 0 with hB | hB
      · exact hB
      · have := Int.mul_nonneg (Int.le_of_lt hA) hB; omega
    have h1 := btw (P := - tw c d b) (Q := tw c d a) (x := a.1 - c.1) (y := b.1 - c.1) (by omega) hA (by grind)
    have h2 := btw (P := - tw c d b) (Q := tw c d a) (x := a.2 - c.2) (y := b.2 - c.2) (by omega) hA (by grind)
    refine ⟨hC, ?_, ?_, ?_, ?_⟩ <;> omega
/-- a point level with a slanted segment's span and on its line lies on it -/
theorem on_of_level (a b p : Pt) (h : tw a b p = 0) (h1 : (a.2 ≤ p.2 ∧ p.2 ≤ b.2) ∨ (b.2 ≤ p.2 ∧ p.2 ≤ a.2)) (hne : a.2 ≠ b.2) : on a b p := by
  refine ⟨h, ?_⟩
  have e : (b.2 - a.2) * (p.1 - a.1) = (b.1 - a.1) * (p.2 - a.2) := by unfold tw at h; grind
  have e2 : (b.2 - a.2) * (b.1 - p.1) = (b.1 - a.1) * (b.2 - p.2) := by unfold tw at h; grind
  have key : ∀ P Q R S : Int, 0 < P → 0 ≤ S → P * Q = R * S → (0 ≤ R → 0 ≤ Q) ∧ (R ≤ 0 → Q ≤ 0) := by
    intro P Q R S hP hS h
    constructor
    · intro hR
      rcases Int.lt_or_le Q 0 with hq | hq
      · have := Int.mul_neg_of_pos_of_neg hP hq; have := Int.mul_nonneg hR hS; omega
      · exact hq
    · intro hR
      rcases Int.lt_or_le 0 Q with hq | hq
      · have := Int.mul_pos hP hq; have := Int.mul_nonneg (Int.neg_nonneg.2 hR) hS; rw [Int.neg_mul] at this; omega
      · exact hq
  rcases h1 with h1 | h1
  · have k1 := key _ _ _ _ (by omega) (by omega) e
    have k2 := key _ _ _ _ (by omega) (by omega) e2
    omega
  · have k1 := key (a.2 - b.2) (p.1 - a.1) (b.1 - a.1) (a.2 - p.2) (by omega) (by omega) (by grind)
    have k2 := key (a.2 - b.2) (b.1 - p.1) (b.1 - a.1) (p.2 - b.2) (by omega) (by omega) (by grind)
    omega

structure Packs (A B C D : Int) : Prop where
  ab : A * B < 0 → 0 < C * D
  cd : C * D < 0 → 0 < A * B
theorem packs {a b c d : Pt} (h : ¬ meets a b c d) : Packs (tw c d a) (tw c d b) (tw a b c) (tw a b d) := by
  unfold meets at h
  constructor
  · intro hAB
    rcases Int.lt_trichotomy (tw a b c * tw a b d) 0 with hc | hc | hc
    · exact absurd (Or.inr (Or.inr (Or.inr (Or.inr ⟨hc, hAB⟩)))) h
    · rcases Int.mul_eq_zero.1 hc with h0 | h0
      · exact absurd (Or.inr (Or.inr (Or.inl (on_of a b c d h0 hAB)))) h
      · refine absurd (Or.inr (Or.inr (Or.inr (Or.inl (on_of a b d c h0 ?_))))) h
        rw [tw_swap c d a, tw_swap c d b, Int.neg_mul_neg]; exact hAB
    · exact hc
  · intro hCD
    rcases Int.lt_trichotomy (tw c d a * tw c d b) 0 with hc | hc | hc
    · exact absurd (Or.inr (Or.inr (Or.inr (Or.inr ⟨hCD, hc⟩)))) h
    · rcases Int.mul_eq_zero.1 hc with h0 | h0
      · exact absurd (Or.inl (on_of c d a b h0 hCD)) h
      · refine absurd (Or.inr (Or.inl (on_of c d b a h0 ?_))) h
        rw [tw_swap a b c, tw_swap a b d, Int.neg_mul_neg]; exact hCD
    · exact hc


theorem pos_of_mul {x y : Int} (h : 0 < x * y) (hy : 0 < y) : 0 < x := by
  rcases Int.lt_or_le 0 x with h1 | h1
  · exact h1
  · have := Int.mul_nonneg (Int.neg_nonneg.2 h1) (Int.le_of_lt hy); rw [Int.neg_mul] at this; omega
theorem nonneg_of_mul {x y : Int} (h : 0 ≤ x * y) (hy : 0 < y) : 0 ≤ x := by
  rcases Int.lt_or_le x 0 with h1 | h1
  · have := Int.mul_neg_of_neg_of_pos h1 hy; omega
  · exact h1
theorem cd_ {A B C D ya yb yc yd : Int} (hs : C - D = B - A) (hy : B * ya - A * yb + D * yc - C * yd = 0) : B * (yd - ya) + A * (yb - yd) + D * (yd - yc) = 0 := by grind
theorem cc_ {A B C D ya yb yc yd : Int} (hs : C - D = B - A) (hy : B * ya - A * yb + D * yc - C * yd = 0) : B * (ya - yc) + A * (yc - yb) + C * (yc - yd) = 0 := by grind
theorem cb_ {A B C D ya yb yc yd : Int} (hs : C - D = B - A) (hy : B * ya - A * yb + D * yc - C * yd = 0) : B * (ya - yb) + D * (yc - yb) + C * (yb - yd) = 0 := by grind
theorem ca_ {A B C D ya yb yc yd : Int} (hs : C - D = B - A) (hy : B * ya - A * yb + D * yc - C * yd = 0) : A * (ya - yb) + D * (yc - ya) + C * (ya - yd) = 0 := by grind
/-- a and b level with cd: both on one side -/
theorem rr_ {A B C D ya yb yc yd : Int} (hs : C - D = B - A) (hy : B * ya - A * yb + D * yc - C * yd = 0) (p1 : A * B < 0 → 0 < C * D) (h1 : yc ≤ ya) (h2 : ya < yd) (h3 : yc ≤ yb) (h4 : yb < yd) (hA : 0 < A) (hB : B < 0) : False := by
  have hCD := p1 (Int.mul_neg_of_pos_of_neg hA hB)
  have e1 := cd_ hs hy
  have e2 := cc_ hs hy
  have m1 := Int.mul_neg_of_neg_of_pos hB (show 0 < yd - ya by omega)
  have m2 := Int.mul_neg_of_pos_of_neg hA (show yb - yd < 0 by omega)
  have hD : 0 < D := pos_of_mul (y := yd - yc) (by omega) (by omega)
  have m3 := Int.mul_nonneg (show 0 ≤ -B by omega) (show 0 ≤ ya - yc by omega)
  have m4 := Int.mul_nonneg (show 0 ≤ A by omega) (show 0 ≤ yb - yc by omega)
  have hC : 0 ≤ -C := nonneg_of_mul (y := yd - yc) (by grind) (by omega)
  have := Int.mul_nonneg hC (Int.le_of_lt hD); rw [Int.neg_mul] at this; omega

theorem rs_ {A B C D ya yb yc yd : Int} (hs : C - D = B - A) (hy : B * ya - A * yb + D * yc - C * yd = 0) (p2 : C * D < 0 → 0 < A * B) (h1 : yc ≤ ya) (h2 : ya < yd) (h3 : yd ≤ yb) (hA : 0 < A) (hD : 0 < D) : False := by
  have e1 := ca_ hs hy
  have e2 := cd_ hs hy
  have m1 := Int.mul_neg_of_pos_of_neg hA (show ya - yb < 0 by omega)
  have m2 := Int.mul_nonneg (show 0 ≤ D by omega) (show 0 ≤ ya - yc by omega)
  have hC : 0 < -C := pos_of_mul (y := yd - ya) (by grind) (by omega)
  have hAB := p2 (Int.mul_neg_of_neg_of_pos (show C < 0 by omega) hD)
  have hB : 0 < B := pos_of_mul (y := A) (by grind) hA
  have m3 := Int.mul_pos hB (show 0 < yd - ya by omega)
  have m4 := Int.mul_nonneg (show 0 ≤ A by omega) (show 0 ≤ yb - yd by omega)
  have m5 := Int.mul_pos hD (show 0 < yd - yc by omega)
  omega
theorem sr_ {A B C D ya yb yc yd : Int} (hs : C - D = B - A) (hy : B * ya - A * yb + D * yc - C * yd = 0) (p1 : A * B < 0 → 0 < C * D) (h1 : ya < yc) (h2 : yc ≤ yb) (h3 : yb < yd) (hB : 0 < B) (hC : 0 < C) : False := by
  have e1 := cc_ hs hy
  have e2 := cb_ hs hy
  have m1 := Int.mul_neg_of_pos_of_neg hB (show ya - yc < 0 by omega)
  have m2 := Int.mul_neg_of_pos_of_neg hC (show yc - yd < 0 by omega)
  have hA : 0 < -A := by
    have h0 : 0 ≤ yb - yc := by omega
    rcases Int.lt_or_le A 0 with h | h
    · omega
    · have := Int.mul_nonneg h h0; grind
  have hCD := p1 (Int.mul_neg_of_neg_of_pos (show A < 0 by omega) hB)
  have hD : 0 < D := pos_of_mul (y := C) (by grind) hC
  have m3 := Int.mul_neg_of_pos_of_neg hB (show ya - yb < 0 by omega)
  have m4 := Int.mul_nonneg (show 0 ≤ D by omega) (show 0 ≤ yb - yc by omega)
  have m5 := Int.mul_neg_of_pos_of_neg hC (show yb - yd < 0 by omega)
  grind
theorem ss_ {A B C D ya yb yc yd : Int} (hs : C - D = B - A) (hy : B * ya - A * yb + D * yc - C * yd = 0) (p2 : C * D < 0 → 0 < A * B) (h1 : ya < yc) (h2 : yc ≤ yb) (h3 : ya < yd) (h4 : yd ≤ yb) (hC : C < 0) (hD : 0 < D) : False := by
  have hAB := p2 (Int.mul_neg_of_neg_of_pos hC hD)
  have e1 := ca_ hs hy
  have e2 := cb_ hs hy
  have m1 := Int.mul_pos hD (show 0 < yc - ya by omega)
  have m2 := Int.mul_pos_of_neg_of_neg hC (show ya - yd < 0 by omega)
  have hA : 0 < A := pos_of_mul (y := yb - ya) (by grind) (by omega)
  have hB : 0 < B := pos_of_mul (y := A) (by grind) hA
  have m3 := Int.mul_neg_of_pos_of_neg hB (show ya - yb < 0 by omega)
  have m4 := Int.mul_nonneg (show 0 ≤ D by omega) (show 0 ≤ yb - yc by omega)
  have m5 := Int.mul_nonneg (show 0 ≤ -C by omega) (show 0 ≤ yb - yd by omega)
  grind
theorem Packs.neg {A B C D : Int} (h : Packs A B C D) : Packs (-A) (-B) (-C) (-D) :=
  ⟨fun x => by rw [Int.neg_mul_neg] at *; exact h.ab x, fun x => by rw [Int.neg_mul_neg] at *; exact h.cd x⟩

theorem cr_up {c d : Pt} (h : c.2 ≤ d.2) (p : Pt) : cr c d p = if c.2 ≤ p.2 ∧ p.2 < d.2 ∧ 0 < tw c d p then 1 else 0 := by
  unfold cr; split
  · rfl
  · rw [if_neg (by omega)]
theorem rh_up {a b : Pt} (h : a.2 ≤ b.2) (z : Pt) : rh a b z = if a.2 < z.2 ∧ z.2 ≤ b.2 ∧ tw a b z < 0 then -1 else 0 := by
  unfold rh; rw [if_neg (by omega)]

theorem cell_up (a b c d : Pt) (hab : a.2 ≤ b.2) (hcd : c.2 ≤ d.2) (h : ¬ meets a b c d) : cr c d b - cr c d a = rh a b d - rh a b c := by
  have P := packs h
  have hs := tw_sum a b c d
  have hy := tw_y a b c d
  have nA : ¬ on c d a := fun x => h (Or.inl x)
  have nB : ¬ on c d b := fun x => h (Or.inr (Or.inl x))
  have nC : ¬ on a b c := fun x => h (Or.inr (Or.inr (Or.inl x)))
  have nD : ¬ on a b d := fun x => h (Or.inr (Or.inr (Or.inr (Or.inl x))))
  have zA : tw c d a = 0 → c.2 ≤ a.2 → a.2 ≤ d.2 → c.2 = d.2 := fun h0 h1 h2 => Classical.byContradiction fun hne => nA (on_of_level c d a h0 (Or.inl ⟨h1, h2⟩) hne)
  have zB : tw c d b = 0 → c.2 ≤ b.2 → b.2 ≤ d.2 → c.2 = d.2 := fun h0 h1 h2 => Classical.byContradiction fun hne => nB (on_of_level c d b h0 (Or.inl ⟨h1, h2⟩) hne)
  have zC : tw a b c = 0 → a.2 ≤ c.2 → c.2 ≤ b.2 → a.2 = b.2 := fun h0 h1 h2 => Classical.byContradiction fun hne => nC (on_of_level a b c h0 (Or.inl ⟨h1, h2⟩) hne)
  have zD : tw a b d = 0 → a.2 ≤ d.2 → d.2 ≤ b.2 → a.2 = b.2 := fun h0 h1 h2 => Classical.byContradiction fun hne => nD (on_of_level a b d h0 (Or.inl ⟨h1, h2⟩) hne)
  clear h nA nB nC nD
  rw [cr_up hcd, cr_up hcd, rh_up hab, rh_up hab]
  generalize tw c d a = A at *
  generalize tw c d b = B at *
  generalize tw a b c = C at *
  generalize tw a b d = D at *
  generalize a.2 = ya at *
  generalize b.2 = yb at *
  generalize c.2 = yc at *
  generalize d.2 = yd at *
  have N := P.neg
  have hs' : -C - -D = -B - -A := by omega
  have hy' : -B * ya - -A * yb + -D * yc - -C * yd = 0 := by grind
  by_cases ra : yc ≤ ya ∧ ya < yd
  · by_cases rb : yc ≤ yb ∧ yb < yd
    · have n1 : ¬ (0 < A ∧ B < 0) := fun ⟨u, v⟩ => rr_ hs hy P.ab ra.1 ra.2 rb.1 rb.2 u v
      have n2 : ¬ (A < 0 ∧ 0 < B) := fun ⟨u, v⟩ => rr_ hs' hy' N.ab ra.1 ra.2 rb.1 rb.2 (by omega) (by omega)
      (repeat' split) <;> omega
    · have n1 : ¬ (0 < A ∧ 0 < D) := fun ⟨u, v⟩ => rs_ hs hy P.cd ra.1 ra.2 (by omega) u v
      have n2 : ¬ (A < 0 ∧ D < 0) := fun ⟨u, v⟩ => rs_ hs' hy' N.cd ra.1 ra.2 (by omega) (by omega) (by omega)
      (repeat' split) <;> omega
  · by_cases rb : yc ≤ yb ∧ yb < yd
    · have n1 : ¬ (0 < B ∧ 0 < C) := fun ⟨u, v⟩ => sr_ hs hy P.ab (by omega) rb.1 rb.2 u v
      have n2 : ¬ (B < 0 ∧ C < 0) := fun ⟨u, v⟩ => sr_ hs' hy' N.ab (by omega) rb.1 rb.2 (by omega) (by omega)
      (repeat' split) <;> omega
    · by_cases sc : ya < yc ∧ yc ≤ yb
      · by_cases sd : ya < yd ∧ yd ≤ yb
        · have n1 : ¬ (C < 0 ∧ 0 < D) := fun ⟨u, v⟩ => ss_ hs hy P.cd sc.1 sc.2 sd.1 sd.2 u v
          have n2 : ¬ (0 < C ∧ D < 0) := fun ⟨u, v⟩ => ss_ hs' hy' N.cd sc.1 sc.2 sd.1 sd.2 (by omega) (by omega)
          (repeat' split) <;> omega
        · (repeat' split) <;> omega
      · (repeat' split) <;> omega
theorem on_swap {a b p : Pt} (h : on b a p) : on a b p := by
  unfold on at *; rw [tw_swap a b p] at h
  refine ⟨by omega, ?_, ?_, ?_, ?_⟩ <;> omega
theorem meets_swap1 {a b c d : Pt} (h : meets b a c d) : meets a b c d := by
  unfold meets at *
  rw [tw_swap a b c, tw_swap a b d, Int.neg_mul_neg, Int.mul_comm (tw c d b)] at h
  rcases h with h | h | h | h | h
  · exact .inr (.inl h)
  · exact .inl h
  · exact .inr (.inr (.inl (on_swap h)))
  · exact .inr (.inr (.inr (.inl (on_swap h))))
  · exact .inr (.inr (.inr (.inr h)))
theorem meets_swap2 {a b c d : Pt} (h : meets a b d c) : meets a b c d := by
  unfold meets at *
  rw [tw_swap c d a, tw_swap c d b, Int.neg_mul_neg, Int.mul_comm (tw a b d)] at h
  rcases h with h | h | h | h | h
  · exact .inl (on_swap h)
  · exact .inr (.inl (on_swap h))
  · exact .inr (.inr (.inr (.inl h)))
  · exact .inr (.inr (.inl h))
  · exact .inr (.inr (.inr (.inr h)))
theorem cell (a b c d : Pt) (h : ¬ meets a b c d) : cr c d b - cr c d a = rh a b d - rh a b c := by
  rcases Int.le_total a.2 b.2 with h1 | h1 <;> rcases Int.le_total c.2 d.2 with h2 | h2
  · exact cell_up a b c d h1 h2 h
  · have := cell_up a b d c h1 h2 (fun x => h (meets_swap2 x)); rw [cr_swap c d a, cr_swap c d b] at this; omega
  · have := cell_up b a c d h1 h2 (fun x => h (meets_swap1 x)); rw [rh_swap a b c, rh_swap a b d] at this; omega
  · have := cell_up b a d c h1 h2 (fun x => h (meets_swap1 (meets_swap2 x)))
    rw [cr_swap c d a, cr_swap c d b, rh_swap a b c, rh_swap a b d] at this; omega

def up (a b : Pt) : Int := if a.2 < b.2 then 1 else if b.2 < a.2 then 0 else if b.1 < a.1 then 1 else 0
/-- neighbours at a corner: if straight, the corner lies between them -/
def adj (a b c : Pt) : Prop := a ≠ b ∧ b ≠ c ∧
  (tw a b c = 0 → ((a.2 < b.2 ∧ b.2 < c.2) ∨ (c.2 < b.2 ∧ b.2 < a.2) ∨ (a.2 = b.2 ∧ b.2 = c.2 ∧ ((a.1 < b.1 ∧ b.1 < c.1) ∨ (c.1 < b.1 ∧ b.1 < a.1)))))
theorem tw_rot (a b c : Pt) : tw b c a = tw a b c := by simp only [tw]; grind
theorem tri (x y : Int) : (x < y ∧ ¬ y < x ∧ x ≤ y ∧ ¬ y ≤ x) ∨ (¬ x < y ∧ ¬ y < x ∧ x ≤ y ∧ y ≤ x) ∨ (¬ x < y ∧ y < x ∧ ¬ x ≤ y ∧ y ≤ x) := by omega
theorem local_ (a b c : Pt) (h : adj a b c) : rh b c a + cr a b c + up b c = rh a b c + cr b c a + up a b := by
  obtain ⟨h1, h2, h3⟩ := h
  have e1 : a.2 = b.2 → a.1 ≠ b.1 := fun e e' => h1 (Prod.ext e' e)
  have e2 : b.2 = c.2 → b.1 ≠ c.1 := fun e e' => h2 (Prod.ext e' e)
  have s1 : a.2 = b.2 → tw a b c = (b.1 - a.1) * (c.2 - b.2) := fun e => by unfold tw; rw [e]; grind
  have s2 : b.2 = c.2 → tw a b c = (b.1 - c.1) * (b.2 - a.2) := fun e => by unfold tw; rw [e]; grind
  have key : ∀ x y : Int, (0 < x → 0 < y → 0 < x * y) ∧ (x < 0 → y < 0 → 0 < x * y) ∧ (0 < x → y < 0 → x * y < 0) ∧ (x < 0 → 0 < y → x * y < 0) ∧ (y = 0 → x * y = 0) :=
    fun x y => ⟨Int.mul_pos, Int.mul_pos_of_neg_of_neg, Int.mul_neg_of_pos_of_neg, Int.mul_neg_of_neg_of_pos, fun e => by rw [e, Int.mul_zero]⟩
  have k1 := key (b.1 - a.1) (c.2 - b.2)
  have k2 := key (b.1 - c.1) (b.2 - a.2)
  have hrot := tw_rot a b c
  unfold rh cr up
  rw [hrot]
  generalize (b.1 - a.1) * (c.2 - b.2) = m1 at *
  generalize (b.1 - c.1) * (b.2 - a.2) = m2 at *
  generalize tw a b c = T at *
  clear key h1 h2 hrot
  rcases tri a.2 b.2 with ⟨a1, a2, a3, a4⟩ | ⟨a1, a2, a3, a4⟩ | ⟨a1, a2, a3, a4⟩ <;> rcases tri b.2 c.2 with ⟨b1, b2, b3, b4⟩ | ⟨b1, b2, b3, b4⟩ | ⟨b1, b2, b3, b4⟩ <;> rcases tri a.2 c.2 with ⟨c1, c2, c3, c4⟩ | ⟨c1, c2, c3, c4⟩ | ⟨c1, c2, c3, c4⟩ <;> rcases tri T 0 with ⟨d1, d2, d3, d4⟩ | ⟨d1, d2, d3, d4⟩ | ⟨d1, d2, d3, d4⟩
  all_goals
    try (simp only [a1, a2, a3, a4, b1, b2, b3, b4, c1, c2, c3, c4, d1, d2, and_true, and_false, if_false, if_true]; done)
  all_goals
    try (exfalso; clear e1 e2 k1 k2 s1 s2 h3; omega)
  all_goals
    (try simp only [a1, a2, a3, a4, b1, b2, b3, b4, c1, c2, c3, c4, d1, d2, and_true, and_false, if_false, if_true]); ((repeat' split) <;> omega)
end Go.Proofs.Ytieimijkkjhegaa.MJ
/- plain mathematics: around a polygon -/
namespace Go.Proofs.Ytieimijkkjhegaa.MJ
set_option linter.unusedVariables false
set_option linter.unusedSimpArgs false
/-- sums -/
def sm (f : Nat → Int) : Nat → Int
  | 0 => 0
  | n + 1 => sm f n + f n
theorem sm_congr {f g : Nat → Int} {n : Nat} (h : ∀ i, i < n → f i = g i) : sm f n = sm g n := by
  induction n with
  | zero => rfl
  | succ n ih => simp only [sm]; rw [ih (fun i hi => h i (by omega)), h n (by omega)]
theorem sm_add (f g : Nat → Int) (n : Nat) : sm (fun i => f i + g i) n = sm f n + sm g n := by
  induction n with
  | zero => rfl
  | succ n ih => simp only [sm]; omega
theorem sm_sub (f g : Nat → Int) (n : Nat) : sm (fun i => f i - g i) n = sm f n - sm g n := by
  induction n with
  | zero => rfl
  | succ n ih => simp only [sm]; omega
theorem sm_tele (f : Nat → Int) (n : Nat) : sm (fun i => f (i + 1) - f i) n = f n - f 0 := by
  induction n with
  | zero => simp [sm]
  | succ n ih => simp only [sm]; omega
theorem sm_head (f : Nat → Int) (n : Nat) : sm f (n + 1) = f 0 + sm (fun i => f (i + 1)) n := by
  induction n with
  | zero => simp [sm]
  | succ n ih => rw [sm, ih]; simp only [sm]; omega
theorem sm_zero {f : Nat → Int} {n : Nat} (h : ∀ i, i < n → f i = 0) : sm f n = 0 := by
  induction n with
  | zero => rfl
  | succ n ih => simp only [sm]; rw [ih (fun i hi => h i (by omega)), h n (by omega)]; rfl
/-- a window of one period, wherever it begins -/
theorem sm_shift {f : Nat → Int} {n : Nat} (hp : ∀ i, f (i + n) = f i) (s : Nat) : sm (fun i => f (s + i)) n = sm f n := by
  induction s with
  | zero => exact sm_congr fun i _ => by rw [Nat.zero_add]
  | succ s ih =>
    rw [← ih]
    have h1 := sm_head (fun i => f (s + i)) n
    have h2 : sm (fun i => f (s + i)) (n + 1) = sm (fun i => f (s + i)) n + f (s + n) := rfl
    have h3 := hp s
    have h4 : sm (fun i => f (s + (i + 1))) n = sm (fun i => f (s + 1 + i)) n := sm_congr fun i _ => by rw [Nat.add_comm i 1, Nat.add_assoc]
    simp only [Nat.add_zero] at h1
    omega

/-- a polygon that does not cross itself (straight corners let in), as a periodic row of points -/
structure Simple (v : Nat → Pt) (n : Nat) : Prop where
  three : 3 ≤ n
  per : ∀ i, v (i + n) = v i
  adj : ∀ i, adj (v i) (v (i + 1)) (v (i + 2))
  apart : ∀ i j, i + 2 ≤ j → j + 2 ≤ i + n → ¬ meets (v i) (v (i + 1)) (v j) (v (j + 1))
/-- crossings of the lines that do not end at corner k with its ray -/
def Fk (v : Nat → Pt) (n k : Nat) : Int := sm (fun j => cr (v (k + 1 + j)) (v (k + 2 + j)) (v k)) (n - 2)
/-- what is constant: how often the polygon goes round the points at its left side -/
def Ck (v : Nat → Pt) (n k : Nat) : Int :=
  Fk v n k + (rh (v k) (v (k + 1)) (v (k + n - 1)) + cr (v (k + n - 1)) (v k) (v (k + 1))) + up (v k) (v (k + 1))
theorem Ck_step {v : Nat → Pt} {n : Nat} (h : Simple v n) (k : Nat) : Ck v n (k + 1) = Ck v n k := by
  have h3 := h.three
  obtain ⟨m, rfl⟩ : ∃ m, n = m + 3 := ⟨n - 3, by omega⟩
  have hper := h.per k
  have hl := local_ (v k) (v (k + 1)) (v (k + 2)) (h.adj k)
  unfold Ck Fk
  have e0 : m + 3 - 2 = m + 1 := rfl
  have e1 : k + (m + 3) - 1 = k + m + 2 := by omega
  have e2 : k + 1 + (m + 3) - 1 = k + (m + 3) := by omega
  rw [e0, e1, e2, hper]
  have hF1 : sm (fun j => cr (v (k + 1 + 1 + j)) (v (k + 1 + 2 + j)) (v (k + 1))) (m + 1)
      = sm (fun j => cr (v (k + 2 + j)) (v (k + 3 + j)) (v (k + 1))) m + cr (v (k + m + 2)) (v k) (v (k + 1)) := by
    rw [sm]
    have a1 : k + 1 + 1 + m = k + m + 2 := by omega
    have a2 : k + 1 + 2 + m = k + (m + 3) := by omega
    rw [a1, a2, hper]
  have hF0 : sm (fun j => cr (v (k + 1 + j)) (v (k + 2 + j)) (v k)) (m + 1)
      = cr (v (k + 1)) (v (k + 2)) (v k) + sm (fun j => cr (v (k + 2 + j)) (v (k + 3 + j)) (v k)) m := by
    rw [sm_head]
    simp only [Nat.add_zero]
    congr 1
    exact sm_congr fun i _ => by
      rw [show k + 1 + (i + 1) = k + 2 + i by omega, show k + 2 + (i + 1) = k + 3 + i by omega]
  have hT : sm (fun j => cr (v (k + 2 + j)) (v (k + 3 + j)) (v (k + 1)) - cr (v (k + 2 + j)) (v (k + 3 + j)) (v k)) m
      = rh (v k) (v (k + 1)) (v (k + m + 2)) - rh (v k) (v (k + 1)) (v (k + 2)) := by
    have ht := sm_tele (fun j => rh (v k) (v (k + 1)) (v (k + 2 + j))) m
    simp only [Nat.add_zero] at ht
    rw [show k + 2 + m = k + m + 2 by omega] at ht
    rw [← ht]
    exact sm_congr fun j hj => by
      have := cell (v k) (v (k + 1)) (v (k + 2 + j)) (v (k + 3 + j)) (by
        have := h.apart k (k + 2 + j) (by omega) (by omega)
        rwa [show k + 2 + j + 1 = k + 3 + j by omega] at this)
      rw [this, show k + 2 + (j + 1) = k + 3 + j by omega]
  rw [sm_sub] at hT
  have hk : k + 1 + 1 = k + 2 := rfl
  have hk3 : k + 1 + 2 = k + 3 := rfl
  simp only [hk, hk3] at *
  rw [hF1, hF0]
  omega
/-! local facts at a corner -/
theorem cr_west {a b p : Pt} (ha : a.1 ≤ p.1) (hb : b.1 ≤ p.1) : cr a b p = 0 := by
  have e : tw a b p = (b.1 - p.1) * (p.2 - a.2) + (a.1 - p.1) * (b.2 - p.2) := by unfold tw; grind
  unfold cr
  split
  · rename_i h
    have := Int.mul_nonneg (show 0 ≤ p.1 - b.1 by omega) (show 0 ≤ p.2 - a.2 by omega)
    have := Int.mul_nonneg (show 0 ≤ p.1 - a.1 by omega) (show 0 ≤ b.2 - p.2 by omega)
    grind
  · split
    · rename_i h
      have := Int.mul_nonneg (show 0 ≤ p.1 - b.1 by omega) (show 0 ≤ a.2 - p.2 by omega)
      have := Int.mul_nonneg (show 0 ≤ p.1 - a.1 by omega) (show 0 ≤ p.2 - b.2 by omega)
      grind
    · rfl
theorem signs (x y : Int) : (0 < x → 0 < y → 0 < x * y) ∧ (x < 0 → y < 0 → 0 < x * y) ∧ (0 < x → y < 0 → x * y < 0) ∧ (x < 0 → 0 < y → x * y < 0) ∧ (y = 0 → x * y = 0) ∧ (x = 0 → x * y = 0) :=
  ⟨Int.mul_pos, Int.mul_pos_of_neg_of_neg, Int.mul_neg_of_pos_of_neg, Int.mul_neg_of_neg_of_pos, fun e => by rw [e, Int.mul_zero], fun e => by rw [e, Int.zero_mul]⟩
/-- the corner's own part -/
def co (a b c : Pt) : Int := rh b c a + cr a b c + up b c

structure Cor (a b c : Pt) (T : Int) : Prop where
  e1 : a.2 = b.2 → a.1 ≠ b.1
  e2 : b.2 = c.2 → b.1 ≠ c.1
  s1 : a.2 = b.2 → ((0 < b.1 - a.1 → 0 < c.2 - b.2 → 0 < T) ∧ (b.1 - a.1 < 0 → c.2 - b.2 < 0 → 0 < T) ∧ (0 < b.1 - a.1 → c.2 - b.2 < 0 → T < 0) ∧ (b.1 - a.1 < 0 → 0 < c.2 - b.2 → T < 0) ∧ (c.2 = b.2 → T = 0))
  s2 : b.2 = c.2 → ((0 < b.1 - c.1 → 0 < b.2 - a.2 → 0 < T) ∧ (b.1 - c.1 < 0 → b.2 - a.2 < 0 → 0 < T) ∧ (0 < b.1 - c.1 → b.2 - a.2 < 0 → T < 0) ∧ (b.1 - c.1 < 0 → 0 < b.2 - a.2 → T < 0) ∧ (b.2 = a.2 → T = 0))
  z : T = 0 → ((a.2 < b.2 ∧ b.2 < c.2) ∨ (c.2 < b.2 ∧ b.2 < a.2) ∨ (a.2 = b.2 ∧ b.2 = c.2 ∧ ((a.1 < b.1 ∧ b.1 < c.1) ∨ (c.1 < b.1 ∧ b.1 < a.1))))
theorem cor_of {a b c : Pt} (h : adj a b c) : Cor a b c (tw a b c) := by
  obtain ⟨h1, h2, h3⟩ := h
  refine ⟨fun e e' => h1 (Prod.ext e' e), fun e e' => h2 (Prod.ext e' e), fun e => ?_, fun e => ?_, h3⟩
  · have : tw a b c = (b.1 - a.1) * (c.2 - b.2) := by unfold tw; rw [e]; grind
    have k := signs (b.1 - a.1) (c.2 - b.2)
    rw [this]
    exact ⟨k.1, k.2.1, k.2.2.1, k.2.2.2.1, fun e => k.2.2.2.2.1 (by omega)⟩
  · have : tw a b c = (b.1 - c.1) * (b.2 - a.2) := by unfold tw; rw [e]; grind
    have k := signs (b.1 - c.1) (b.2 - a.2)
    rw [this]
    exact ⟨k.1, k.2.1, k.2.2.1, k.2.2.2.1, fun e => k.2.2.2.2.1 (by omega)⟩
/-- the corner's part, told by heights and the turn -/
def coT (a b c : Pt) (T : Int) : Int :=
  if a.2 < b.2 then (if b.2 < c.2 then 1 else if 0 < T then 1 else 0)
  else if b.2 < a.2 then (if b.2 < c.2 ∧ 0 < T then 1 else 0)
  else if b.2 < c.2 then 1 else if c.2 < b.2 then (if 0 < T then 1 else 0) else up b c
theorem co_tab {a b c : Pt} (h : adj a b c) : co a b c = coT a b c (tw a b c) := by
  have C := cor_of h
  have hrot := tw_rot a b c
  unfold co rh cr coT up
  rw [hrot]
  generalize tw a b c = T at *
  obtain ⟨e1, e2, s1, s2, z⟩ := C
  clear h hrot
  rcases tri a.2 b.2 with ⟨a1, a2, a3, a4⟩ | ⟨a1, a2, a3, a4⟩ | ⟨a1, a2, a3, a4⟩ <;> rcases tri b.2 c.2 with ⟨b1, b2, b3, b4⟩ | ⟨b1, b2, b3, b4⟩ | ⟨b1, b2, b3, b4⟩ <;> rcases tri a.2 c.2 with ⟨c1, c2, c3, c4⟩ | ⟨c1, c2, c3, c4⟩ | ⟨c1, c2, c3, c4⟩ <;> rcases tri T 0 with ⟨d1, d2, d3, d4⟩ | ⟨d1, d2, d3, d4⟩ | ⟨d1, d2, d3, d4⟩
  all_goals
    try (simp only [a1, a2, a3, a4, b1, b2, b3, b4, c1, c2, c3, c4, d1, d2, and_true, and_false, if_false, if_true, and_self]; done)
  all_goals
    try (exfalso; clear e1 e2 s1 s2 z; omega)
  all_goals
    (try simp only [a1, a2, a3, a4, b1, b2, b3, b4, c1, c2, c3, c4, d1, d2, and_true, and_false, if_false, if_true, and_self]); ((repeat' split) <;> omega)
theorem co_01 {a b c : Pt} (h : adj a b c) : co a b c = 0 ∨ co a b c = 1 := by
  rw [co_tab h]; unfold coT up; (repeat' split) <;> omega
theorem up_01 (a b : Pt) : up a b = 0 ∨ up a b = 1 := by unfold up; (repeat' split) <;> omega
/-- a point on the line behind a corner, strictly between by height -/
theorem tw_part {a b c x : Pt} (h : tw b c x = 0) : tw a b x * (c.2 - b.2) = tw a b c * (x.2 - b.2) := by
  have : tw a b x * (c.2 - b.2) - tw a b c * (x.2 - b.2) = (b.2 - a.2) * tw b c x := by unfold tw; grind
  rw [h] at this; omega
theorem sign_eq {p q r s : Int} (h : p * q = r * s) (hq : (0 < q ∧ 0 < s) ∨ (q < 0 ∧ s < 0)) : (0 < p ↔ 0 < r) ∧ (p < 0 ↔ r < 0) := by
  have k1 := signs p q
  have k2 := signs r s
  generalize p * q = m at *
  generalize r * s = m' at *
  omega
def Mid (b c x : Pt) : Prop := tw b c x = 0 ∧ ((b.2 < x.2 ∧ x.2 < c.2) ∨ (c.2 < x.2 ∧ x.2 < b.2))
theorem up_mid {b c x : Pt} (h : Mid b c x) : up b x = up b c := by
  obtain ⟨_, h⟩ := h
  unfold up; (repeat' split) <;> omega
theorem adj_mid {a b c x : Pt} (h : adj a b c) (hm : Mid b c x) : adj a b x := by
  obtain ⟨h1, h2, h3⟩ := h
  obtain ⟨hx, hm⟩ := hm
  have hs := sign_eq (tw_part (a := a) hx) (by omega)
  refine ⟨h1, fun e => by subst e; omega, fun e => ?_⟩
  have := h3 (by omega)
  omega
theorem co_mid {a b c x : Pt} (h : adj a b c) (hm : Mid b c x) : rh b x a + cr a b x = rh b c a + cr a b c := by
  have e1 := co_tab h
  have e2 := co_tab (adj_mid h hm)
  have hs := sign_eq (tw_part (a := a) hm.1) (by have := hm.2; omega)
  have hu := up_mid hm
  have h2 := hm.2
  have e : coT a b x (tw a b x) = coT a b c (tw a b c) := by
    unfold coT; rw [hu]; generalize tw a b x = T at *; generalize tw a b c = T' at *; generalize up b c = u at *
    (repeat' split) <;> omega
  unfold co at e1 e2
  omega
theorem co_west {a b c p : Pt} (h : adj a b c) (h2 : p.2 = b.2) (h1 : p.1 < b.1) : cr a b p + cr b c p - co a b c = 0 ∨ cr a b p + cr b c p - co a b c = -1 := by
  rw [co_tab h]
  have t1 : tw a b p = (b.1 - p.1) * (b.2 - a.2) := by unfold tw; rw [h2]; grind
  have t2 : tw b c p = (b.1 - p.1) * (c.2 - b.2) := by unfold tw; rw [h2]; grind
  have k1 := signs (b.1 - p.1) (b.2 - a.2)
  have k2 := signs (b.1 - p.1) (c.2 - b.2)
  have hu := up_01 b c
  unfold cr coT
  rw [t1, t2, h2]
  generalize (b.1 - p.1) * (b.2 - a.2) = m1 at *
  generalize (b.1 - p.1) * (c.2 - b.2) = m2 at *
  generalize tw a b c = T at *
  generalize up b c = u at *
  clear h t1 t2
  rcases tri a.2 b.2 with ⟨a1, a2, a3, a4⟩ | ⟨a1, a2, a3, a4⟩ | ⟨a1, a2, a3, a4⟩ <;> rcases tri b.2 c.2 with ⟨b1, b2, b3, b4⟩ | ⟨b1, b2, b3, b4⟩ | ⟨b1, b2, b3, b4⟩
  all_goals ((repeat' split) <;> omega)
theorem co_east {a b c : Pt} (h : adj a b c) (ha : a.1 ≤ b.1) (hc : c.1 ≤ b.1) : (0 < tw a b c → co a b c = 1) ∧ (tw a b c < 0 → co a b c = 0) := by
  rw [co_tab h]
  have t : tw a b c = (b.1 - a.1) * (c.2 - b.2) + (b.1 - c.1) * (b.2 - a.2) := by unfold tw; grind
  have k : ∀ x y : Int, 0 ≤ x → (0 ≤ y → 0 ≤ x * y) ∧ (y ≤ 0 → x * y ≤ 0) := fun x y hx => ⟨Int.mul_nonneg hx, fun hy => by have := Int.mul_nonneg hx (Int.neg_nonneg.2 hy); rw [Int.mul_neg] at this; omega⟩
  have k1 := k (b.1 - a.1) (c.2 - b.2) (by omega)
  have k2 := k (b.1 - c.1) (b.2 - a.2) (by omega)
  have z : a.2 = b.2 → b.2 = c.2 → tw a b c = 0 := fun e e' => by unfold tw; rw [e, e']; grind
  unfold coT
  generalize (b.1 - a.1) * (c.2 - b.2) = m1 at *
  generalize (b.1 - c.1) * (b.2 - a.2) = m2 at *
  generalize tw a b c = T at *
  generalize up b c = u at *
  constructor <;> intro hT <;> (repeat' split) <;> omega
end Go.Proofs.Ytieimijkkjhegaa.MJ
/- plain mathematics: what is left of a line -/
namespace Go.Proofs.Ytieimijkkjhegaa.MJ
set_option linter.unusedVariables false
set_option linter.unusedSimpArgs false
theorem mz {x y : Int} (h : x * y = 0) (hx : x ≠ 0) : y = 0 := by
  rcases Int.mul_eq_zero.1 h with h | h
  · exact absurd h hx
  · exact h
/-- the value of a line at a point of another one -/
theorem tw_conv2 (a b c d x : Pt) (h : tw a b x = 0) : tw c d x * (b.2 - a.2) = tw c d a * (b.2 - x.2) + tw c d b * (x.2 - a.2) := by
  have e : tw c d x * (b.2 - a.2) - tw c d a * (b.2 - x.2) - tw c d b * (x.2 - a.2) = (d.2 - c.2) * tw a b x := by unfold tw; grind
  rw [h] at e; omega
theorem tw_conv1 (a b c d x : Pt) (h : tw a b x = 0) : tw c d x * (b.1 - a.1) = tw c d a * (b.1 - x.1) + tw c d b * (x.1 - a.1) := by
  have e : tw c d x * (b.1 - a.1) - tw c d a * (b.1 - x.1) - tw c d b * (x.1 - a.1) = (d.1 - c.1) * tw a b x := by unfold tw; grind
  rw [h] at e; omega
theorem on_left (a b : Pt) : on a b a := by
  refine ⟨by unfold tw; grind, ?_, ?_, ?_, ?_⟩ <;> omega
theorem on_right (a b : Pt) : on a b b := by
  refine ⟨by unfold tw; grind, ?_, ?_, ?_, ?_⟩ <;> omega
theorem on_same {a x : Pt} (h : on a a x) : x = a := by
  obtain ⟨_, h1, h2, h3, h4⟩ := h
  exact Prod.ext (by omega) (by omega)
/-- weights of two numbers that are together 0 -/
theorem conv {A B s t : Int} (h : A * s + B * t = 0) (hs : (0 ≤ s ∧ 0 ≤ t) ∨ (s ≤ 0 ∧ t ≤ 0)) (hst : s + t ≠ 0) : ¬ 0 < A * B := by
  intro hp
  rcases Int.lt_trichotomy A 0 with hA | hA | hA
  · have hB : B < 0 := by
      rcases Int.lt_or_le B 0 with hB | hB
      · exact hB
      · have := Int.mul_nonneg (show 0 ≤ -A by omega) hB; rw [Int.neg_mul] at this; omega
    rcases hs with ⟨h1, h2⟩ | ⟨h1, h2⟩
    · have a1 := Int.mul_nonneg (show 0 ≤ -A by omega) h1
      have a2 := Int.mul_nonneg (show 0 ≤ -B by omega) h2
      rw [Int.neg_mul] at a1 a2
      have z1 : A * s = 0 := by omega
      have z2 : B * t = 0 := by omega
      have := mz z1 (by omega); have := mz z2 (by omega); omega
    · have a1 := Int.mul_nonneg (show 0 ≤ -A by omega) (show 0 ≤ -s by omega)
      have a2 := Int.mul_nonneg (show 0 ≤ -B by omega) (show 0 ≤ -t by omega)
      rw [Int.neg_mul_neg] at a1 a2
      have z1 : A * s = 0 := by omega
      have z2 : B * t = 0 := by omega
      have := mz z1 (by omega); have := mz z2 (by omega); omega
  · subst hA; rw [Int.zero_mul] at hp; omega
  · have hB : 0 < B := by
      rcases Int.lt_or_le 0 B with hB | hB
      · exact hB
      · have := Int.mul_nonneg (Int.le_of_lt hA) (show 0 ≤ -B by omega); rw [Int.mul_neg] at this; omega
    rcases hs with ⟨h1, h2⟩ | ⟨h1, h2⟩
    · have a1 := Int.mul_nonneg (Int.le_of_lt hA) h1
      have a2 := Int.mul_nonneg (Int.le_of_lt hB) h2
      have z1 : A * s = 0 := by omega
      have z2 : B * t = 0 := by omega
      have := mz z1 (by omega); have := mz z2 (by omega); omega
    · have a1 := Int.mul_nonneg (Int.le_of_lt hA) (show 0 ≤ -s by omega)
      have a2 := Int.mul_nonneg (Int.le_of_lt hB) (show 0 ≤ -t by omega)
      rw [Int.mul_neg] at a1 a2
      have z1 : A * s = 0 := by omega
      have z2 : B * t = 0 := by omega
      have := mz z1 (by omega); have := mz z2 (by omega); omega
/-- a point of a line between its ends is no more to one side than both of them -/
theorem on_between {a b c d x : Pt} (h : on a b x) (hx : tw c d x = 0) (hne : a ≠ b) : ¬ 0 < tw c d a * tw c d b := by
  obtain ⟨h0, h1, h2, h3, h4⟩ := h
  by_cases e : a.2 = b.2
  · have e1 : a.1 ≠ b.1 := fun e' => hne (Prod.ext e' e)
    have := tw_conv1 a b c d x h0
    rw [hx, Int.zero_mul] at this
    exact conv this.symm (by omega) (by omega)
  · have := tw_conv2 a b c d x h0
    rw [hx, Int.zero_mul] at this
    exact conv this.symm (by omega) (by omega)
theorem end_of {a b c d x : Pt} (h : on a b x) (hx : tw c d x = 0) (hA : tw c d a = 0) (hB : tw c d b ≠ 0) : x = a := by
  obtain ⟨h0, h1, h2, h3, h4⟩ := h
  have c1 := tw_conv1 a b c d x h0
  have c2 := tw_conv2 a b c d x h0
  rw [hx, hA, Int.zero_mul, Int.zero_mul, Int.zero_add] at c1 c2
  have := mz c1.symm hB
  have := mz c2.symm hB
  exact Prod.ext (by omega) (by omega)
theorem share {a b c d x : Pt} (h1 : on a b x) (h2 : on c d x) : meets a b c d := by
  refine Classical.byContradiction fun hm => ?_
  have nA : ¬ on c d a := fun x => hm (Or.inl x)
  have nB : ¬ on c d b := fun x => hm (Or.inr (Or.inl x))
  have nC : ¬ on a b c := fun x => hm (Or.inr (Or.inr (Or.inl x)))
  have nD : ¬ on a b d := fun x => hm (Or.inr (Or.inr (Or.inr (Or.inl x))))
  have P := packs hm
  by_cases eab : a = b
  · subst eab; rw [on_same h1] at h2; exact nA h2
  by_cases ecd : c = d
  · subst ecd; rw [on_same h2] at h1; exact nC h1
  have p1 := on_between h1 h2.1 eab
  have p2 := on_between h2 h1.1 ecd
  rcases Int.lt_trichotomy (tw c d a * tw c d b) 0 with hAB | hAB | hAB
  · exact p2 (P.ab hAB)
  · have z : tw c d a = 0 ∧ tw c d b = 0 := by
      rcases Int.mul_eq_zero.1 hAB with h0 | h0
      · by_cases hB : tw c d b = 0
        · exact ⟨h0, hB⟩
        · exact absurd (end_of h1 h2.1 h0 hB ▸ h2) nA
      · by_cases hA : tw c d a = 0
        · exact ⟨hA, h0⟩
        · exact absurd (end_of (on_swap h1) h2.1 h0 hA ▸ h2) nB
    obtain ⟨zA, zB⟩ := z
    have hs := tw_sum a b c d
    have hx := tw_x a b c d
    have hy := tw_y a b c d
    rw [zA, zB] at hs hx hy
    have eCD : tw a b c = tw a b d := by omega
    have k1 : tw a b c * (c.1 - d.1) = 0 := by rw [← eCD] at hx; grind
    have k2 : tw a b c * (c.2 - d.2) = 0 := by rw [← eCD] at hy; grind
    have zC : tw a b c = 0 := by
      refine Classical.byContradiction fun hC => ecd (Prod.ext ?_ ?_)
      · have := mz k1 hC; omega
      · have := mz k2 hC; omega
    have zD : tw a b d = 0 := by omega
    obtain ⟨g0, g1, g2, g3, g4⟩ := h1
    obtain ⟨f0, f1, f2, f3, f4⟩ := h2
    by_cases e2 : c.2 = d.2
    · have e1 : c.1 ≠ d.1 := fun e' => ecd (Prod.ext e' e2)
      have ya : a.2 = c.2 := by
        have : (d.1 - c.1) * (a.2 - c.2) = 0 := by unfold tw at zA; rw [← e2] at zA; grind
        have := mz this (by omega); omega
      have yb : b.2 = c.2 := by
        have : (d.1 - c.1) * (b.2 - c.2) = 0 := by unfold tw at zB; rw [← e2] at zB; grind
        have := mz this (by omega); omega
      unfold on at nA nB nC nD
      omega
    · have lev : ∀ p q : Pt, tw c d p = 0 → tw c d q = 0 → p.2 = q.2 → p = q := by
        intro p q hp hq hpq
        have : (d.2 - c.2) * (p.1 - q.1) = 0 := by unfold tw at hp hq; rw [hpq] at hp; grind
        have := mz this (by omega)
        exact Prod.ext (by omega) hpq
      have e3 : a.2 ≠ b.2 := fun e => eab (lev a b zA zB e)
      have oA : ¬ ((c.2 ≤ a.2 ∧ a.2 ≤ d.2) ∨ (d.2 ≤ a.2 ∧ a.2 ≤ c.2)) := fun w => nA (on_of_level c d a zA w e2)
      have oB : ¬ ((c.2 ≤ b.2 ∧ b.2 ≤ d.2) ∨ (d.2 ≤ b.2 ∧ b.2 ≤ c.2)) := fun w => nB (on_of_level c d b zB w e2)
      have oC : ¬ ((a.2 ≤ c.2 ∧ c.2 ≤ b.2) ∨ (b.2 ≤ c.2 ∧ c.2 ≤ a.2)) := fun w => nC (on_of_level a b c zC w e3)
      have oD : ¬ ((a.2 ≤ d.2 ∧ d.2 ≤ b.2) ∨ (b.2 ≤ d.2 ∧ d.2 ≤ a.2)) := fun w => nD (on_of_level a b d zD w e3)
      clear nA nB nC nD hs hx hy k1 k2 p1 p2 P hm g0 f0 hAB
      omega
  · exact p1 hAB
/-- a part of a line that begins where it does -/
theorem on_part {a b x c : Pt} (hx : on a b x) (h : on a x c) : on a b c := by
  obtain ⟨h0, h1, h2, h3, h4⟩ := hx
  obtain ⟨g0, g1, g2, g3, g4⟩ := h
  refine ⟨?_, by omega, by omega, by omega, by omega⟩
  by_cases e : x = a
  · subst e
    have e1 : c.1 = x.1 := by omega
    have e2 : c.2 = x.2 := by omega
    unfold tw; rw [e1, e2]; grind
  · have k1 : tw a b c * (x.1 - a.1) = 0 := by
      have : tw a b c * (x.1 - a.1) = tw a x c * (b.1 - a.1) + (c.1 - a.1) * tw a b x := by unfold tw; grind
      rw [h0, g0] at this; omega
    have k2 : tw a b c * (x.2 - a.2) = 0 := by
      have : tw a b c * (x.2 - a.2) = tw a x c * (b.2 - a.2) + (c.2 - a.2) * tw a b x := by unfold tw; grind
      rw [h0, g0] at this; omega
    refine Classical.byContradiction fun hC => e (Prod.ext ?_ ?_)
    · have := mz k1 hC; omega
    · have := mz k2 hC; omega
theorem mul_neg_iff {x y : Int} : x * y < 0 ↔ (0 < x ∧ y < 0) ∨ (x < 0 ∧ 0 < y) := by
  have k := signs x y
  generalize x * y = m at *
  omega
theorem mul_pos_iff' {x y : Int} : 0 < x * y ↔ (0 < x ∧ 0 < y) ∨ (x < 0 ∧ y < 0) := by
  have k := signs x y
  generalize x * y = m at *
  omega
theorem conv_pos {A B X s t : Int} (hst : (0 ≤ s ∧ 0 ≤ t ∧ s ≤ t) ∨ (s ≤ 0 ∧ t ≤ 0 ∧ t ≤ s)) (hs : s ≠ 0) (ht : t ≠ 0) (e : X * t = A * (t - s) + B * s) (hA : 0 < A) (hB : 0 < B) : 0 < X := by
  rcases hst with ⟨h1, h2, h3⟩ | ⟨h1, h2, h3⟩
  · have m1 := Int.mul_nonneg (Int.le_of_lt hA) (show 0 ≤ t - s by omega)
    have m2 := Int.mul_pos hB (show 0 < s by omega)
    exact pos_of_mul (y := t) (by omega) (by omega)
  · have m1 := Int.mul_nonneg (Int.le_of_lt hA) (show 0 ≤ -(t - s) by omega)
    have m2 := Int.mul_pos hB (show 0 < -s by omega)
    rw [Int.mul_neg] at m1 m2
    exact pos_of_mul (y := -t) (by rw [Int.mul_neg]; omega) (by omega)
theorem meets_part {a b x c d : Pt} (hx : on a b x) (h : meets a x c d) : meets a b c d := by
  rcases h with h | h | h | h | ⟨h, g⟩
  · exact .inl h
  · exact share hx h
  · exact .inr (.inr (.inl (on_part hx h)))
  · exact .inr (.inr (.inr (.inl (on_part hx h))))
  · refine Classical.byContradiction fun hm => ?_
    have P := packs hm
    obtain ⟨h0, h1, h2, h3, h4⟩ := hx
    have key : ∀ s t u : Int, t ≠ 0 → ((0 ≤ s ∧ 0 ≤ t ∧ s ≤ t) ∨ (s ≤ 0 ∧ t ≤ 0 ∧ t ≤ s)) →
        tw a x c * t = tw a b c * s → tw a x d * t = tw a b d * s → tw c d x * t = tw c d a * (t - s) + tw c d b * s → False := by
      intro s t _ ht hst e1 e2 e3
      generalize tw a x c = C' at *
      generalize tw a x d = D' at *
      generalize tw c d x = X at *
      generalize tw a b c = C at *
      generalize tw a b d = D at *
      generalize tw c d a = A at *
      generalize tw c d b = B at *
      have hs0 : s ≠ 0 := by
        intro e; subst e
        rw [Int.mul_zero] at e1
        have : C' = 0 := by
          rcases Int.mul_eq_zero.1 e1 with z | z
          · exact z
          · exact absurd z ht
        rw [this] at h; omega
      have q1 := sign_eq e1 (by omega)
      have q2 := sign_eq e2 (by omega)
      have hCD : C * D < 0 := by rw [mul_neg_iff] at h ⊢; omega
      have hAB := P.cd hCD
      rw [mul_pos_iff'] at hAB
      rw [mul_neg_iff] at g
      have c1 := conv_pos (A := A) (B := B) (X := X) hst hs0 ht e3
      have c2 := conv_pos (A := -A) (B := -B) (X := -X) hst hs0 ht (by rw [Int.neg_mul, Int.neg_mul, Int.neg_mul, e3]; omega)
      clear q1 q2 e1 e2 e3 h hCD P hm
      rcases g with g | g <;> rcases hAB with hAB | hAB
      · have := c1 hAB.1 hAB.2; omega
      · omega
      · omega
      · have := c2 (by omega) (by omega); omega
    by_cases e : a.2 = b.2
    · by_cases e' : a.1 = b.1
      · have : x = a := Prod.ext (by omega) (by omega)
        subst this
        have : tw x x c = 0 := by unfold tw; grind
        rw [this] at h; omega
      · refine key (x.1 - a.1) (b.1 - a.1) 0 (by omega) (by omega) ?_ ?_ ?_
        · have : tw a b c * (x.1 - a.1) = tw a x c * (b.1 - a.1) + (c.1 - a.1) * tw a b x := by unfold tw; grind
          rw [h0] at this; omega
        · have : tw a b d * (x.1 - a.1) = tw a x d * (b.1 - a.1) + (d.1 - a.1) * tw a b x := by unfold tw; grind
          rw [h0] at this; omega
        · have := tw_conv1 a b c d x h0
          rw [this, show b.1 - a.1 - (x.1 - a.1) = b.1 - x.1 by omega]
    · refine key (x.2 - a.2) (b.2 - a.2) 0 (by omega) (by omega) ?_ ?_ ?_
      · have : tw a b c * (x.2 - a.2) = tw a x c * (b.2 - a.2) + (c.2 - a.2) * tw a b x := by unfold tw; grind
        rw [h0] at this; omega
      · have : tw a b d * (x.2 - a.2) = tw a x d * (b.2 - a.2) + (d.2 - a.2) * tw a b x := by unfold tw; grind
        rw [h0] at this; omega
      · have := tw_conv2 a b c d x h0
        rw [this, show b.2 - a.2 - (x.2 - a.2) = b.2 - x.2 by omega]
/-- a polygon: no corner is straight -/
structure Poly (v : Nat → Pt) (n : Nat) : Prop extends Simple v n where
  turn : ∀ i, tw (v i) (v (i + 1)) (v (i + 2)) ≠ 0
/-- how often the lines go around a point -/
def WN (v : Nat → Pt) (n : Nat) (p : Pt) : Int := sm (fun j => cr (v j) (v (j + 1)) p) n
/-- what the lines that do not end at corner k bring to that -/
def Ot (v : Nat → Pt) (n k : Nat) (p : Pt) : Int := sm (fun j => cr (v (k + 1 + j)) (v (k + 2 + j)) p) (n - 2)
theorem WN_at {v : Nat → Pt} {n : Nat} (h : Simple v n) (k : Nat) (p : Pt) :
    WN v n p = cr (v k) (v (k + 1)) p + Ot v n k p + cr (v (k + n - 1)) (v k) p := by
  have h3 := h.three
  obtain ⟨m, rfl⟩ : ∃ m, n = m + 3 := ⟨n - 3, by omega⟩
  unfold WN Ot
  have hp : ∀ i, cr (v (i + (m + 3))) (v (i + (m + 3) + 1)) p = cr (v i) (v (i + 1)) p := fun i => by
    rw [show i + (m + 3) + 1 = i + 1 + (m + 3) by omega, h.per, h.per]
  rw [← sm_shift hp k, sm_head, show m + 3 - 2 = m + 1 from rfl, sm]
  rw [show k + (m + 1 + 1) + 1 = k + (m + 3) by omega, h.per, show k + (m + 3) - 1 = k + (m + 1 + 1) by omega]
  have : sm (fun i => cr (v (k + (i + 1))) (v (k + (i + 1) + 1)) p) (m + 1) = sm (fun j => cr (v (k + 1 + j)) (v (k + 2 + j)) p) (m + 1) :=
    sm_congr fun i _ => by rw [show k + (i + 1) + 1 = k + 2 + i by omega, show k + (i + 1) = k + 1 + i by omega]
  rw [this]
  simp only [Nat.add_zero]
  omega
theorem Ck_0 {v : Nat → Pt} {n : Nat} (h : Simple v n) (k : Nat) : Ck v n k = Ck v n 0 := by
  induction k with
  | zero => rfl
  | succ k ih => rw [Ck_step h k, ih]
/-- the side of a polygon: 1 or 0 -/
def Cs (v : Nat → Pt) (n : Nat) : Int := Ck v n 0
theorem Cs_at {v : Nat → Pt} {n : Nat} (h : Simple v n) (k : Nat) : Cs v n = Ot v n k (v k) + co (v (k + n - 1)) (v k) (v (k + 1)) := by
  have := Ck_0 h k
  unfold Cs
  rw [← this]
  unfold Ck co Fk Ot
  omega
theorem adj_at {v : Nat → Pt} {n : Nat} (h : Simple v n) (k : Nat) : adj (v (k + n - 1)) (v k) (v (k + 1)) := by
  have h3 := h.three
  have a := h.adj (k + n - 1)
  rw [show k + n - 1 + 1 = k + n by omega, show k + n - 1 + 2 = k + 1 + n by omega, h.per, h.per] at a
  exact a
theorem turn_at {v : Nat → Pt} {n : Nat} (h : Poly v n) (k : Nat) : tw (v (k + n - 1)) (v k) (v (k + 1)) ≠ 0 := by
  have h3 := h.three
  have a := h.turn (k + n - 1)
  rw [show k + n - 1 + 1 = k + n by omega, show k + n - 1 + 2 = k + 1 + n by omega, h.per, h.per] at a
  exact a
/-- a row has a greatest one -/
theorem most (f : Nat → Int) (n : Nat) (hn : 0 < n) : ∃ k, k < n ∧ ∀ j, j < n → f j ≤ f k := by
  induction n with
  | zero => omega
  | succ n ih =>
    by_cases h0 : n = 0
    · subst h0; exact ⟨0, by omega, fun j hj => by rw [show j = 0 by omega]; exact Int.le_refl _⟩
    · obtain ⟨k, hk, hm⟩ := ih (by omega)
      by_cases hc : f n ≤ f k
      · refine ⟨k, by omega, fun j hj => ?_⟩
        by_cases hj' : j = n
        · subst hj'; exact hc
        · exact hm j (by omega)
      · refine ⟨n, by omega, fun j hj => ?_⟩
        by_cases hj' : j = n
        · subst hj'; exact Int.le_refl _
        · have := hm j (by omega); omega
theorem per_mod {v : Nat → Pt} {n : Nat} (hp : ∀ i, v (i + n) = v i) (i : Nat) : v i = v (i % n) := by
  have : ∀ q r, v (r + n * q) = v r := by
    intro q
    induction q with
    | zero => intro r; rfl
    | succ q ih => intro r; rw [show r + n * (q + 1) = r + n * q + n by rw [Nat.mul_succ]; omega, hp, ih]
  have e := Nat.mod_add_div i n
  rw [← this (i / n) (i % n), e]
/-- the corner farthest east -/
theorem east {v : Nat → Pt} {n : Nat} (h : Simple v n) : ∃ k, k < n ∧ ∀ j, (v j).1 ≤ (v k).1 := by
  have h3 := h.three
  obtain ⟨k, hk, hm⟩ := most (fun j => (v j).1) n (by omega)
  exact ⟨k, hk, fun j => by rw [per_mod h.per j]; exact hm _ (Nat.mod_lt _ (by omega))⟩
theorem Cs_east {v : Nat → Pt} {n : Nat} (h : Simple v n) {k : Nat} (hk : ∀ j, (v j).1 ≤ (v k).1) : Cs v n = co (v (k + n - 1)) (v k) (v (k + 1)) := by
  rw [Cs_at h k]
  have : Ot v n k (v k) = 0 := sm_zero fun i _ => cr_west (hk _) (hk _)
  omega
theorem Cs_01 {v : Nat → Pt} {n : Nat} (h : Simple v n) : Cs v n = 0 ∨ Cs v n = 1 := by
  obtain ⟨k, _, hk⟩ := east h
  rw [Cs_east h hk]
  exact co_01 (adj_at h k)
theorem Cs_turn {v : Nat → Pt} {n : Nat} (h : Simple v n) {k : Nat} (hk : ∀ j, (v j).1 ≤ (v k).1) :
    (0 < tw (v (k + n - 1)) (v k) (v (k + 1)) → Cs v n = 1) ∧ (tw (v (k + n - 1)) (v k) (v (k + 1)) < 0 → Cs v n = 0) := by
  rw [Cs_east h hk]
  exact co_east (adj_at h k) (hk _) (hk _)

/-- strictly between the ends of a line -/
def In (a b x : Pt) : Prop := tw a b x = 0 ∧ ((a.2 < x.2 ∧ x.2 < b.2) ∨ (b.2 < x.2 ∧ x.2 < a.2) ∨ (a.2 = b.2 ∧ x.2 = a.2 ∧ ((a.1 < x.1 ∧ x.1 < b.1) ∨ (b.1 < x.1 ∧ x.1 < a.1))))
theorem on_in {a b x : Pt} (h : on a b x) : x = a ∨ x = b ∨ In a b x := by
  obtain ⟨h0, h1, h2, h3, h4⟩ := h
  by_cases e : a.2 = b.2
  · by_cases ea : x.1 = a.1
    · exact .inl (Prod.ext ea (by omega))
    · by_cases eb : x.1 = b.1
      · exact .inr (.inl (Prod.ext eb (by omega)))
      · exact .inr (.inr ⟨h0, by omega⟩)
  · have lev : ∀ q : Pt, tw a b q = 0 → x.2 = q.2 → x = q := by
      intro q hq hpq
      have : (b.2 - a.2) * (x.1 - q.1) = 0 := by unfold tw at h0 hq; rw [hpq] at h0; grind
      have := mz this (by omega)
      exact Prod.ext (by omega) hpq
    by_cases ea : x.2 = a.2
    · exact .inl (lev a (on_left a b).1 ea)
    · by_cases eb : x.2 = b.2
      · exact .inr (.inl (lev b (on_right a b).1 eb))
      · exact .inr (.inr ⟨h0, by omega⟩)
theorem in_on {a b x : Pt} (h : In a b x) : on a b x := by
  obtain ⟨h0, h1⟩ := h
  by_cases e : a.2 = b.2
  · exact ⟨h0, by omega, by omega, by omega, by omega⟩
  · exact on_of_level a b x h0 (by omega) e
theorem in_ne {a b x : Pt} (h : In a b x) : x ≠ a ∧ x ≠ b ∧ a ≠ b := by
  obtain ⟨h0, h1⟩ := h
  exact ⟨fun e => by subst e; omega, fun e => by subst e; omega, fun e => by subst e; omega⟩
/-- the line before a point in the middle: the same side as the corner behind -/
theorem tw_part1 {a b c x : Pt} (h : tw b c x = 0) : tw a b x * (c.1 - b.1) = tw a b c * (x.1 - b.1) := by
  have : tw a b x * (c.1 - b.1) - tw a b c * (x.1 - b.1) = (b.1 - a.1) * tw b c x := by unfold tw; grind
  rw [h] at this; omega
theorem in_side {a b c x : Pt} (h : In b c x) : (0 < tw a b x ↔ 0 < tw a b c) ∧ (tw a b x < 0 ↔ tw a b c < 0) := by
  obtain ⟨h0, h1⟩ := h
  by_cases e : b.2 = c.2
  · exact sign_eq (tw_part1 (a := a) h0) (by omega)
  · exact sign_eq (tw_part (a := a) h0) (by omega)
theorem in_swap {a b x : Pt} (h : In a b x) : In b a x := by
  unfold In at *
  rw [tw_swap a b x]
  omega
theorem co_in {a b c x : Pt} (h : adj a b c) (hm : In b c x) : rh b x a + cr a b x = rh b c a + cr a b c := by
  by_cases e : b.2 = c.2
  · have hs := in_side (a := a) hm
    have h2 : x.2 = b.2 := by have := hm.2; omega
    have r1 : rh b x a = 0 := by unfold rh; rw [h2, if_neg (by omega), if_neg (by omega)]
    have r2 : rh b c a = 0 := by unfold rh; rw [← e, if_neg (by omega), if_neg (by omega)]
    rw [r1, r2]
    unfold cr
    rw [h2, ← e]
    clear h hm r1 r2 h2 e
    generalize tw a b x = X at *
    generalize tw a b c = T at *
    (repeat' split) <;> omega
  · exact co_mid h ⟨hm.1, by have := hm.2; omega⟩
/-- the first part of a line stays away from the next line -/
theorem near_next {a b c x : Pt} (ht : tw a b c ≠ 0) (hx : In a b x) : ¬ meets a x b c := by
  have n1 : tw b c x ≠ 0 := by
    have := in_side (a := c) (in_swap hx)
    have e1 := tw_rot x b c
    have e2 : tw c b x = - tw b c x := tw_swap b c x
    have e3 : tw c b a = - tw a b c := by rw [tw_swap b c a, tw_rot a b c]
    omega
  have n2 : tw b c a ≠ 0 := by rw [tw_rot]; exact ht
  have zb : tw a x b = 0 := by
    have := hx.1
    have e : tw a x b = - tw a b x := by unfold tw; grind
    omega
  have nx := in_ne hx
  intro h
  rcases h with h | h | h | h | ⟨h, _⟩
  · exact n2 h.1
  · exact n1 h.1
  · have hb := on_part (in_on hx) h
    have hx' := hx.2
    obtain ⟨g0, g1, g2, g3, g4⟩ := h
    omega
  · have := (on_part (in_on hx) h).1
    exact ht this
  · rw [zb, Int.zero_mul] at h; omega
/-- lines apart from line k -/
theorem far_line {v : Nat → Pt} {n : Nat} (h : Poly v n) {k j : Nat} (h1 : k + 1 < j) (h2 : j + 2 ≤ k + n) : ¬ meets (v k) (v (k + 1)) (v j) (v (j + 1)) := h.apart k j (by omega) h2
/-- WHAT IS LEFT OF A LINE at a point in its middle -/
theorem mid_sum {v : Nat → Pt} {n : Nat} (h : Poly v n) (k : Nat) {x : Pt} (hx : In (v k) (v (k + 1)) x) :
    Ot v n k x + cr (v (k + n - 1)) (v k) x = Cs v n - up (v k) (v (k + 1)) := by
  have h3 := h.three
  have hc := Cs_at h.toSimple k
  have hm := co_in (adj_at h.toSimple k) hx
  unfold co at hc
  have hT : Ot v n k x - Ot v n k (v k) = rh (v k) x (v (k + n - 1)) - rh (v k) x (v (k + 1)) := by
    obtain ⟨m, rfl⟩ : ∃ m, n = m + 3 := ⟨n - 3, by omega⟩
    unfold Ot
    rw [← sm_sub]
    have ht := sm_tele (fun j => rh (v k) x (v (k + 1 + j))) (m + 1)
    simp only [Nat.add_zero] at ht
    rw [show k + (m + 3) - 1 = k + 1 + (m + 1) by omega, ← ht]
    refine sm_congr fun j hj => ?_
    rw [show k + 1 + (j + 1) = k + 2 + j by omega]
    refine cell (v k) x (v (k + 1 + j)) (v (k + 2 + j)) ?_
    by_cases e : j = 0
    · subst e
      exact near_next (h.turn k) hx
    · intro w
      have := meets_part (in_on hx) w
      rw [show k + 2 + j = k + 1 + j + 1 by omega] at this
      exact far_line h (by omega) (by omega) this
  have z : rh (v k) x (v (k + 1)) = 0 := by
    have zb : tw (v k) x (v (k + 1)) = 0 := by
      have := hx.1
      have e : tw (v k) x (v (k + 1)) = - tw (v k) (v (k + 1)) x := by unfold tw; grind
      omega
    unfold rh
    rw [zb, if_neg (by omega), if_neg (by omega)]
  omega
/-- at a point on a line, counted to the one side -/
theorem WN_in {v : Nat → Pt} {n : Nat} (h : Poly v n) (k : Nat) {x : Pt} (hx : In (v k) (v (k + 1)) x) : WN v n x = Cs v n - up (v k) (v (k + 1)) := by
  have := mid_sum h k hx
  have w := WN_at h.toSimple k x
  have z : cr (v k) (v (k + 1)) x = 0 := by unfold cr; rw [hx.1, if_neg (by omega), if_neg (by omega)]
  omega
theorem cr_left (a b : Pt) : cr a b a = 0 := by unfold cr; rw [(on_left a b).1, if_neg (by omega), if_neg (by omega)]
theorem cr_right (a b : Pt) : cr a b b = 0 := by unfold cr; rw [(on_right a b).1, if_neg (by omega), if_neg (by omega)]
theorem WN_corner {v : Nat → Pt} {n : Nat} (h : Poly v n) (k : Nat) : WN v n (v k) = Cs v n - co (v (k + n - 1)) (v k) (v (k + 1)) := by
  have w := WN_at h.toSimple k (v k)
  have := Cs_at h.toSimple k
  rw [cr_left, cr_right] at w
  omega
end Go.Proofs.Ytieimijkkjhegaa.MJ
/- plain mathematics: how often a polygon goes round a point -/
namespace Go.Proofs.Ytieimijkkjhegaa.MJ
set_option linter.unusedVariables false
set_option linter.unusedSimpArgs false
/-- on the lines of a polygon -/
def Bd (v : Nat → Pt) (x : Pt) : Prop := ∃ k, on (v k) (v (k + 1)) x
/-- moving level changes nothing as long as the line is not met -/
theorem cr_level {x p c d : Pt} (hl : x.2 = p.2) (h : ¬ meets x p c d) : cr c d p = cr c d x := by
  have := cell x p c d h
  have r1 : ∀ z, rh x p z = 0 := fun z => by unfold rh; rw [hl, if_neg (by omega), if_neg (by omega)]
  rw [r1, r1] at this
  omega
/-- all crossings with the level of a point are whole -/
def Whole (v : Nat → Pt) (p : Pt) : Prop := ∀ k, ((v k).2 < p.2 ∧ p.2 < (v (k + 1)).2) ∨ ((v (k + 1)).2 < p.2 ∧ p.2 < (v k).2) → ∃ y : Int, tw (v k) (v (k + 1)) (y, p.2) = 0
/-- the nearest point of the lines to the east -/
structure Near (v : Nat → Pt) (p x : Pt) : Prop where
  bd : Bd v x
  lev : x.2 = p.2
  lt : p.1 < x.1
  min : ∀ y, Bd v y → y.2 = p.2 → p.1 < y.1 → x.1 ≤ y.1
theorem near_or (v : Nat → Pt) (p : Pt) : (∃ x, Near v p x) ∨ ∀ y, Bd v y → y.2 = p.2 → ¬ p.1 < y.1 := by
  by_cases h : ∃ m : Nat, Bd v (p.1 + 1 + m, p.2)
  · left
    have hm : ∀ n : Nat, (∃ m : Nat, m ≤ n ∧ Bd v (p.1 + 1 + m, p.2)) → ∃ m : Nat, Bd v (p.1 + 1 + m, p.2) ∧ ∀ k : Nat, Bd v (p.1 + 1 + k, p.2) → m ≤ k := by
      intro n
      induction n with
      | zero => intro ⟨m, h1, h2⟩; exact ⟨m, h2, fun k _ => by omega⟩
      | succ n ih =>
        intro ⟨m, h1, h2⟩
        by_cases hc : ∃ m : Nat, m ≤ n ∧ Bd v (p.1 + 1 + m, p.2)
        · exact ih hc
        · refine ⟨m, h2, fun k hk => ?_⟩
          have : ¬ k ≤ n := fun hkn => hc ⟨k, hkn, hk⟩
          omega
    obtain ⟨m, hb⟩ := h
    obtain ⟨m, hb, hmin⟩ := hm m ⟨m, Nat.le_refl _, hb⟩
    refine ⟨_, hb, rfl, by show p.1 < p.1 + 1 + (m : Int); omega, fun y hy hl hlt => ?_⟩
    have e : y = (p.1 + 1 + ((y.1 - p.1 - 1).toNat : Nat), p.2) := Prod.ext (by show y.1 = p.1 + 1 + ((y.1 - p.1 - 1).toNat : Int); omega) hl
    have := hmin (y.1 - p.1 - 1).toNat (e ▸ hy)
    show p.1 + 1 + (m : Int) ≤ y.1
    omega
  · right
    intro y hy hl hlt
    refine h ⟨(y.1 - p.1 - 1).toNat, ?_⟩
    have e : y = (p.1 + 1 + ((y.1 - p.1 - 1).toNat : Nat), p.2) := Prod.ext (by show y.1 = p.1 + 1 + ((y.1 - p.1 - 1).toNat : Int); omega) hl
    exact e ▸ hy
theorem tw_lev (c d : Pt) (y : Int) (p : Pt) (h : tw c d (y, p.2) = 0) : tw c d p = (d.2 - c.2) * (y - p.1) := by
  unfold tw at *; grind
/-- between a point and the nearest point of the lines no line is met -/
theorem near_clear {v : Nat → Pt} {p x : Pt} (hN : Near v p x) (hp : ¬ Bd v p) (hw : Whole v p) {k : Nat} (hk : ¬ on (v k) (v (k + 1)) x) : ¬ meets x p (v k) (v (k + 1)) := by
  have bx : ∀ c, Bd v c → on x p c → c = x := by
    intro c hc ⟨h0, h1, h2, h3, h4⟩
    have e2 : c.2 = p.2 := by have := hN.lev; omega
    have hlt := hN.lt
    by_cases e : c.1 = p.1
    · exact absurd ((Prod.ext e e2 : c = p) ▸ hc) hp
    · have := hN.min c hc e2 (by omega)
      exact Prod.ext (by omega) (by rw [e2, hN.lev])
  have bc : Bd v (v k) := ⟨k, on_left _ _⟩
  have bd : Bd v (v (k + 1)) := ⟨k, on_right _ _⟩
  intro h
  rcases h with h | h | h | h | ⟨h, g⟩
  · exact hk h
  · exact hp ⟨k, h⟩
  · exact hk (bx _ bc h ▸ on_left _ _)
  · exact hk (bx _ bd h ▸ on_right _ _)
  · have hlev := hN.lev
    have hlt := hN.lt
    have t : ∀ z : Pt, tw x p z = (x.1 - p.1) * (x.2 - z.2) := fun z => by unfold tw; rw [hlev]; grind
    rw [mul_neg_iff, t, t] at h
    have s1 := signs (x.1 - p.1) (x.2 - (v k).2)
    have s2 := signs (x.1 - p.1) (x.2 - (v (k + 1)).2)
    have cross : ((v k).2 < p.2 ∧ p.2 < (v (k + 1)).2) ∨ ((v (k + 1)).2 < p.2 ∧ p.2 < (v k).2) := by
      generalize (x.1 - p.1) * (x.2 - (v k).2) = m1 at *
      generalize (x.1 - p.1) * (x.2 - (v (k + 1)).2) = m2 at *
      omega
    obtain ⟨y, hy⟩ := hw k cross
    have e1 := tw_lev _ _ y p hy
    have e2 := tw_lev _ _ y x (by rw [hlev]; exact hy)
    rw [mul_neg_iff, e1, e2] at g
    have k1 := signs ((v (k + 1)).2 - (v k).2) (y - p.1)
    have k2 := signs ((v (k + 1)).2 - (v k).2) (y - x.1)
    have hb : Bd v (y, p.2) := ⟨k, on_of_level _ _ _ hy (by show ((v k).2 ≤ p.2 ∧ p.2 ≤ (v (k + 1)).2) ∨ _; simp only []; omega) (by omega)⟩
    have hmin := hN.min (y, p.2) hb rfl
    simp only [] at hmin
    clear t h s1 s2
    generalize ((v (k + 1)).2 - (v k).2) * (y - p.1) = m1 at *
    generalize ((v (k + 1)).2 - (v k).2) * (y - x.1) = m2 at *
    omega
/-- a corner is on no other line -/
theorem corner_off {v : Nat → Pt} {n : Nat} (h : Poly v n) (k : Nat) {j : Nat} (h1 : k + 1 ≤ j) (h2 : j + 2 ≤ k + n) : ¬ on (v j) (v (j + 1)) (v k) := by
  intro w
  by_cases e : j = k + 1
  · subst e
    have := w.1
    rw [tw_rot] at this
    exact h.turn k this
  · exact far_line h (by omega) h2 (.inl w)
/-- the middle of a line is on no other line -/
theorem mid_off {v : Nat → Pt} {n : Nat} (h : Poly v n) (k : Nat) {x : Pt} (hx : In (v k) (v (k + 1)) x) {j : Nat} (h1 : k + 1 ≤ j) (h2 : j + 1 ≤ k + n) : ¬ on (v j) (v (j + 1)) x := by
  have h3 := h.three
  intro w
  by_cases e : j = k + 1
  · subst e
    have hs := in_side (a := v (k + 2)) (in_swap hx)
    have e1 : tw (v (k + 2)) (v (k + 1)) x = - tw (v (k + 1)) (v (k + 2)) x := tw_swap _ _ _
    have e2 : tw (v (k + 2)) (v (k + 1)) (v k) = - tw (v k) (v (k + 1)) (v (k + 2)) := by rw [tw_swap (v (k + 1)) (v (k + 2)), tw_rot]
    have := h.turn k
    have := w.1
    rw [show k + 1 + 1 = k + 2 from rfl] at this
    omega
  · by_cases e' : j + 1 = k + n
    · have hs := in_side (a := v (k + n - 1)) hx
      have ht := turn_at h k
      have := w.1
      rw [e', h.per, show j = k + n - 1 by omega] at this
      omega
    · exact far_line h (by omega) (by omega) (share (in_on hx) w)
/-- HOW OFTEN: a polygon goes round a point off its lines never, or once to its one side -/
theorem WN_off {v : Nat → Pt} {n : Nat} (h : Poly v n) {p : Pt} (hp : ¬ Bd v p) (hw : Whole v p) : WN v n p = 0 ∨ WN v n p = Cs v n ∨ WN v n p = Cs v n - 1 := by
  have h3 := h.three
  rcases near_or v p with ⟨x, hN⟩ | hno
  · right
    have ot : ∀ k, (∀ j, k + 1 ≤ j → j + 2 ≤ k + n → ¬ on (v j) (v (j + 1)) x) → Ot v n k p = Ot v n k x := by
      intro k hk
      unfold Ot
      refine sm_congr fun j hj => cr_level hN.lev ?_
      have := hk (k + 1 + j) (by omega) (by omega)
      rw [show k + 1 + j + 1 = k + 2 + j by omega] at this
      have := near_clear hN hp hw (k := k + 1 + j) (by rw [show k + 1 + j + 1 = k + 2 + j by omega]; exact this)
      rwa [show k + 1 + j + 1 = k + 2 + j by omega] at this
    have corner : ∀ k, x = v k → WN v n p = Cs v n ∨ WN v n p = Cs v n - 1 := by
      intro k e
      subst e
      have o := ot k (fun j h1 h2 => corner_off h k h1 h2)
      have c := Cs_at h.toSimple k
      have w := WN_at h.toSimple k p
      have := co_west (adj_at h.toSimple k) hN.lev.symm hN.lt
      omega
    obtain ⟨k, hk⟩ := hN.bd
    rcases on_in hk with e | e | hx
    · exact corner k e
    · exact corner (k + 1) e
    · have o := ot k (fun j h1 h2 => mid_off h k hx h1 (by omega))
      have m := mid_sum h k hx
      have w := WN_at h.toSimple k p
      have l : cr (v (k + n - 1)) (v k) p = cr (v (k + n - 1)) (v k) x := by
        have := mid_off h k hx (j := k + n - 1) (by omega) (by omega)
        have := near_clear hN hp hw this
        rw [show k + n - 1 + 1 = k + n by omega, h.per] at this
        exact cr_level hN.lev this
      have hlev := hN.lev
      have hlt := hN.lt
      by_cases e : (v k).2 = (v (k + 1)).2
      · exfalso
        have h2 := hx.2
        have bc : Bd v (v k) := ⟨k, on_left _ _⟩
        have bd : Bd v (v (k + 1)) := ⟨k, on_right _ _⟩
        have m1 := hN.min _ bc (by omega)
        have m2 := hN.min _ bd (by omega)
        refine hp ⟨k, ?_, by omega, by omega, by omega, by omega⟩
        unfold tw; rw [← e, show p.2 = (v k).2 by omega]; grind
      · have t : tw (v k) (v (k + 1)) p = ((v (k + 1)).2 - (v k).2) * (x.1 - p.1) := tw_lev _ _ x.1 p (by rw [← hlev]; exact hx.1)
        have s := signs ((v (k + 1)).2 - (v k).2) (x.1 - p.1)
        have h2 := hx.2
        have cu : cr (v k) (v (k + 1)) p = 2 * up (v k) (v (k + 1)) - 1 := by
          unfold cr up
          rw [t]
          generalize ((v (k + 1)).2 - (v k).2) * (x.1 - p.1) = M at *
          (repeat' split) <;> omega
        have := up_01 (v k) (v (k + 1))
        omega
  · left
    refine sm_zero fun j _ => ?_
    have bc : Bd v (v j) := ⟨j, on_left _ _⟩
    have bd : Bd v (v (j + 1)) := ⟨j, on_right _ _⟩
    have n1 := hno _ bc
    have n2 := hno _ bd
    have hy : ((v j).2 < p.2 ∧ p.2 < (v (j + 1)).2) ∨ ((v (j + 1)).2 < p.2 ∧ p.2 < (v j).2) → ∃ y : Int, y ≤ p.1 ∧ tw (v j) (v (j + 1)) p = ((v (j + 1)).2 - (v j).2) * (y - p.1) := by
      intro hc
      obtain ⟨y, hy⟩ := hw j hc
      have hb : Bd v (y, p.2) := ⟨j, on_of_level _ _ _ hy (by simp only []; omega) (by omega)⟩
      have := hno _ hb rfl
      simp only [] at this
      exact ⟨y, by omega, tw_lev _ _ y p hy⟩
    have t1 : (v j).2 = p.2 → tw (v j) (v (j + 1)) p = ((v (j + 1)).2 - (v j).2) * ((v j).1 - p.1) := fun e => by unfold tw; rw [← e]; grind
    have t2 : (v (j + 1)).2 = p.2 → tw (v j) (v (j + 1)) p = ((v (j + 1)).2 - (v j).2) * ((v (j + 1)).1 - p.1) := fun e => by unfold tw; rw [← e]; grind
    have key : ∀ z : Int, z ≤ p.1 → tw (v j) (v (j + 1)) p = ((v (j + 1)).2 - (v j).2) * (z - p.1) → cr (v j) (v (j + 1)) p = 0 := by
      intro z hz ht
      have a1 := Int.mul_nonneg (a := (v (j + 1)).2 - (v j).2) (b := p.1 - z)
      have a2 := Int.mul_nonneg (a := (v j).2 - (v (j + 1)).2) (b := p.1 - z)
      have b1 : ((v (j + 1)).2 - (v j).2) * (p.1 - z) = - tw (v j) (v (j + 1)) p := by rw [ht]; grind
      have b2 : ((v j).2 - (v (j + 1)).2) * (p.1 - z) = tw (v j) (v (j + 1)) p := by rw [ht]; grind
      rw [b1] at a1
      rw [b2] at a2
      unfold cr
      clear ht b1 b2 t1 t2 hy
      (repeat' split) <;> omega
    by_cases c1 : (v j).2 = p.2
    · exact key _ (by have := n1 c1; omega) (t1 c1)
    · by_cases c2 : (v (j + 1)).2 = p.2
      · exact key _ (by have := n2 c2; omega) (t2 c2)
      · by_cases c3 : ((v j).2 < p.2 ∧ p.2 < (v (j + 1)).2) ∨ ((v (j + 1)).2 < p.2 ∧ p.2 < (v j).2)
        · obtain ⟨y, h1, h2⟩ := hy c3
          exact key y h1 h2
        · unfold cr
          rw [if_neg (by omega), if_neg (by omega)]
def sc (M : Int) (p : Pt) : Pt := (M * p.1, M * p.2)
theorem tw_sc (M : Int) (a b c : Pt) : tw (sc M a) (sc M b) (sc M c) = M * M * tw a b c := by unfold tw sc; grind
theorem sc_lt {M : Int} (hM : 0 < M) (x y : Int) : M * x < M * y ↔ x < y := ⟨fun h => Int.lt_of_mul_lt_mul_left h (Int.le_of_lt hM), fun h => Int.mul_lt_mul_of_pos_left h hM⟩
theorem sc_le {M : Int} (hM : 0 < M) (x y : Int) : M * x ≤ M * y ↔ x ≤ y := by
  have := sc_lt hM y x
  omega
theorem sc_inj {M : Int} (hM : 0 < M) {p q : Pt} (h : sc M p = sc M q) : p = q := by
  have h1 : M * p.1 = M * q.1 := congrArg Prod.fst h
  have h2 : M * p.2 = M * q.2 := congrArg Prod.snd h
  exact Prod.ext (Int.eq_of_mul_eq_mul_left (by omega) h1) (Int.eq_of_mul_eq_mul_left (by omega) h2)
theorem mm_pos {M : Int} (hM : 0 < M) : 0 < M * M := Int.mul_pos hM hM
theorem tw_sc_pos {M : Int} (hM : 0 < M) (a b c : Pt) : 0 < tw (sc M a) (sc M b) (sc M c) ↔ 0 < tw a b c := by
  rw [tw_sc]
  have := mm_pos hM
  constructor
  · intro h; rw [Int.mul_comm] at h; exact pos_of_mul h this
  · intro h; exact Int.mul_pos this h
theorem tw_sc_neg {M : Int} (hM : 0 < M) (a b c : Pt) : tw (sc M a) (sc M b) (sc M c) < 0 ↔ tw a b c < 0 := by
  have := tw_sc_pos hM b a c
  rw [tw_swap (sc M a) (sc M b), tw_swap a b] at this
  omega
theorem tw_sc_zero {M : Int} (hM : 0 < M) (a b c : Pt) : tw (sc M a) (sc M b) (sc M c) = 0 ↔ tw a b c = 0 := by
  have h1 := tw_sc_pos hM a b c
  have h2 := tw_sc_neg hM a b c
  omega
theorem cr_sc {M : Int} (hM : 0 < M) (a b p : Pt) : cr (sc M a) (sc M b) (sc M p) = cr a b p := by
  unfold cr
  simp only [tw_sc_pos hM, tw_sc_neg hM, show ∀ q, (sc M q).2 = M * q.2 from fun _ => rfl, sc_le hM, sc_lt hM]
theorem rh_sc {M : Int} (hM : 0 < M) (a b p : Pt) : rh (sc M a) (sc M b) (sc M p) = rh a b p := by
  unfold rh
  simp only [tw_sc_pos hM, tw_sc_neg hM, show ∀ q, (sc M q).2 = M * q.2 from fun _ => rfl, sc_le hM, sc_lt hM]
theorem up_sc {M : Int} (hM : 0 < M) (a b : Pt) : up (sc M a) (sc M b) = up a b := by
  unfold up
  simp only [show ∀ q, (sc M q).2 = M * q.2 from fun _ => rfl, show ∀ q, (sc M q).1 = M * q.1 from fun _ => rfl, sc_lt hM]
theorem on_sc {M : Int} (hM : 0 < M) (a b p : Pt) : on (sc M a) (sc M b) (sc M p) ↔ on a b p := by
  unfold on
  rw [tw_sc_zero hM]
  have k : ∀ x y z : Int, (min (M * x) (M * y) ≤ M * z ↔ min x y ≤ z) ∧ (M * z ≤ max (M * x) (M * y) ↔ z ≤ max x y) := by
    intro x y z
    have a1 := sc_le hM x z
    have a2 := sc_le hM y z
    have a3 := sc_le hM z x
    have a4 := sc_le hM z y
    omega
  have k1 := k a.1 b.1 p.1
  have k2 := k a.2 b.2 p.2
  show (_ ∧ min (M * a.1) (M * b.1) ≤ M * p.1 ∧ M * p.1 ≤ max (M * a.1) (M * b.1) ∧ min (M * a.2) (M * b.2) ≤ M * p.2 ∧ M * p.2 ≤ max (M * a.2) (M * b.2)) ↔ _
  rw [k1.1, k1.2, k2.1, k2.2]
theorem meets_sc {M : Int} (hM : 0 < M) (a b c d : Pt) : meets (sc M a) (sc M b) (sc M c) (sc M d) ↔ meets a b c d := by
  unfold meets
  rw [on_sc hM, on_sc hM, on_sc hM, on_sc hM]
  have : ∀ x y : Int, M * M * x * (M * M * y) < 0 ↔ x * y < 0 := by
    intro x y
    have e : M * M * x * (M * M * y) = (M * M) * (M * M) * (x * y) := by grind
    rw [e]
    have h := mm_pos (mm_pos hM)
    have := signs (M * M * (M * M)) (x * y)
    generalize M * M * (M * M) * (x * y) = m at *
    omega
  rw [tw_sc, tw_sc, tw_sc, tw_sc, this, this]
theorem adj_sc {M : Int} (hM : 0 < M) {a b c : Pt} (h : adj a b c) : adj (sc M a) (sc M b) (sc M c) := by
  obtain ⟨h1, h2, h3⟩ := h
  refine ⟨fun e => h1 (sc_inj hM e), fun e => h2 (sc_inj hM e), fun e => ?_⟩
  have := h3 ((tw_sc_zero hM _ _ _).1 e)
  have e2 : ∀ q : Pt, (sc M q).2 = M * q.2 := fun _ => rfl
  have e1 : ∀ q : Pt, (sc M q).1 = M * q.1 := fun _ => rfl
  rw [e2, e2, e2, e1, e1, e1, sc_lt hM, sc_lt hM, sc_lt hM, sc_lt hM, sc_lt hM, sc_lt hM, sc_lt hM, sc_lt hM]
  rcases this with h | h | ⟨h, h', h''⟩
  · exact .inl h
  · exact .inr (.inl h)
  · exact .inr (.inr ⟨by rw [h], by rw [h'], h''⟩)
theorem poly_sc {M : Int} (hM : 0 < M) {v : Nat → Pt} {n : Nat} (h : Poly v n) : Poly (fun i => sc M (v i)) n :=
  { three := h.three
    per := fun i => by rw [h.per]
    adj := fun i => adj_sc hM (h.adj i)
    apart := fun i j h1 h2 w => h.apart i j h1 h2 ((meets_sc hM _ _ _ _).1 w)
    turn := fun i w => h.turn i ((tw_sc_zero hM _ _ _).1 w) }
theorem Cs_sc {M : Int} (hM : 0 < M) (v : Nat → Pt) (n : Nat) : Cs (fun i => sc M (v i)) n = Cs v n := by
  unfold Cs Ck Fk
  simp only [cr_sc hM, rh_sc hM, up_sc hM]
theorem WN_sc {M : Int} (hM : 0 < M) (v : Nat → Pt) (n : Nat) (p : Pt) : WN (fun i => sc M (v i)) n (sc M p) = WN v n p := by
  unfold WN
  simp only [cr_sc hM]
theorem Bd_sc {M : Int} (hM : 0 < M) (v : Nat → Pt) (p : Pt) : Bd (fun i => sc M (v i)) (sc M p) ↔ Bd v p := by
  unfold Bd
  simp only [on_sc hM]
/-- a number that all heights divide -/
theorem heights {v : Nat → Pt} {n : Nat} (h : Simple v n) : ∃ M : Int, 0 < M ∧ ∀ k, (v (k + 1)).2 - (v k).2 ≠ 0 → ((v (k + 1)).2 - (v k).2) ∣ M := by
  have h3 := h.three
  have : ∀ m : Nat, ∃ M : Int, 0 < M ∧ ∀ k, k < m → (v (k + 1)).2 - (v k).2 ≠ 0 → ((v (k + 1)).2 - (v k).2) ∣ M := by
    intro m
    induction m with
    | zero => exact ⟨1, by omega, fun k hk => by omega⟩
    | succ m ih =>
      obtain ⟨M, hM, hd⟩ := ih
      by_cases e : (v (m + 1)).2 - (v m).2 = 0
      · refine ⟨M, hM, fun k hk he => ?_⟩
        by_cases ek : k = m
        · subst ek; exact absurd e he
        · exact hd k (by omega) he
      · have step : ∀ f : Int, 0 < f → ((v (m + 1)).2 - (v m).2) ∣ f → ∃ M : Int, 0 < M ∧ ∀ k, k < m + 1 → (v (k + 1)).2 - (v k).2 ≠ 0 → ((v (k + 1)).2 - (v k).2) ∣ M := by
          intro f hf hfd
          refine ⟨M * f, Int.mul_pos hM hf, fun k hk he => ?_⟩
          by_cases ek : k = m
          · subst ek; exact Int.dvd_trans hfd (Int.dvd_mul_left _ _)
          · exact Int.dvd_trans (hd k (by omega) he) (Int.dvd_mul_right _ _)
        by_cases hp : 0 < (v (m + 1)).2 - (v m).2
        · exact step _ hp (Int.dvd_refl _)
        · exact step (-((v (m + 1)).2 - (v m).2)) (by omega) ⟨-1, by omega⟩
  obtain ⟨M, hM, hd⟩ := this n
  refine ⟨M, hM, fun k he => ?_⟩
  have e1 : v k = v (k % n) := per_mod h.per k
  have e2 : v (k + 1) = v (k % n + 1) := by
    rw [per_mod h.per (k + 1), per_mod h.per (k % n + 1), Nat.mod_add_mod]
  rw [e1, e2] at he ⊢
  exact hd _ (Nat.mod_lt _ (by omega)) he
/-- JORDAN: off its lines a polygon goes round a point never, or once to its one side -/
theorem jordan {v : Nat → Pt} {n : Nat} (h : Poly v n) {p : Pt} (hp : ¬ Bd v p) : WN v n p = 0 ∨ WN v n p = Cs v n ∨ WN v n p = Cs v n - 1 := by
  obtain ⟨M, hM, hd⟩ := heights h.toSimple
  have k := WN_off (poly_sc hM h) (p := sc M p) (fun w => hp ((Bd_sc hM v p).1 w)) (by
    intro k hc
    have hc' : (v (k + 1)).2 - (v k).2 ≠ 0 := by
      intro e
      have e' : (v (k + 1)).2 = (v k).2 := by omega
      simp only [sc, e'] at hc
      omega
    obtain ⟨q, hq⟩ := hd k hc'
    refine ⟨M * (v k).1 + q * ((v (k + 1)).1 - (v k).1) * (p.2 - (v k).2), ?_⟩
    unfold tw sc
    simp only []
    grind)
  rw [WN_sc hM, Cs_sc hM] at k
  exact k
end Go.Proofs.Ytieimijkkjhegaa.MJ
/- plain mathematics: once around, and areas -/
namespace Go.Proofs.Ytieimijkkjhegaa.MJ
set_option linter.unusedVariables false
set_option linter.unusedSimpArgs false
def ng (p : Pt) : Pt := (-p.1, -p.2)
theorem tw_ng (a b c : Pt) : tw (ng a) (ng b) (ng c) = tw a b c := by unfold tw ng; grind
theorem cr_ng (a b p : Pt) : cr (ng a) (ng b) (ng p) = rh a b p := by
  unfold cr rh
  rw [tw_ng]
  simp only [ng]
  (repeat' split) <;> omega
theorem rh_ng (a b p : Pt) : rh (ng a) (ng b) (ng p) = cr a b p := by
  unfold cr rh
  rw [tw_ng]
  simp only [ng]
  (repeat' split) <;> omega
theorem up_ng {a b : Pt} (h : a ≠ b) : up (ng a) (ng b) = 1 - up a b := by
  have e : a.2 = b.2 → a.1 ≠ b.1 := fun e e' => h (Prod.ext e' e)
  unfold up ng
  simp only []
  (repeat' split) <;> omega
theorem ng_ng (p : Pt) : ng (ng p) = p := Prod.ext (by simp [ng]) (by simp [ng])
theorem ng_inj {a b : Pt} (h : ng a = ng b) : a = b := by rw [← ng_ng a, h, ng_ng]
theorem on_ng {a b p : Pt} : on (ng a) (ng b) (ng p) ↔ on a b p := by
  unfold on
  rw [tw_ng]
  simp only [ng]
  omega
theorem in_ng {a b p : Pt} (h : In a b p) : In (ng a) (ng b) (ng p) := by
  unfold In at *
  rw [tw_ng]
  simp only [ng]
  omega
theorem meets_ng {a b c d : Pt} : meets (ng a) (ng b) (ng c) (ng d) ↔ meets a b c d := by
  unfold meets
  rw [on_ng, on_ng, on_ng, on_ng, tw_ng, tw_ng, tw_ng, tw_ng]
theorem adj_ng {a b c : Pt} (h : adj a b c) : adj (ng a) (ng b) (ng c) := by
  obtain ⟨h1, h2, h3⟩ := h
  refine ⟨fun e => h1 (ng_inj e), fun e => h2 (ng_inj e), fun e => ?_⟩
  rw [tw_ng] at e
  have := h3 e
  simp only [ng]
  omega
theorem simple_ng {v : Nat → Pt} {n : Nat} (h : Simple v n) : Simple (fun i => ng (v i)) n :=
  { three := h.three
    per := fun i => by rw [h.per]
    adj := fun i => adj_ng (h.adj i)
    apart := fun i j h1 h2 w => h.apart i j h1 h2 (meets_ng.1 w) }
theorem poly_ng {v : Nat → Pt} {n : Nat} (h : Poly v n) : Poly (fun i => ng (v i)) n :=
  { toSimple := simple_ng h.toSimple
    turn := fun i w => h.turn i (by rw [tw_ng] at w; exact w) }
/-- a corner's own part, told from the other end -/
theorem co_ng {a b c : Pt} (h : adj a b c) : co (ng a) (ng b) (ng c) = co a b c - up a b - up b c + 1 := by
  have l := local_ a b c h
  unfold co
  rw [cr_ng, rh_ng, up_ng h.2.1]
  omega
/-- the northern corner, of several the western one -/
theorem north {v : Nat → Pt} {n : Nat} (h : Simple v n) : ∃ k, ∀ j, (v j).2 < (v k).2 ∨ ((v j).2 = (v k).2 ∧ (v k).1 ≤ (v j).1) := by
  have h3 := h.three
  have : ∀ m, 0 < m → ∃ k, k < m ∧ ∀ j, j < m → (v j).2 < (v k).2 ∨ ((v j).2 = (v k).2 ∧ (v k).1 ≤ (v j).1) := by
    intro m
    induction m with
    | zero => intro h; omega
    | succ m ih =>
      intro _
      by_cases h0 : m = 0
      · subst h0; exact ⟨0, by omega, fun j hj => by rw [show j = 0 by omega]; omega⟩
      · obtain ⟨k, hk, hm⟩ := ih (by omega)
        by_cases hc : (v m).2 < (v k).2 ∨ ((v m).2 = (v k).2 ∧ (v k).1 ≤ (v m).1)
        · refine ⟨k, by omega, fun j hj => ?_⟩
          by_cases hj' : j = m
          · subst hj'; exact hc
          · exact hm j (by omega)
        · refine ⟨m, by omega, fun j hj => ?_⟩
          by_cases hj' : j = m
          · subst hj'; omega
          · have := hm j (by omega); omega
  obtain ⟨k, _, hm⟩ := this n (by omega)
  exact ⟨k, fun j => by rw [per_mod h.per j]; exact hm _ (Nat.mod_lt _ (by omega))⟩
/-- the side is the same from both ends -/
theorem Cs_ng {v : Nat → Pt} {n : Nat} (h : Simple v n) : Cs (fun i => ng (v i)) n = Cs v n := by
  obtain ⟨k, hk⟩ := north h
  rw [Cs_at h k, Cs_at (simple_ng h) k]
  have z1 : Ot v n k (v k) = 0 := sm_zero fun i _ => by
    have h1 := hk (k + 1 + i)
    have h2 := hk (k + 2 + i)
    unfold cr
    rw [if_neg (by omega), if_neg (by omega)]
  have z2 : Ot (fun i => ng (v i)) n k (ng (v k)) = 0 := sm_zero fun i _ => by
    have h1 := hk (k + 1 + i)
    have h2 := hk (k + 2 + i)
    show cr (ng (v (k + 1 + i))) (ng (v (k + 2 + i))) (ng (v k)) = 0
    rw [cr_ng]
    generalize v (k + 1 + i) = a at *
    generalize v (k + 2 + i) = b at *
    generalize v k = p at *
    have t1 : a.2 = p.2 → tw a b p = (a.1 - p.1) * (b.2 - p.2) := fun e => by unfold tw; rw [← e]; grind
    have t2 : b.2 = p.2 → tw a b p = (b.1 - p.1) * (p.2 - a.2) := fun e => by unfold tw; rw [← e]; grind
    unfold rh
    have s1 := signs (a.1 - p.1) (b.2 - p.2)
    have s2 := signs (b.1 - p.1) (p.2 - a.2)
    generalize (a.1 - p.1) * (b.2 - p.2) = m1 at *
    generalize (b.1 - p.1) * (p.2 - a.2) = m2 at *
    (repeat' split) <;> omega
  have ha := adj_at h k
  have h1 := hk (k + n - 1)
  have h2 := hk (k + 1)
  rw [z1]
  show Ot (fun i => ng (v i)) n k (ng (v k)) + co (ng (v (k + n - 1))) (ng (v k)) (ng (v (k + 1))) = _
  rw [z2, co_ng ha]
  have u1 : up (v (k + n - 1)) (v k) = 1 := by
    have e : (v (k + n - 1)).2 = (v k).2 → (v (k + n - 1)).1 ≠ (v k).1 := fun e e' => ha.1 (Prod.ext e' e)
    unfold up
    (repeat' split) <;> omega
  have u2 : up (v k) (v (k + 1)) = 0 := by
    unfold up
    (repeat' split) <;> omega
  omega
/-- the turns of a polygon, told by the level line -/
def Tn (v : Nat → Pt) (n : Nat) : Int := sm (fun k => co (v k) (v (k + 1)) (v (k + 2)) - up (v k) (v (k + 1))) n
theorem sm_neg (f : Nat → Int) (n : Nat) : sm (fun i => - f i) n = - sm f n := by
  induction n with
  | zero => rfl
  | succ n ih => simp only [sm]; omega
/-- ONCE AROUND: the directions of a polygon's lines turn once -/
theorem Tn_eq {v : Nat → Pt} {n : Nat} (h : Simple v n) : Tn v n = 2 * Cs v n - 1 := by
  have h3 := h.three
  obtain ⟨m, rfl⟩ : ∃ m, n = m + 3 := ⟨n - 3, by omega⟩
  -- H i: the lines i + 1 .. n - 1 at corner i
  have step : ∀ i, 1 ≤ i → i ≤ m + 1 →
      sm (fun t => cr (v (i + 2 + t)) (v (i + 3 + t)) (v (i + 1))) (m + 1 - i)
      = sm (fun t => cr (v (i + 1 + t)) (v (i + 2 + t)) (v i)) (m + 2 - i)
        + rh (v i) (v (i + 1)) (v 0) - (co (v i) (v (i + 1)) (v (i + 2)) - up (v i) (v (i + 1))) := by
    intro i h1 h2
    have e : m + 2 - i = m + 1 - i + 1 := by omega
    rw [e, sm_head]
    have hc : sm (fun t => cr (v (i + 2 + t)) (v (i + 3 + t)) (v (i + 1)) - cr (v (i + 2 + t)) (v (i + 3 + t)) (v i)) (m + 1 - i)
        = rh (v i) (v (i + 1)) (v 0) - rh (v i) (v (i + 1)) (v (i + 2)) := by
      have ht := sm_tele (fun t => rh (v i) (v (i + 1)) (v (i + 2 + t))) (m + 1 - i)
      simp only [Nat.add_zero] at ht
      have e0 : v (i + 2 + (m + 1 - i)) = v 0 := by
        rw [show i + 2 + (m + 1 - i) = 0 + (m + 3) by omega, h.per]
      rw [e0] at ht
      rw [← ht]
      refine sm_congr fun t ht => ?_
      have := cell (v i) (v (i + 1)) (v (i + 2 + t)) (v (i + 3 + t)) (by
        have := h.apart i (i + 2 + t) (by omega) (by omega)
        rwa [show i + 2 + t + 1 = i + 3 + t by omega] at this)
      rw [this, show i + 2 + (t + 1) = i + 3 + t by omega]
    rw [sm_sub] at hc
    have hl := local_ (v i) (v (i + 1)) (v (i + 2)) (h.adj i)
    have e2 : sm (fun t => cr (v (i + 1 + (t + 1))) (v (i + 2 + (t + 1))) (v i)) (m + 1 - i) = sm (fun t => cr (v (i + 2 + t)) (v (i + 3 + t)) (v i)) (m + 1 - i) :=
      sm_congr fun t _ => by rw [show i + 1 + (t + 1) = i + 2 + t by omega, show i + 2 + (t + 1) = i + 3 + t by omega]
    rw [e2]
    unfold co
    simp only [Nat.add_zero]
    omega
  have tele := sm_tele (fun i => sm (fun t => cr (v (i + 1 + 1 + t)) (v (i + 1 + 2 + t)) (v (i + 1))) (m + 1 - i)) (m + 1)
  have e : sm (fun i => sm (fun t => cr (v (i + 1 + 1 + 1 + t)) (v (i + 1 + 1 + 2 + t)) (v (i + 1 + 1))) (m + 1 - (i + 1)) - sm (fun t => cr (v (i + 1 + 1 + t)) (v (i + 1 + 2 + t)) (v (i + 1))) (m + 1 - i)) (m + 1)
      = sm (fun i => rh (v (i + 1)) (v (i + 2)) (v 0) - (co (v (i + 1)) (v (i + 2)) (v (i + 3)) - up (v (i + 1)) (v (i + 2)))) (m + 1) := by
    refine sm_congr fun i hi => ?_
    have s := step (i + 1) (by omega) (by omega)
    have e1 : m + 1 - (i + 1) = m - i := by omega
    have e2 : m + 2 - (i + 1) = m + 1 - i := by omega
    rw [e1, e2] at s
    rw [e1]
    simp only [show i + 1 + 1 + 1 = i + 3 from rfl, show i + 1 + 1 + 2 = i + 4 from rfl, show i + 1 + 1 = i + 2 from rfl] at s ⊢
    omega
  rw [e, sm_sub] at tele
  have z0 : ∀ f, sm f 0 = 0 := fun _ => rfl
  simp only [Nat.sub_self, z0, Nat.sub_zero, Nat.zero_add] at tele
  have c1 := Cs_at h 1
  have c0 := Cs_at (simple_ng h) 0
  rw [Cs_ng h] at c0
  have o1 : Ot v (m + 3) 1 (v 1) = sm (fun t => cr (v (1 + 1 + t)) (v (1 + 2 + t)) (v 1)) (m + 1) := rfl
  have o0 : Ot (fun i => ng (v i)) (m + 3) 0 (ng (v 0)) = sm (fun i => rh (v (i + 1)) (v (i + 2)) (v 0)) (m + 1) := by
    unfold Ot
    refine sm_congr fun j _ => ?_
    simp only []
    rw [cr_ng, show 0 + 1 + j = j + 1 by omega, show 0 + 2 + j = j + 2 by omega]
  rw [o1] at c1
  simp only [Nat.zero_add] at c0
  rw [o0] at c0
  have ha := adj_at h 0
  simp only [Nat.zero_add] at ha
  rw [co_ng ha] at c0
  have e3 : 1 + (m + 3) - 1 = 0 + (m + 3) := by omega
  rw [e3, h.per] at c1
  -- the sum of all turns: the first two and the others
  have t : Tn v (m + 3) = (co (v 0) (v 1) (v 2) - up (v 0) (v 1)) + sm (fun i => co (v (i + 1)) (v (i + 2)) (v (i + 3)) - up (v (i + 1)) (v (i + 2))) (m + 1) + (co (v (m + 2)) (v 0) (v 1) - up (v (m + 2)) (v 0)) := by
    unfold Tn
    rw [sm_head, sm]
    have p0 : v (m + 1 + 1 + 1) = v 0 := by rw [show m + 1 + 1 + 1 = 0 + (m + 3) by omega, h.per]
    have p1 : v (m + 1 + 1 + 2) = v 1 := by rw [show m + 1 + 1 + 2 = 1 + (m + 3) by omega, h.per]
    rw [p0, p1]
    have : sm (fun i => co (v (i + 1)) (v (i + 1 + 1)) (v (i + 1 + 2)) - up (v (i + 1)) (v (i + 1 + 1))) (m + 1) = sm (fun i => co (v (i + 1)) (v (i + 2)) (v (i + 3)) - up (v (i + 1)) (v (i + 2))) (m + 1) := rfl
    rw [this]
    simp only [Nat.zero_add, show m + 1 + 1 = m + 2 from rfl]
    omega
  rw [t]
  simp only [show m + 3 - 1 = m + 2 from rfl] at c0
  simp only [show 1 + 1 = 2 from rfl] at c1 tele
  omega
theorem sm_comm (f : Nat → Nat → Int) (n m : Nat) : sm (fun i => sm (fun j => f i j) m) n = sm (fun j => sm (fun i => f i j) n) m := by
  induction n with
  | zero => exact (sm_zero fun i _ => rfl).symm
  | succ n ih =>
    show sm (fun i => sm (fun j => f i j) m) n + sm (fun j => f n j) m = _
    rw [ih, ← sm_add]
    exact sm_congr fun j _ => rfl
theorem sm_mul (f : Nat → Int) (c : Int) (n : Nat) : sm (fun i => c * f i) n = c * sm f n := by
  induction n with
  | zero => simp [sm]
  | succ n ih => simp only [sm]; rw [ih, Int.mul_add]
theorem sm_le {f g : Nat → Int} {n : Nat} (h : ∀ i, i < n → f i ≤ g i) : sm f n ≤ sm g n := by
  induction n with
  | zero => exact Int.le_refl _
  | succ n ih =>
    have := ih (fun i hi => h i (by omega))
    have := h n (by omega)
    simp only [sm]; omega
theorem sm_app (f : Nat → Int) (n m : Nat) : sm f (n + m) = sm f n + sm (fun i => f (n + i)) m := by
  induction m with
  | zero => simp [sm]
  | succ m ih => rw [← Nat.add_assoc]; simp only [sm]; rw [ih]; omega
theorem sm_rev (f : Nat → Int) (n : Nat) : sm (fun i => f (n - 1 - i)) n = sm f n := by
  induction n with
  | zero => rfl
  | succ n ih =>
    rw [sm_head]
    have : sm (fun i => f (n + 1 - 1 - (i + 1))) n = sm (fun i => f (n - 1 - i)) n := sm_congr fun i _ => by rw [show n + 1 - 1 - (i + 1) = n - 1 - i by omega]
    rw [this, ih, sm]
    simp only [Nat.sub_zero, Nat.add_sub_cancel]
    omega
/-- numbers below a limit -/
theorem sm_below (d : Int) (m : Nat) (h0 : 0 ≤ d) (h1 : d ≤ m) : sm (fun i => if (i : Int) < d then 1 else 0) m = d := by
  have : ∀ m : Nat, sm (fun i => if (i : Int) < d then 1 else 0) m = if (m : Int) ≤ d then (m : Int) else d := by
    intro m
    induction m with
    | zero => simp only [sm]; split <;> omega
    | succ m ih => simp only [sm, ih]; (repeat' split) <;> omega
  rw [this]; split <;> omega
theorem sm_above (d : Int) (m : Nat) (h0 : 0 ≤ d) (h1 : d ≤ m) : sm (fun i => if d ≤ (i : Int) then 1 else 0) m = m - d := by
  have : ∀ m : Nat, sm (fun i => if d ≤ (i : Int) then 1 else 0) m = if (m : Int) ≤ d then 0 else m - d := by
    intro m
    induction m with
    | zero => simp only [sm]; split <;> omega
    | succ m ih => simp only [sm, ih]; (repeat' split) <;> omega
  rw [this]; split <;> omega
/-- a sum over a window is a sum over the whole -/
theorem sm_win (f : Nat → Int) (lo k n : Nat) (h : lo + k ≤ n) : sm (fun i => if lo ≤ i ∧ i < lo + k then f i else 0) n = sm (fun i => f (lo + i)) k := by
  obtain ⟨r, rfl⟩ : ∃ r, n = lo + (k + r) := ⟨n - lo - k, by omega⟩
  rw [sm_app, sm_app]
  rw [sm_zero (fun i hi => by rw [if_neg (by omega)]), Int.zero_add]
  have : sm (fun i => if lo ≤ lo + (k + i) ∧ lo + (k + i) < lo + k then f (lo + (k + i)) else 0) r = 0 := sm_zero fun i _ => by rw [if_neg (by omega)]
  rw [this, Int.add_zero]
  exact sm_congr fun i hi => by rw [if_pos (by omega)]
/-- where a line that goes up crosses a level -/
theorem ceil (a b : Pt) (h : a.2 < b.2) (y : Int) : ∃ c : Int, ∀ x : Int, 0 < tw a b (x, y) ↔ x < c := by
  refine ⟨-((-((b.1 - a.1) * (y - a.2) + a.1 * (b.2 - a.2))) / (b.2 - a.2)), fun x => ?_⟩
  have e : tw a b (x, y) = ((b.1 - a.1) * (y - a.2) + a.1 * (b.2 - a.2)) - x * (b.2 - a.2) := by unfold tw; grind
  rw [e]
  have := Int.le_ediv_iff_mul_le (c := b.2 - a.2) (a := -x) (b := -((b.1 - a.1) * (y - a.2) + a.1 * (b.2 - a.2))) (by omega)
  rw [Int.neg_mul] at this
  generalize (b.1 - a.1) * (y - a.2) + a.1 * (b.2 - a.2) = K at *
  generalize x * (b.2 - a.2) = X at *
  generalize -K / (b.2 - a.2) = q at *
  omega
theorem tw_turned (a b : Pt) (x y : Int) : tw a b (a.1 + b.1 - x, a.2 + b.2 - y) = - tw a b (x, y) := by unfold tw; grind
def bx (N : Nat) (i j : Nat) : Pt := ((i : Int) - N, (j : Int) - N)
/-- the sum over all points of a box -/
def bs (N : Nat) (f : Pt → Int) : Int := sm (fun j => sm (fun i => f (bx N i j)) (2 * N + 1)) (2 * N + 1)
theorem bs_congr {N : Nat} {f g : Pt → Int} (h : ∀ p : Pt, f p = g p) : bs N f = bs N g :=
  sm_congr fun _ _ => sm_congr fun _ _ => h _
theorem bs_neg (N : Nat) (f : Pt → Int) : bs N (fun p => - f p) = - bs N f := by
  unfold bs; rw [← sm_neg]; exact sm_congr fun j _ => sm_neg _ _
theorem bs_add (N : Nat) (f g : Pt → Int) : bs N (fun p => f p + g p) = bs N f + bs N g := by
  unfold bs; rw [← sm_add]; exact sm_congr fun j _ => sm_add _ _ _
theorem bs_zero {N : Nat} {f : Pt → Int} (h : ∀ p : Pt, f p = 0) : bs N f = 0 := sm_zero fun _ _ => sm_zero fun _ _ => h _
theorem bs_sm (N : Nat) (f : Nat → Pt → Int) (n : Nat) : bs N (fun p => sm (fun k => f k p) n) = sm (fun k => bs N (f k)) n := by
  induction n with
  | zero => exact bs_zero fun _ => rfl
  | succ n ih =>
    show bs N (fun p => sm (fun k => f k p) n + f n p) = _
    rw [bs_add, ih]; rfl
structure InBox (N : Nat) (a : Pt) : Prop where
  x0 : -(N : Int) ≤ a.1
  x1 : a.1 ≤ N
  y0 : -(N : Int) ≤ a.2
  y1 : a.2 ≤ N
/-- ONE LINE: what it counts, to both sides -/
theorem line_up {N : Nat} {a b : Pt} (ha : InBox N a) (hb : InBox N b) (h : a.2 < b.2) : bs N (fun p => cr a b p + rh a b p) = (b.2 - a.2) * (a.1 + b.1) := by
  obtain ⟨a0, a1, a2, a3⟩ := ha
  obtain ⟨b0, b1, b2, b3⟩ := hb
  rw [bs_add]
  have C : ∀ y : Int, ∃ c : Int, (∀ x : Int, 0 < tw a b (x, y) ↔ x < c) := ceil a b h
  -- the rows of one count
  have r1 : bs N (cr a b) = sm (fun t => sm (fun i => if 0 < tw a b ((i : Int) - N, a.2 + t) then 1 else 0) (2 * N + 1)) (b.2 - a.2).toNat := by
    have w := sm_win (fun j => sm (fun i => if 0 < tw a b ((i : Int) - N, (j : Int) - N) then 1 else 0) (2 * N + 1)) (a.2 + N).toNat (b.2 - a.2).toNat (2 * N + 1) (by omega)
    have e : sm (fun t => sm (fun i => if 0 < tw a b ((i : Int) - N, a.2 + t) then (1 : Int) else 0) (2 * N + 1)) (b.2 - a.2).toNat
        = sm (fun i_1 => sm (fun i => if 0 < tw a b ((i : Int) - N, (((a.2 + N).toNat + i_1 : Nat) : Int) - N) then (1 : Int) else 0) (2 * N + 1)) (b.2 - a.2).toNat :=
      sm_congr fun t _ => by rw [show (((a.2 + N).toNat + t : Nat) : Int) - N = a.2 + t by omega]
    rw [e, ← w]
    refine sm_congr fun j hj => ?_
    by_cases c : (a.2 + N).toNat ≤ j ∧ j < (a.2 + N).toNat + (b.2 - a.2).toNat
    · rw [if_pos c]
      refine sm_congr fun i _ => ?_
      show cr a b ((i : Int) - N, (j : Int) - N) = _
      rw [cr_up (by omega)]
      by_cases t : 0 < tw a b ((i : Int) - N, (j : Int) - N)
      · rw [if_pos t, if_pos ⟨by simp only []; omega, by simp only []; omega, t⟩]
      · rw [if_neg t, if_neg (fun w => t w.2.2)]
    · rw [if_neg c]
      refine sm_zero fun i _ => ?_
      show cr a b ((i : Int) - N, (j : Int) - N) = _
      rw [cr_up (by omega), if_neg (by simp only []; omega)]
  have r2 : bs N (rh a b) = sm (fun t => - sm (fun i => if tw a b ((i : Int) - N, b.2 - t) < 0 then 1 else 0) (2 * N + 1)) (b.2 - a.2).toNat := by
    have w := sm_win (fun j => - sm (fun i => if tw a b ((i : Int) - N, (j : Int) - N) < 0 then 1 else 0) (2 * N + 1)) (a.2 + 1 + N).toNat (b.2 - a.2).toNat (2 * N + 1) (by omega)
    have e : sm (fun t => - sm (fun i => if tw a b ((i : Int) - N, b.2 - t) < 0 then (1 : Int) else 0) (2 * N + 1)) (b.2 - a.2).toNat
        = sm (fun i_1 => - sm (fun i => if tw a b ((i : Int) - N, (((a.2 + 1 + N).toNat + i_1 : Nat) : Int) - N) < 0 then (1 : Int) else 0) (2 * N + 1)) (b.2 - a.2).toNat := by
      rw [← sm_rev]
      exact sm_congr fun t ht => by rw [show (((a.2 + 1 + N).toNat + t : Nat) : Int) - N = b.2 - (((b.2 - a.2).toNat - 1 - t : Nat) : Int) by omega]
    rw [e, ← w]
    refine sm_congr fun j hj => ?_
    by_cases c : (a.2 + 1 + N).toNat ≤ j ∧ j < (a.2 + 1 + N).toNat + (b.2 - a.2).toNat
    · rw [if_pos c, ← sm_neg]
      refine sm_congr fun i _ => ?_
      show rh a b ((i : Int) - N, (j : Int) - N) = _
      rw [rh_up (by omega)]
      by_cases t : tw a b ((i : Int) - N, (j : Int) - N) < 0
      · rw [if_pos t, if_pos ⟨by simp only []; omega, by simp only []; omega, t⟩]
      · rw [if_neg t, if_neg (fun w => t w.2.2)]; rfl
    · rw [if_neg c]
      refine sm_zero fun i _ => ?_
      show rh a b ((i : Int) - N, (j : Int) - N) = _
      rw [rh_up (by omega), if_neg (by simp only []; omega)]
  rw [r1, r2, ← sm_add]
  have row : ∀ t : Nat, t < (b.2 - a.2).toNat → sm (fun i => if 0 < tw a b ((i : Int) - N, a.2 + t) then 1 else 0) (2 * N + 1) + - sm (fun i => if tw a b ((i : Int) - N, b.2 - t) < 0 then 1 else 0) (2 * N + 1) = a.1 + b.1 := by
    intro t ht
    obtain ⟨c, hc⟩ := C (a.2 + t)
    have hc2 : ∀ x : Int, tw a b (x, b.2 - t) < 0 ↔ a.1 + b.1 - c + 1 ≤ x := by
      intro x
      have e := tw_turned a b (a.1 + b.1 - x) (a.2 + t)
      rw [show a.1 + b.1 - (a.1 + b.1 - x) = x by omega, show a.2 + b.2 - (a.2 + t) = b.2 - t by omega] at e
      have := hc (a.1 + b.1 - x)
      omega
    -- c is between both ends
    have lim : (c ≤ a.1 ∨ c ≤ b.1) ∧ (a.1 ≤ c ∨ b.1 ≤ c) := by
      have ht' : (t : Int) < b.2 - a.2 := by omega
      constructor
      · refine Classical.byContradiction fun hn => ?_
        by_cases hab : a.1 ≤ b.1
        · have := (hc b.1).2 (by omega)
          have e : tw a b (b.1, a.2 + t) = - ((b.1 - a.1) * (b.2 - a.2 - t)) := by unfold tw; grind
          have m := Int.mul_nonneg (show 0 ≤ b.1 - a.1 by omega) (show 0 ≤ b.2 - a.2 - t by omega)
          omega
        · have := (hc a.1).2 (by omega)
          have e : tw a b (a.1, a.2 + t) = - ((a.1 - b.1) * t) := by unfold tw; grind
          have m := Int.mul_nonneg (show 0 ≤ a.1 - b.1 by omega) (show (0 : Int) ≤ t by omega)
          omega
      · refine Classical.byContradiction fun hn => ?_
        by_cases hab : a.1 ≤ b.1
        · have := mt (hc (a.1 - 1)).1 
          have h1 : ¬ 0 < tw a b (a.1 - 1, a.2 + t) := fun w => by have := (hc _).1 w; omega
          have e : tw a b (a.1 - 1, a.2 + t) = (b.1 - a.1) * t + (b.2 - a.2) := by unfold tw; grind
          have m := Int.mul_nonneg (show 0 ≤ b.1 - a.1 by omega) (show (0 : Int) ≤ t by omega)
          omega
        · have h1 : ¬ 0 < tw a b (b.1 - 1, a.2 + t) := fun w => by have := (hc _).1 w; omega
          have e : tw a b (b.1 - 1, a.2 + t) = (a.1 - b.1) * (b.2 - a.2 - t) + (b.2 - a.2) := by unfold tw; grind
          have m := Int.mul_nonneg (show 0 ≤ a.1 - b.1 by omega) (show 0 ≤ b.2 - a.2 - t by omega)
          omega
    have s1 := sm_below (c + N) (2 * N + 1) (by omega) (by omega)
    have s2 := sm_above (a.1 + b.1 - c + 1 + N) (2 * N + 1) (by omega) (by omega)
    have q1 : sm (fun i => if 0 < tw a b ((i : Int) - N, a.2 + t) then (1 : Int) else 0) (2 * N + 1) = sm (fun i => if (i : Int) < c + N then (1 : Int) else 0) (2 * N + 1) :=
      sm_congr fun i _ => by
        have := hc ((i : Int) - N)
        by_cases w : 0 < tw a b ((i : Int) - N, a.2 + t)
        · rw [if_pos w, if_pos (by have := this.1 w; omega)]
        · rw [if_neg w, if_neg (by intro w'; exact w (this.2 (by omega)))]
    have q2 : sm (fun i => if tw a b ((i : Int) - N, b.2 - t) < 0 then (1 : Int) else 0) (2 * N + 1) = sm (fun i => if a.1 + b.1 - c + 1 + N ≤ (i : Int) then (1 : Int) else 0) (2 * N + 1) :=
      sm_congr fun i _ => by
        have := hc2 ((i : Int) - N)
        by_cases w : tw a b ((i : Int) - N, b.2 - t) < 0
        · rw [if_pos w, if_pos (by have := this.1 w; omega)]
        · rw [if_neg w, if_neg (by intro w'; exact w (this.2 (by omega)))]
    rw [q1, q2, s1, s2]
    omega
  rw [sm_congr row]
  have cst : ∀ (c : Int) (n : Nat), sm (fun _ => c) n = n * c := by
    intro c n
    induction n with
    | zero => simp [sm]
    | succ n ih => simp only [sm]; rw [ih]; grind
  rw [cst, Int.toNat_of_nonneg (by omega)]
theorem line_any {N : Nat} {a b : Pt} (ha : InBox N a) (hb : InBox N b) : bs N (fun p => cr a b p + rh a b p) = (b.2 - a.2) * (a.1 + b.1) := by
  rcases Int.lt_trichotomy a.2 b.2 with h | h | h
  · exact line_up ha hb h
  · rw [show b.2 - a.2 = 0 by omega, Int.zero_mul]
    refine bs_zero fun p => ?_
    unfold cr rh
    (repeat' split) <;> omega
  · have := line_up hb ha h
    have e : bs N (fun p => cr a b p + rh a b p) = - bs N (fun p => cr b a p + rh b a p) := by
      rw [← bs_neg]
      exact bs_congr fun p => by rw [cr_swap a b p, rh_swap a b p]; omega
    rw [e, this]; grind
/-- twice the area -/
def Ar (v : Nat → Pt) (n : Nat) : Int := sm (fun j => (v j).1 * (v (j + 1)).2 - (v (j + 1)).1 * (v j).2) n
/-- TWICE THE AREA is the sum over all points of both counts -/
theorem Ar_eq {v : Nat → Pt} {n N : Nat} (hp : ∀ i, v (i + n) = v i) (hN : ∀ i, InBox N (v i)) : Ar v n = bs N (fun p => WN v n p + WN (fun i => ng (v i)) n (ng p)) := by
  have e : bs N (fun p => WN v n p + WN (fun i => ng (v i)) n (ng p)) = bs N (fun p => sm (fun j => cr (v j) (v (j + 1)) p + rh (v j) (v (j + 1)) p) n) :=
    bs_congr fun p => by
      rw [sm_add]
      unfold WN
      congr 1
      exact sm_congr fun j _ => cr_ng _ _ _
  rw [e, bs_sm]
  have : sm (fun k => bs N (fun p => cr (v k) (v (k + 1)) p + rh (v k) (v (k + 1)) p)) n = sm (fun j => ((v j).1 * (v (j + 1)).2 - (v (j + 1)).1 * (v j).2) + ((v (j + 1)).1 * (v (j + 1)).2 - (v j).1 * (v j).2)) n :=
    sm_congr fun j _ => by rw [line_any (hN _) (hN _)]; grind
  rw [this, sm_add]
  have t := sm_tele (fun j => (v j).1 * (v j).2) n
  have p0 := hp 0
  rw [Nat.zero_add] at p0
  rw [p0] at t
  rw [t]
  unfold Ar
  omega
end Go.Proofs.Ytieimijkkjhegaa.MJ
/- plain mathematics: the side and the sign of the area -/
namespace Go.Proofs.Ytieimijkkjhegaa.MJ
set_option linter.unusedVariables false
set_option linter.unusedSimpArgs false
theorem sm_nn {f : Nat → Int} {n : Nat} (h : ∀ i, i < n → 0 ≤ f i) : 0 ≤ sm f n := by
  have := sm_le (f := fun _ => 0) (g := f) (n := n) h
  rw [sm_zero (fun _ _ => rfl)] at this
  exact this
theorem sm_term {f : Nat → Int} {n : Nat} (h : ∀ i, i < n → 0 ≤ f i) {k : Nat} (hk : k < n) : f k ≤ sm f n := by
  induction n with
  | zero => omega
  | succ n ih =>
    have h0 := sm_nn (f := f) (n := n) (fun i hi => h i (by omega))
    have hn := h n (by omega)
    simp only [sm]
    by_cases e : k = n
    · subst e; omega
    · have := ih (fun i hi => h i (by omega)) (by omega); omega
theorem bs_nn {N : Nat} {f : Pt → Int} (h : ∀ p, 0 ≤ f p) : 0 ≤ bs N f := sm_nn fun _ _ => sm_nn fun _ _ => h _
theorem bs_pos {N : Nat} {f : Pt → Int} (h : ∀ p, 0 ≤ f p) {q : Pt} (hq : InBox N q) (h1 : 0 < f q) : 0 < bs N f := by
  obtain ⟨x0, x1, y0, y1⟩ := hq
  have e : bx N (q.1 + N).toNat (q.2 + N).toNat = q := Prod.ext (by simp only [bx]; omega) (by simp only [bx]; omega)
  have k1 := sm_term (f := fun i => f (bx N i (q.2 + N).toNat)) (n := 2 * N + 1) (fun i _ => h _) (k := (q.1 + N).toNat) (by omega)
  have k2 := sm_term (f := fun j => sm (fun i => f (bx N i j)) (2 * N + 1)) (n := 2 * N + 1) (fun j _ => sm_nn fun i _ => h _) (k := (q.2 + N).toNat) (by omega)
  simp only [e] at k1
  unfold bs
  omega
/-- both counts together -/
def Vn (v : Nat → Pt) (n : Nat) (p : Pt) : Int := WN v n p + WN (fun i => ng (v i)) n (ng p)
theorem Bd_ng {v : Nat → Pt} {p : Pt} : Bd (fun i => ng (v i)) (ng p) ↔ Bd v p := by
  unfold Bd; simp only [on_ng]
theorem Vn_in {v : Nat → Pt} {n : Nat} (h : Poly v n) (k : Nat) {x : Pt} (hx : In (v k) (v (k + 1)) x) : Vn v n x = 2 * Cs v n - 1 := by
  have w1 := WN_in h k hx
  have w2 := WN_in (poly_ng h) k (in_ng hx)
  rw [Cs_ng h.toSimple, up_ng (in_ne hx).2.2] at w2
  unfold Vn; omega
theorem Vn_corner {v : Nat → Pt} {n : Nat} (h : Poly v n) (k : Nat) : Vn v n (v k) = 2 * Cs v n - co (v (k + n - 1)) (v k) (v (k + 1)) - co (ng (v (k + n - 1))) (ng (v k)) (ng (v (k + 1))) := by
  have w1 := WN_corner h k
  have w2 := WN_corner (poly_ng h) k
  rw [Cs_ng h.toSimple] at w2
  unfold Vn; omega
theorem Vn_sign {v : Nat → Pt} {n : Nat} (h : Poly v n) (p : Pt) : (Cs v n = 1 → 0 ≤ Vn v n p) ∧ (Cs v n = 0 → Vn v n p ≤ 0) := by
  by_cases hb : Bd v p
  · obtain ⟨k, hk⟩ := hb
    have corner : ∀ k, (Cs v n = 1 → 0 ≤ Vn v n (v k)) ∧ (Cs v n = 0 → Vn v n (v k) ≤ 0) := by
      intro k
      have e := Vn_corner h k
      have a1 := co_01 (adj_at h.toSimple k)
      have a2 := co_01 (adj_ng (adj_at h.toSimple k))
      omega
    rcases on_in hk with e | e | hx
    · rw [e]; exact corner k
    · rw [e]; exact corner (k + 1)
    · have := Vn_in h k hx; omega
  · have j1 := jordan h hb
    have j2 := jordan (poly_ng h) (fun w => hb (Bd_ng.1 w))
    rw [Cs_ng h.toSimple] at j2
    unfold Vn; omega
theorem Ar_sc (v : Nat → Pt) (n : Nat) (M : Int) : Ar (fun i => sc M (v i)) n = M * M * Ar v n := by
  unfold Ar
  rw [← sm_mul]
  exact sm_congr fun j _ => by simp only [sc]; grind
/-- THE SIDE AND THE AREA -/
theorem Ar_side {v : Nat → Pt} {n N : Nat} (h : Poly v n) (hN : ∀ i, InBox N (v i)) : (Cs v n = 1 → 0 < Ar v n) ∧ (Cs v n = 0 → Ar v n < 0) := by
  have h2 : (0 : Int) < 2 := by omega
  have hp := poly_sc h2 h
  have hN2 : ∀ i, InBox (2 * N) (sc 2 (v i)) := fun i => by
    obtain ⟨a, b, c, d⟩ := hN i
    refine ⟨?_, ?_, ?_, ?_⟩ <;> simp only [sc] <;> omega
  have e : 2 * 2 * Ar v n = bs (2 * N) (Vn (fun i => sc 2 (v i)) n) := by
    rw [← Ar_sc]
    exact Ar_eq (n := n) hp.per hN2
  have hm : In (sc 2 (v 0)) (sc 2 (v 1)) ((v 0).1 + (v 1).1, (v 0).2 + (v 1).2) := by
    have hne := (h.adj 0).1
    have e1 : (v 0).2 = (v 1).2 → (v 0).1 ≠ (v 1).1 := fun e e' => hne (Prod.ext e' e)
    refine ⟨by unfold tw sc; simp only []; grind, ?_⟩
    simp only [sc]
    omega
  have hi : InBox (2 * N) ((v 0).1 + (v 1).1, (v 0).2 + (v 1).2) := by
    obtain ⟨a, b, c, d⟩ := hN 0
    obtain ⟨a', b', c', d'⟩ := hN 1
    refine ⟨?_, ?_, ?_, ?_⟩ <;> simp only [] <;> omega
  have q := Vn_in hp 0 hm
  rw [Cs_sc h2] at q
  constructor
  · intro hc
    have := bs_pos (N := 2 * N) (f := Vn (fun i => sc 2 (v i)) n) (fun p => (Vn_sign hp p).1 (by rw [Cs_sc h2]; exact hc)) hi (by omega)
    omega
  · intro hc
    have := bs_pos (N := 2 * N) (f := fun p => - Vn (fun i => sc 2 (v i)) n p) (fun p => by have := (Vn_sign hp p).2 (by rw [Cs_sc h2]; exact hc); omega) hi (by omega)
    rw [bs_neg] at this
    omega
/-- CONVEX: if all corners turn to one side, that is the area's -/
theorem all_left {v : Nat → Pt} {n N : Nat} (h : Poly v n) (hN : ∀ i, InBox N (v i)) (ht : ∀ i, 0 < tw (v i) (v (i + 1)) (v (i + 2))) : 0 < Ar v n := by
  obtain ⟨k, _, hk⟩ := east h.toSimple
  have t := ht (k + n - 1)
  have h3 := h.three
  rw [show k + n - 1 + 1 = k + n by omega, show k + n - 1 + 2 = k + 1 + n by omega, h.per, h.per] at t
  exact (Ar_side h hN).1 ((Cs_turn h.toSimple hk).1 t)
theorem all_right {v : Nat → Pt} {n N : Nat} (h : Poly v n) (hN : ∀ i, InBox N (v i)) (ht : ∀ i, tw (v i) (v (i + 1)) (v (i + 2)) < 0) : Ar v n < 0 := by
  obtain ⟨k, _, hk⟩ := east h.toSimple
  have t := ht (k + n - 1)
  have h3 := h.three
  rw [show k + n - 1 + 1 = k + n by omega, show k + n - 1 + 2 = k + 1 + n by omega, h.per, h.per] at t
  exact (Ar_side h hN).2 ((Cs_turn h.toSimple hk).2 t)
/-- the crossings, whatever their signs -/
def Xs (v : Nat → Pt) (n : Nat) (p : Pt) : Int := sm (fun j => (cr (v j) (v (j + 1)) p) * (cr (v j) (v (j + 1)) p)) n
/-- INSIDE: going round is the same as crossing oddly often -/
theorem odd_iff {v : Nat → Pt} {n : Nat} (h : Poly v n) {p : Pt} (hp : ¬ Bd v p) : WN v n p ≠ 0 ↔ Xs v n p % 2 = 1 := by
  have j := jordan h hp
  have c := Cs_01 h.toSimple
  have par : ∀ m, (sm (fun j => (cr (v j) (v (j + 1)) p) * (cr (v j) (v (j + 1)) p)) m - sm (fun j => cr (v j) (v (j + 1)) p) m) % 2 = 0 := by
    intro m
    induction m with
    | zero => rfl
    | succ m ih =>
      simp only [sm]
      have : cr (v m) (v (m + 1)) p = 0 ∨ cr (v m) (v (m + 1)) p = 1 ∨ cr (v m) (v (m + 1)) p = -1 := by
        unfold cr; (repeat' split) <;> simp
      rcases this with e | e | e <;> rw [e] <;> omega
  have := par n
  unfold WN Xs at *
  omega
end Go.Proofs.Ytieimijkkjhegaa.MJ
/- contracts of the small functions over pegs -/
namespace Go.Proofs.Ytieimijkkjhegaa
open Go.ChangeShapes Go.WideShapes Go.ChangeAt Go.RowKit Go.Joins
set_option linter.unusedVariables false

theorem l1In_any (n lo hi : Int) (w : World) :
    Calls Try.prog 56 #[.int .i64 n, .int .i64 lo, .int .i64 hi] w fun e w' => e = .returned (.bool (decide (lo ≤ n) && decide (n ≤ hi))) ∧ w = w' := by
  by_cases h1 : lo ≤ n <;> by_cases h2 : n ≤ hi
  all_goals
    go_enter Try.func56, Try.ntmps56
    go_wp2
    go_ret
    exact ⟨by simp [h1, h2], rfl⟩
theorem isOfSize_any (n m : Int) (w : World) (hm : 0 ≤ m) (hm' : m ≤ 1000) :
    Calls Try.prog 118 #[.int .i64 n, .int .i64 m] w fun e w' => e = .returned (.bool (decide (-m ≤ n) && decide (n ≤ m))) ∧ w = w' := by
  by_cases h1 : -m ≤ n <;> by_cases h2 : n ≤ m
  all_goals
    go_enter Try.func118, Try.ntmps118
    go_wp2
    go_ret
    exact ⟨by simp [h1, h2], rfl⟩
end Go.Proofs.Ytieimijkkjhegaa
/- contracts of the small functions over pegs -/
namespace Go.Proofs.Ytieimijkkjhegaa
open Go.ChangeShapes Go.WideShapes Go.ChangeAt Go.RowKit Go.Joins
set_option linter.unusedVariables false
theorem bcell {W w1 : World} (hb : Below W.heap.size W w1) : (∀ b o, b < W.heap.size → w1.cell? ⟨b, o, none⟩ = W.cell? ⟨b, o, none⟩) ∧ (∀ b o, b < W.heap.size → w1.frozen? ⟨b, o, none⟩ = W.frozen? ⟨b, o, none⟩) :=
  ⟨fun b o h => hb.cell (p := ⟨b, o, none⟩) h, fun b o h => hb.frozen (p := ⟨b, o, none⟩) h⟩
/-- a peg's two numbers are of size 40 at most -/
def isPegB (x y : Int) : Bool := decide (-40 ≤ x) && decide (x ≤ 40) && (decide (-40 ≤ y) && decide (y ≤ 40))
theorem pgIs_any (x y : Int) (w : World) :
    Calls Try.prog 105 #[.agg #[.int .i64 x, .int .i64 y]] w fun e w' => e = .returned (.bool (isPegB x y)) ∧ Below w.heap.size w w' := by
  by_cases h1 : (decide (-40 ≤ x) && decide (x ≤ 40)) = true
  all_goals
    go_enter Try.func105, Try.ntmps105
    go_wp2_with (go_at_call 56; refine (l1In_any _ _ _ _).mono ?_; rintro e w' ⟨rfl, rfl⟩)
    go_ret
    exact ⟨by simp [isPegB, h1], by repeat (first | exact Below.refl _ _ | apply Below.drew | (apply Below.alloc; rotate_left; simp))⟩
end Go.Proofs.Ytieimijkkjhegaa
/- contracts of the small functions over pegs: turns, points on lines -/
namespace Go.Proofs.Ytieimijkkjhegaa
open Go.ChangeShapes Go.WideShapes Go.ChangeAt Go.RowKit Go.Joins
set_option linter.unusedVariables false
set_option linter.unusedSimpArgs false
set_option maxRecDepth 4000
theorem mul_bd {x y m n : Int} (h1 : -m ≤ x) (h2 : x ≤ m) (h3 : -n ≤ y) (h4 : y ≤ n) : -(m * n) ≤ x * y ∧ x * y ≤ m * n := by
  have hm : 0 ≤ m := by omega
  have hn : 0 ≤ n := by omega
  have a1 := Int.mul_nonneg (show 0 ≤ m - x by omega) (show 0 ≤ n - y by omega)
  have a2 := Int.mul_nonneg (show 0 ≤ m + x by omega) (show 0 ≤ n + y by omega)
  have a3 := Int.mul_nonneg (show 0 ≤ m - x by omega) (show 0 ≤ n + y by omega)
  have a4 := Int.mul_nonneg (show 0 ≤ m + x by omega) (show 0 ≤ n - y by omega)
  constructor <;> grind
/-- both numbers of a point are of size 100000 at most -/
def Sz (x y : Int) : Prop := -100000 ≤ x ∧ x ≤ 100000 ∧ -100000 ≤ y ∧ y ≤ 100000
theorem prod_bd {a b c d : Int} (ha : -100000 ≤ a ∧ a ≤ 100000) (hb : -100000 ≤ b ∧ b ≤ 100000) (hc : -100000 ≤ c ∧ c ≤ 100000) (hd : -100000 ≤ d ∧ d ≤ 100000) :
    -40000000000 ≤ (a - b) * (c - d) ∧ (a - b) * (c - d) ≤ 40000000000 :=
  mul_bd (m := 200000) (n := 200000) (by omega) (by omega) (by omega) (by omega)
/-- twice the area of a triangle, greater than 0 to the left -/
def twI (a1 a2 b1 b2 c1 c2 : Int) : Int := (b1 - a1) * (c2 - a2) - (b2 - a2) * (c1 - a1)
theorem ret_int {k : IntKind} {a b : Int} (h : a = b) : Ending.returned (.int k a) = .returned (.int k b) := by rw [h]
theorem ret_bool {a b : Bool} (h : a = b) : Ending.returned (.bool a) = .returned (.bool b) := by rw [h]
theorem pgTurn_any (a1 a2 b1 b2 c1 c2 : Int) (w : World) (ha : Sz a1 a2) (hb : Sz b1 b2) (hc : Sz c1 c2) :
    Calls Try.prog 98 #[.agg #[.int .i64 a1, .int .i64 a2], .agg #[.int .i64 b1, .int .i64 b2], .agg #[.int .i64 c1, .int .i64 c2]] w fun e w' => e = .returned (.int .i64 (twI a1 a2 b1 b2 c1 c2)) ∧ Below w.heap.size w w' := by
  obtain ⟨x1, x2, x3, x4⟩ := ha
  obtain ⟨x5, x6, x7, x8⟩ := hb
  obtain ⟨x9, x10, x11, x12⟩ := hc
  obtain ⟨p1, p2⟩ := prod_bd (a := b1) (b := a1) (c := c2) (d := a2) (by omega) (by omega) (by omega) (by omega)
  obtain ⟨p3, p4⟩ := prod_bd (a := b2) (b := a2) (c := c1) (d := a1) (by omega) (by omega) (by omega) (by omega)
  go_enter Try.func98, Try.ntmps98
  go_wp2
  go_ret
  exact ⟨ret_int (by unfold twI; omega), (by repeat (first | exact Below.refl _ _ | assumption | apply Below.drew | refine Below.alloc ?_ (by simp <;> omega) _))⟩
theorem twiceThree_any (a1 a2 b1 b2 c1 c2 : Int) (w : World) (ha : Sz a1 a2) (hb : Sz b1 b2) (hc : Sz c1 c2) :
    Calls Try.prog 130 #[.agg #[.int .i64 a1, .int .i64 a2], .agg #[.int .i64 b1, .int .i64 b2], .agg #[.int .i64 c1, .int .i64 c2]] w fun e w' => e = .returned (.int .i64 (twI a1 a2 b1 b2 c1 c2)) ∧ Below w.heap.size w w' := by
  obtain ⟨x1, x2, x3, x4⟩ := ha
  obtain ⟨x5, x6, x7, x8⟩ := hb
  obtain ⟨x9, x10, x11, x12⟩ := hc
  obtain ⟨p1, p2⟩ := prod_bd (a := b1) (b := a1) (c := c2) (d := a2) (by omega) (by omega) (by omega) (by omega)
  obtain ⟨p3, p4⟩ := prod_bd (a := c1) (b := a1) (c := b2) (d := a2) (by omega) (by omega) (by omega) (by omega)
  go_enter Try.func130, Try.ntmps130
  go_wp2
  go_ret
  exact ⟨ret_int (by unfold twI; rw [Int.mul_comm (c1 - a1)]), (by repeat (first | exact Below.refl _ _ | assumption | apply Below.drew | refine Below.alloc ?_ (by simp <;> omega) _))⟩
end Go.Proofs.Ytieimijkkjhegaa
/- contracts: a point of the laws' package made one of the program's; IsPeg on both sides -/
namespace Go.Proofs.Ytieimijkkjhegaa
open Go.ChangeShapes Go.WideShapes Go.ChangeAt Go.RowKit Go.Joins
set_option linter.unusedVariables false
set_option linter.unusedSimpArgs false
set_option maxRecDepth 4000
theorem toPeg_any (a1 a2 : Int) (w : World) :
    Calls Try.prog 60 #[.agg #[.int .i64 a1, .int .i64 a2]] w fun e w' => e = .returned (.agg #[.int .i64 a1, .int .i64 a2]) ∧ Below w.heap.size w w' := by
  go_enter Try.func60, Try.ntmps60
  go_wp2
  exact bodyPost_ret (v := .agg #[.int .i64 a1, .int .i64 a2]) (by simp [results, Try.results60, go_sem]) rfl ⟨rfl, (by repeat (first | exact Below.refl _ _ | assumption | apply Below.drew | refine Below.alloc ?_ (by simp <;> omega) _))⟩
theorem implIsPeg_any (x1 x2 : Int) (w : World) :
    Calls Try.prog 133 #[.agg #[.int .i64 x1, .int .i64 x2]] w fun e w' => e = .returned (.bool (isPegB x1 x2)) ∧ Below w.heap.size w w' := by
  by_cases h1 : (decide (-40 ≤ x1) && decide (x1 ≤ 40)) = true
  all_goals
    go_enter Try.func133, Try.ntmps133
    go_wp2_with (go_at_call 118; refine (isOfSize_any _ _ _ (by omega) (by omega)).mono ?_; rintro e w' ⟨rfl, rfl⟩)
    go_ret
    exact ⟨by simp [isPegB, h1], (by repeat (first | exact Below.refl _ _ | assumption | apply Below.drew | refine Below.alloc ?_ (by simp <;> omega) _))⟩
end Go.Proofs.Ytieimijkkjhegaa
/- the last step of each law: it returned true, and nothing that was there has turned: so the arguments read as they did -/
namespace Go.Proofs.Ytieimijkkjhegaa
open Go.ChangeShapes Go.WideShapes Go.ChangeAt Go.RowKit Go.Joins
set_option linter.unusedVariables false
set_option linter.unusedSimpArgs false
set_option maxRecDepth 4000
theorem own : ownKnob Try.prog.godebug = none := by kernel_rfl
theorem laidOut : laidOutB Try.prog = true := by kernel_rfl
section
variable {H : Type} {enc : TypeId × Value → H}
theorem trods_stay {P : Program} (hl : laidOutB P = true) {W W' : World} (hb : Below W.heap.size W W') (ts : List TypeId) : ∀ (vs : List Value) (ds : List (DataW H)) (ps : List MemPlace), (∀ t ∈ ts, P.readableRec t = true ∧ t < P.types.size) →
    DataW.TrodAll enc P W 0 (fun _ => true) true ts vs ds ps → (∀ x ∈ ps, x.block < W.heap.size) →
    DataW.TrodAll enc P W' 0 (fun b => decide (b < W.heap.size)) true ts vs ds ps := by
  induction ts with
  | nil =>
    intro vs ds ps _ h _
    cases vs with
    | nil => cases ds with
      | nil => exact h
      | cons d ds => exact h.elim
    | cons v vs => exact h.elim
  | cons t ts ih =>
    intro vs ds ps ht h hl'
    cases vs with
    | nil => exact h.elim
    | cons v vs => cases ds with
      | nil => exact h.elim
      | cons d ds =>
        obtain ⟨p, q, h1, h2, rfl⟩ := h
        have hf := ht t (List.mem_cons_self ..)
        exact ⟨p, q, Below.trod hl hf.1 hf.2 h1 hb (fun x hx => hl' x (List.mem_append.2 (Or.inl hx))),
          ih vs ds q (fun t' h' => ht t' (List.mem_cons_of_mem _ h')) h2 (fun x hx => hl' x (List.mem_append.2 (Or.inr hx))), rfl⟩
theorem law_done {f : Func} {s : ChangeSpec} {W W' : World} {args : Array Value} {ds gs : List (DataW H)} {before : List MemPlace}
    (hW : DataW.Whole enc Try.prog f.params.toList s.vars false W args.toList ds gs before) (hv : s.vars = []) (hrt : f.resultTypes = #[4]) (hp : ∀ t ∈ f.params.toList, Try.prog.readableRec t = true ∧ t < Try.prog.types.size)
    (hs : s.fn H ds = { results := [.lit (.bool true)], args := ds }) (hb : Below W.heap.size W W') :
    s.post enc Try.prog f false true false false W args (.bool true) W' := by
  have hlt := hW.lt
  have hW0 := hW
  obtain ⟨p, q, hA, hV, rfl, _, _⟩ := hW0
  rw [hv] at hV
  obtain ⟨rfl, rfl⟩ := trodVars_none hV
  simp only [List.append_nil] at hW hlt
  refine ⟨ds, [], p, [], p, [], hW, ?_, ?_, ?_, hb.frame _, fun h => by cases h⟩
  · rw [List.append_nil, hs, hrt]
    exact trodAll_mk1 (shut_bool Try.underlying4 true)
  · rw [List.append_nil, hs]
    exact trods_stay laidOut hb _ _ _ _ hp hA hlt
  · rw [List.append_nil, hs, hv]
    exact rfl
end
theorem fine74 : Try.prog.readableRec 74 = true ∧ 74 < Try.prog.types.size := ⟨by kernel_rfl, of_decide_eq_true (by kernel_rfl)⟩
theorem cells74 : Try.prog.cellsOf 74 = 2 := by kernel_rfl
end Go.Proofs.Ytieimijkkjhegaa
/- contracts: lines between pegs, points on them, lines that meet -/
namespace Go.Proofs.Ytieimijkkjhegaa
open Go.ChangeShapes Go.WideShapes Go.ChangeAt Go.RowKit Go.Joins
set_option linter.unusedVariables false
set_option linter.unusedSimpArgs false
set_option maxRecDepth 4000
/-- the sign of a number -/
def sgn (n : Int) : Int := if 0 < n then 1 else if n < 0 then -1 else 0
/-- a point on the line between two -/
def onB (a1 a2 b1 b2 p1 p2 : Int) : Bool := decide (twI a1 a2 b1 b2 p1 p2 = 0) && decide ((a1 - p1) * (b1 - p1) ≤ 0) && decide ((a2 - p2) * (b2 - p2) ≤ 0)
theorem pgOn_any (a1 a2 b1 b2 p1 p2 : Int) (w : World) (ha : Sz a1 a2) (hb : Sz b1 b2) (hp : Sz p1 p2) :
    Calls Try.prog 131 #[.agg #[.int .i64 a1, .int .i64 a2], .agg #[.int .i64 b1, .int .i64 b2], .agg #[.int .i64 p1, .int .i64 p2]] w fun e w' => e = .returned (.bool (onB a1 a2 b1 b2 p1 p2)) ∧ Below w.heap.size w w' := by
  have q1 := mul_bd (x := a1 - p1) (y := b1 - p1) (m := 200000) (n := 200000) (by unfold Sz at *; omega) (by unfold Sz at *; omega) (by unfold Sz at *; omega) (by unfold Sz at *; omega)
  have q2 := mul_bd (x := a2 - p2) (y := b2 - p2) (m := 200000) (n := 200000) (by unfold Sz at *; omega) (by unfold Sz at *; omega) (by unfold Sz at *; omega) (by unfold Sz at *; omega)
  have ct := fun W => pgTurn_any a1 a2 b1 b2 p1 p2 W ha hb hp
  obtain ⟨x1, x2, x3, x4⟩ := ha
  obtain ⟨x5, x6, x7, x8⟩ := hb
  obtain ⟨x9, x10, x11, x12⟩ := hp
  obtain ⟨q3, q4⟩ := q1
  obtain ⟨q5, q6⟩ := q2
  by_cases h1 : twI a1 a2 b1 b2 p1 p2 = 0
  · by_cases h2 : (a1 - p1) * (b1 - p1) ≤ 0
    · by_cases h3 : (a2 - p2) * (b2 - p2) ≤ 0
      all_goals
        have CT := Lib.hid ct
        clear ct
        go_enter Try.func131, Try.ntmps131
        go_wp2_with fail
        refine (CT.out _).mono ?_; rintro e w1 ⟨rfl, hb1⟩
        obtain ⟨hc1, hf1⟩ := bcell hb1
        have z1_0 : w.heap.size < w1.heap.size := by (have := hb1.size; simp at this; omega)
        have z1_1 : w.heap.size + 1 < w1.heap.size := by (have := hb1.size; simp at this; omega)
        have z1_2 : w.heap.size + 2 < w1.heap.size := by (have := hb1.size; simp at this; omega)
        have B1 : Below w.heap.size w w1 := (Below.alloc (Below.alloc (Below.alloc (Below.refl _ _) (by simp <;> omega) _) (by simp <;> omega) _) (by simp <;> omega) _).trans (hb1.mono (by simp <;> omega))
        go_wp2_with fail
        go_ret
        exact ⟨ret_bool (by simp [onB, h1, h2, h3]), B1⟩
    · have CT := Lib.hid ct
      clear ct
      go_enter Try.func131, Try.ntmps131
      go_wp2_with fail
      refine (CT.out _).mono ?_; rintro e w1 ⟨rfl, hb1⟩
      obtain ⟨hc1, hf1⟩ := bcell hb1
      have z1_0 : w.heap.size < w1.heap.size := by (have := hb1.size; simp at this; omega)
      have z1_1 : w.heap.size + 1 < w1.heap.size := by (have := hb1.size; simp at this; omega)
      have z1_2 : w.heap.size + 2 < w1.heap.size := by (have := hb1.size; simp at this; omega)
      have B1 : Below w.heap.size w w1 := (Below.alloc (Below.alloc (Below.alloc (Below.refl _ _) (by simp <;> omega) _) (by simp <;> omega) _) (by simp <;> omega) _).trans (hb1.mono (by simp <;> omega))
      go_wp2_with fail
      go_ret
      exact ⟨ret_bool (by simp [onB, h1] <;> omega), B1⟩
  · have CT := Lib.hid ct
    clear ct
    go_enter Try.func131, Try.ntmps131
    go_wp2_with fail
    refine (CT.out _).mono ?_; rintro e w1 ⟨rfl, hb1⟩
    obtain ⟨hc1, hf1⟩ := bcell hb1
    have z1_0 : w.heap.size < w1.heap.size := by (have := hb1.size; simp at this; omega)
    have z1_1 : w.heap.size + 1 < w1.heap.size := by (have := hb1.size; simp at this; omega)
    have z1_2 : w.heap.size + 2 < w1.heap.size := by (have := hb1.size; simp at this; omega)
    have B1 : Below w.heap.size w w1 := (Below.alloc (Below.alloc (Below.alloc (Below.refl _ _) (by simp <;> omega) _) (by simp <;> omega) _) (by simp <;> omega) _).trans (hb1.mono (by simp <;> omega))
    go_wp2_with fail
    go_ret
    exact ⟨ret_bool (by simp [onB, h1]), B1⟩
end Go.Proofs.Ytieimijkkjhegaa
/- contracts: points on lines and lines that meet, on both sides -/
namespace Go.Proofs.Ytieimijkkjhegaa
open Go.ChangeShapes Go.WideShapes Go.ChangeAt Go.RowKit Go.Joins
set_option linter.unusedVariables false
set_option linter.unusedSimpArgs false
set_option maxRecDepth 4000
theorem between_iff (a b p : Int) : (a - p) * (b - p) ≤ 0 ↔ (min a b ≤ p ∧ p ≤ max a b) := by
  constructor
  · intro h
    rcases Int.lt_trichotomy a p with h1 | h1 | h1 <;> rcases Int.lt_trichotomy b p with h2 | h2 | h2
    all_goals first
      | omega
      | (have := Int.mul_pos_of_neg_of_neg (show a - p < 0 by omega) (show b - p < 0 by omega); omega)
      | (have := Int.mul_pos (show 0 < a - p by omega) (show 0 < b - p by omega); omega)
  · rintro ⟨h1, h2⟩
    rcases Int.le_total a b with h | h
    · have := Int.mul_nonneg (show 0 ≤ p - a by omega) (show 0 ≤ b - p by omega)
      have e : (p - a) * (b - p) = -((a - p) * (b - p)) := by rw [← Int.neg_mul]; congr 1; omega
      omega
    · have := Int.mul_nonneg (show 0 ≤ a - p by omega) (show 0 ≤ p - b by omega)
      have e : (a - p) * (p - b) = -((a - p) * (b - p)) := by rw [← Int.mul_neg]; congr 1; omega
      omega
theorem onB_eq (a1 a2 b1 b2 p1 p2 : Int) : onB a1 a2 b1 b2 p1 p2 = (decide (twI a1 a2 b1 b2 p1 p2 = 0) && decide (min a1 b1 ≤ p1 ∧ p1 ≤ max a1 b1) && decide (min a2 b2 ≤ p2 ∧ p2 ≤ max a2 b2)) := by
  unfold onB; simp only [between_iff]
theorem isBetween_any (p1 p2 a1 a2 b1 b2 : Int) (w : World) (hp : Sz p1 p2) (ha : Sz a1 a2) (hb : Sz b1 b2) :
    Calls Try.prog 134 #[.agg #[.int .i64 p1, .int .i64 p2], .agg #[.int .i64 a1, .int .i64 a2], .agg #[.int .i64 b1, .int .i64 b2]] w fun e w' => e = .returned (.bool (onB a1 a2 b1 b2 p1 p2)) ∧ Below w.heap.size w w' := by
  have CT := Lib.hid (fun W => twiceThree_any a1 a2 b1 b2 p1 p2 W ha hb hp)
  by_cases h1 : twI a1 a2 b1 b2 p1 p2 = 0
  · go_enter Try.func134, Try.ntmps134
    go_wp2_with fail
    refine (CT.out _).mono ?_; rintro e w1 ⟨rfl, hb1⟩
    obtain ⟨hc1, hf1⟩ := bcell hb1
    have z1_0 : w.heap.size < w1.heap.size := by (have := hb1.size; simp at this; omega)
    have z1_1 : w.heap.size + 1 < w1.heap.size := by (have := hb1.size; simp at this; omega)
    have z1_2 : w.heap.size + 2 < w1.heap.size := by (have := hb1.size; simp at this; omega)
    have B1 : Below w.heap.size w w1 := (Below.alloc (Below.alloc (Below.alloc (Below.refl _ _) (by simp <;> omega) _) (by simp <;> omega) _) (by simp <;> omega) _).trans (hb1.mono (by simp <;> omega))
    go_wp2_with fail
    all_goals
      go_ret
      exact ⟨ret_bool (by rw [onB_eq, Bool.eq_iff_iff]; simp [h1] <;> omega), B1⟩
  · go_enter Try.func134, Try.ntmps134
    go_wp2_with fail
    refine (CT.out _).mono ?_; rintro e w1 ⟨rfl, hb1⟩
    obtain ⟨hc1, hf1⟩ := bcell hb1
    have z1_0 : w.heap.size < w1.heap.size := by (have := hb1.size; simp at this; omega)
    have z1_1 : w.heap.size + 1 < w1.heap.size := by (have := hb1.size; simp at this; omega)
    have z1_2 : w.heap.size + 2 < w1.heap.size := by (have := hb1.size; simp at this; omega)
    have B1 : Below w.heap.size w w1 := (Below.alloc (Below.alloc (Below.alloc (Below.refl _ _) (by simp <;> omega) _) (by simp <;> omega) _) (by simp <;> omega) _).trans (hb1.mono (by simp <;> omega))
    go_wp2_with fail
    go_ret
    exact ⟨ret_bool (by simp [onB, h1]), B1⟩
/-- two lines have a point in common -/
def meetB (a1 a2 b1 b2 c1 c2 d1 d2 : Int) : Bool :=
  onB a1 a2 b1 b2 c1 c2 || onB a1 a2 b1 b2 d1 d2 || onB c1 c2 d1 d2 a1 a2 || onB c1 c2 d1 d2 b1 b2 ||
    decide (twI a1 a2 b1 b2 c1 c2 * twI a1 a2 b1 b2 d1 d2 < 0 ∧ twI c1 c2 d1 d2 a1 a2 * twI c1 c2 d1 d2 b1 b2 < 0)
theorem sgn_mul (m n : Int) : sgn m * sgn n < 0 ↔ m * n < 0 := by
  unfold sgn
  rcases Int.lt_trichotomy m 0 with h1 | h1 | h1 <;> rcases Int.lt_trichotomy n 0 with h2 | h2 | h2
  · have := Int.mul_pos_of_neg_of_neg h1 h2
    rw [if_neg (by omega), if_pos h1, if_neg (by omega), if_pos h2]; omega
  · subst h2; simp
  · have := Int.mul_neg_of_neg_of_pos h1 h2
    rw [if_neg (by omega), if_pos h1, if_pos h2]; omega
  · subst h1; simp
  · subst h1; simp
  · subst h1; simp
  · have := Int.mul_neg_of_pos_of_neg h1 h2
    rw [if_pos h1, if_neg (by omega), if_pos h2]; omega
  · subst h2; simp
  · have := Int.mul_pos h1 h2
    rw [if_pos h1, if_pos h2]; omega
theorem sgn_01 (m : Int) : sgn m = -1 ∨ sgn m = 0 ∨ sgn m = 1 := by unfold sgn; split; omega; split <;> omega
theorem twI_bd {a1 a2 b1 b2 c1 c2 : Int} (ha : Sz a1 a2) (hb : Sz b1 b2) (hc : Sz c1 c2) : -80000000000 ≤ twI a1 a2 b1 b2 c1 c2 ∧ twI a1 a2 b1 b2 c1 c2 ≤ 80000000000 := by
  unfold Sz at *
  have h1 := prod_bd (a := b1) (b := a1) (c := c2) (d := a2) (by omega) (by omega) (by omega) (by omega)
  have h2 := prod_bd (a := b2) (b := a2) (c := c1) (d := a1) (by omega) (by omega) (by omega) (by omega)
  unfold twI; omega
end Go.Proofs.Ytieimijkkjhegaa
/- A statement that leaves its order open, all of whose operations come to one value in every world that meets S and lead to such a world again: one walk through it, in the order of the text, serves for every order. -/
namespace Go.Proofs.Ytieimijkkjhegaa
open Go.ChangeShapes Go.WideShapes Go.ChangeAt Go.RowKit Go.Joins
set_option linter.unusedVariables false
set_option linter.unusedSimpArgs false
set_option maxRecDepth 4000
section
variable {P : Program} {ops : Array Oper} {Q : Exit → Act → World → Prop} {md : Region.Mode} {S : World → Prop}
/-- what an operation's run comes to: the value v, in a world that meets S -/
def Comes (P : Program) (S : World → Prop) (v : Value) : Result Next → Prop
  | .ok (.value u) w' => u = v ∧ S w'
  | .ok .skip w' => v = undef ∧ S w'
  | .ok (.enter f args) w' => Calls P f args w' fun e w'' => e = .returned v ∧ S w''
  | _ => False
theorem comes_value {u v : Value} {w' : World} : Comes P S v (.ok (.value u) w') = (u = v ∧ S w') := rfl
theorem comes_skip {v : Value} {w' : World} : Comes P S v (.ok .skip w') = (v = undef ∧ S w') := rfl
theorem comes_enter {v : Value} {f : FuncId} {args : Array Value} {w' : World} : Comes P S v (.ok (.enter f args) w') = Calls P f args w' (fun e w'' => e = .returned v ∧ S w'') := rfl
theorem comes_v {u : Value} {w' : World} (h : S w') : Comes P S u (.ok (.value u) w') := ⟨rfl, h⟩
theorem comes_e {v : Value} {f : FuncId} {args : Array Value} {w' : World} (h : Calls P f args w' fun e w'' => e = .returned v ∧ S w'') : Comes P S v (.ok (.enter f args) w') := h
theorem comes_c {v : Value} {f : FuncId} {args : Array Value} {w' : World} (h : Calls P f args w' fun e w'' => e = .returned v ∧ Below w'.heap.size w' w'') (hk : ∀ w'', Below w'.heap.size w' w'' → S w'') : Comes P S v (.ok (.enter f args) w') :=
  Calls.mono h fun e w'' he => ⟨he.1, hk w'' he.2⟩
theorem comes_q {v : Value} {f : FuncId} {args : Array Value} {w' : World} (h : Calls P f args w' fun e w'' => e = .returned v ∧ w' = w'') (hs : S w') : Comes P S v (.ok (.enter f args) w') :=
  Calls.mono h fun e w'' he => ⟨he.1, he.2 ▸ hs⟩
def Steady (P : Program) (ops : Array Oper) (S : World → Prop) (o : Oper) (v : Value) (a : Act) : Prop :=
  (Region.wanted o (yielded ops a.tmps) = true ∧ ∀ w, S w → Comes P S v ((execOp a.eval o).run P w)) ∨
  (Region.wanted o (yielded ops a.tmps) = false ∧ v = undef)
theorem steady_same {o : Oper} {v : Value} {a a' : Act} (hy : Steady P ops S o v a) (he : execOp a'.eval o = execOp a.eval o)
    (hw : Region.wanted o (yielded ops a'.tmps) = Region.wanted o (yielded ops a.tmps)) : Steady P ops S o v a' := by
  unfold Steady at *; rw [he, hw]; exact hy
theorem steady_op {i : Nat} {o : Oper} {v : Value} {a : Act} (hi : ops[i]? = some o) (hy : Steady P ops S o v a) {K : Act → World → Prop} {w : World} (hS : S w)
    (h : ∀ w', S w' → K (a.put o.dst v) w') : wpOp P ops Q i K a w := by
  unfold wpOp
  simp only [hi]
  rcases hy with ⟨hw, hv⟩ | ⟨hw, rfl⟩
  · simp only [hw, if_true]
    left
    have hc := hv w hS
    unfold Oper.wp
    generalize (execOp a.eval o).run P w = r at *
    cases r with
    | ok n w' =>
      cases n with
      | value u => obtain ⟨rfl, h'⟩ := hc; exact h _ h'
      | skip => obtain ⟨rfl, h'⟩ := hc; exact h _ h'
      | enter f args => exact Calls.mono hc fun e w'' he => by obtain ⟨rfl, hs⟩ := he; exact h _ hs
      | _ => exact hc.elim
    | halt x w' => exact hc.elim
  · simp only [hw, Bool.false_eq_true, if_false]
    exact h _ hS
/-- whichever comes up comes to one value: no world is spoken of till the end -/
def wpB (P : Program) (md : Region.Mode) (ops : Array Oper) (Q : Exit → Act → World → Prop) (S : World → Prop) : Nat → Array Bool → Act → Prop
  | 0, listed, a => Region.ready md ops listed = [] ∧ ∀ w, S w → Q .normal a w
  | fuel + 1, listed, a => (Region.ready md ops listed = [] → ∀ w, S w → Q .normal a w) ∧
    ∀ i ∈ Region.ready md ops listed, ∃ oi v, ops[i]? = some oi ∧ Steady P ops S oi v a ∧ wpB P md ops Q S fuel (listed.setIfInBounds i true) (a.put oi.dst v)
theorem wpAny_of_B : ∀ (fuel : Nat) (listed : Array Bool) (a : Act), wpB P md ops Q S fuel listed a → ∀ w, S w → wpAny P md ops Q fuel listed a w
  | 0, _, _, h, w, hS => ⟨h.1, h.2 w hS⟩
  | fuel + 1, _, _, h, w, hS => ⟨fun hr => h.1 hr w hS, fun i hi => by
      obtain ⟨oi, v, ho, hy, hn⟩ := h.2 i hi
      exact steady_op ho hy hS fun w' hS' => wpAny_of_B fuel _ _ hn w' hS'⟩
theorem wpB_first {i : Nat} {oi : Oper} {v : Value} (hi : ops[i]? = some oi) (hsel : ∀ (j : Nat) (o : Oper) cs b, ops[j]? = some o → o.op ≠ .select cs b) :
    ∀ (fuel : Nat) (listed : Array Bool) (a : Act),
      (∀ j oj, ops[j]? = some oj → j ≠ i → listed.getD j true = false → (∀ e ∈ oj.after, Region.binds md e = true → e.on ≠ i) → oi.apart ops oj = true) →
      i ∈ Region.ready md ops listed → Steady P ops S oi v a →
      wpB P md ops Q S fuel (listed.setIfInBounds i true) (a.put oi.dst v) → wpB P md ops Q S (fuel + 1) listed a := by
  intro fuel
  induction fuel with
  | zero =>
    intro listed a _ hr hy H
    refine ⟨fun h => (by rw [h] at hr; cases hr), fun j hj => ?_⟩
    by_cases hji : j = i
    · subst hji; exact ⟨oi, v, hi, hy, H⟩
    · have hm := ready_mono hj hji
      rw [H.1] at hm
      cases hm
  | succ fuel ih =>
    intro listed a hfree hr hy H
    refine ⟨fun h => (by rw [h] at hr; cases hr), fun j hj => ?_⟩
    by_cases hji : j = i
    · subst hji; exact ⟨oi, v, hi, hy, H⟩
    · obtain ⟨oj, u, hoj, hsj, Hj⟩ := H.2 j (ready_mono hj hji)
      obtain ⟨hjun, oj', hoj', hall⟩ := mem_ready.1 hj
      obtain rfl : oj' = oj := Option.some.inj (hoj'.symm.trans hoj)
      have hnot : ∀ e ∈ oj'.after, Region.binds md e = true → e.on ≠ i := fun e he hb heq => by
        have h1 := hall e he hb
        have h0 := (mem_ready.1 hr).1
        rw [heq] at h1
        have : listed.getD i true = listed.getD i false := by
          rcases Nat.lt_or_ge i listed.size with h' | h'
          · simp [h']
          · simp [Array.getElem?_eq_none h'] at h1
        rw [this, h1] at h0
        cases h0
      obtain ⟨h1, h2, h3⟩ := Oper.apart_spec (hfree j oj' hoj hji hjun hnot)
      have k1 : Steady P ops S oj' u a := steady_same hsj (execOp_put oj' (fun cs b => hsel j oj' cs b hoj) a oi.dst v h1).symm (wanted_put oj' a oi.dst v h1).symm
      have k2 : Steady P ops S oi v (a.put oj'.dst u) := steady_same hy (execOp_put oi (fun cs b => hsel i oi cs b hi) a oj'.dst u h3) (wanted_put oi a oj'.dst u h3)
      refine ⟨oj', u, hoj, k1, ih _ _ (fun k ok hk hki hun hno => ?_) (ready_mono hr (Ne.symm hji)) k2 ?_⟩
      · refine hfree k ok hk hki ?_ hno
        by_cases hjk : j = k
        · subst hjk; exact hjun
        · rw [getD_set_ne true hjk] at hun; exact hun
      · rw [Array.setIfInBounds_comm _ _ hji, ← Act.put_comm a v u h2]
        exact Hj
theorem wpB_take {i : Nat} {oi : Oper} {v : Value} {fuel : Nat} {listed : Array Bool} {a : Act} (hi : ops[i]? = some oi) (hs : Region.noSelect ops = true)
    (hf : Region.free md ops listed i = true) (hr : (Region.ready md ops listed).contains i = true) (hy : Steady P ops S oi v a)
    (h : wpB P md ops Q S fuel (listed.setIfInBounds i true) (a.put oi.dst v)) : wpB P md ops Q S (fuel + 1) listed a :=
  wpB_first hi (Region.noSelect_spec hs) fuel listed a (Region.free_spec hi hf) (by simpa using hr) hy h
theorem op_of_drop {i : Nat} {oi : Oper} {rest : List Oper} (h : ops.toList.drop i = oi :: rest) : ops[i]? = some oi := by
  have h0 : (ops.toList.drop i)[0]? = some oi := by rw [h]; rfl
  simpa [List.getElem?_drop] using h0
/-- number i, as it stands in the text -/
theorem wpB_text (i : Nat) {oi : Oper} {rest : List Oper} {v : Value} {fuel : Nat} {listed : Array Bool} {a : Act} (hi : ops.toList.drop i = oi :: rest) (hs : Region.noSelect ops = true)
    (hf : Region.free md ops listed i = true) (hr : (Region.ready md ops listed).contains i = true) (hw : Region.wanted oi (yielded ops a.tmps) = true)
    (hy : ∀ w, S w → Comes P S v ((execOp a.eval oi).run P w))
    (h : wpB P md ops Q S fuel (listed.setIfInBounds i true) (a.put oi.dst v)) : wpB P md ops Q S (fuel + 1) listed a :=
  wpB_take (op_of_drop hi) hs hf hr (Or.inl ⟨hw, hy⟩) h
/-- number i, which is not asked for -/
theorem wpB_skip (i : Nat) {oi : Oper} {rest : List Oper} {fuel : Nat} {listed : Array Bool} {a : Act} (hi : ops.toList.drop i = oi :: rest) (hs : Region.noSelect ops = true)
    (hf : Region.free md ops listed i = true) (hr : (Region.ready md ops listed).contains i = true) (hw : Region.wanted oi (yielded ops a.tmps) = false)
    (h : wpB P md ops Q S fuel (listed.setIfInBounds i true) (a.put oi.dst undef)) : wpB P md ops Q S (fuel + 1) listed a :=
  wpB_take (op_of_drop hi) hs hf hr (Or.inr ⟨hw, rfl⟩) h
theorem wpB_done {listed : Array Bool} {a : Act} (hr : Region.ready md ops listed = []) (h : ∀ w, S w → Q .normal a w) : ∀ fuel, wpB P md ops Q S fuel listed a
  | 0 => ⟨hr, h⟩
  | _ + 1 => ⟨fun _ => h, by rw [hr]; simp⟩
theorem wp_region_B {id : Nat} {a : Act} {w : World} (S : World → Prop) (hm : P.follows .mixedOrders = true) (hS : S w.drew)
    (h : wpB P .any ops Q S ops.size (Array.replicate ops.size false) a) : (Code.region id ops true).wp P Q a w :=
  wp_region_any hm (wpAny_of_B _ _ _ h _ hS)
end
end Go.Proofs.Ytieimijkkjhegaa
/- contracts: lines that meet, on both sides -/
namespace Go.Proofs.Ytieimijkkjhegaa
open Go.ChangeShapes Go.WideShapes Go.ChangeAt Go.RowKit Go.Joins
set_option linter.unusedVariables false
set_option linter.unusedSimpArgs false
set_option maxRecDepth 4000
theorem sgn_pr (m n : Int) : -1 ≤ sgn m * sgn n ∧ sgn m * sgn n ≤ 1 := by
  have h1 := sgn_01 m
  have h2 := sgn_01 n
  exact mul_bd (m := 1) (n := 1) (by omega) (by omega) (by omega) (by omega)
theorem held4 {w W W' : World} {a1 a2 b1 b2 c1 c2 d1 d2 : Int} (h : Below w.heap.size w W ∧ w.heap.size + 3 < W.heap.size ∧ W.cell? ⟨w.heap.size, 0, none⟩ = some (.int .i64 a1) ∧ W.cell? ⟨w.heap.size, 1, none⟩ = some (.int .i64 a2) ∧ W.cell? ⟨w.heap.size + 1, 0, none⟩ = some (.int .i64 b1) ∧ W.cell? ⟨w.heap.size + 1, 1, none⟩ = some (.int .i64 b2) ∧ W.cell? ⟨w.heap.size + 2, 0, none⟩ = some (.int .i64 c1) ∧ W.cell? ⟨w.heap.size + 2, 1, none⟩ = some (.int .i64 c2) ∧ W.cell? ⟨w.heap.size + 3, 0, none⟩ = some (.int .i64 d1) ∧ W.cell? ⟨w.heap.size + 3, 1, none⟩ = some (.int .i64 d2)) (hb : Below W.heap.size W W') : Below w.heap.size w W' ∧ w.heap.size + 3 < W'.heap.size ∧ W'.cell? ⟨w.heap.size, 0, none⟩ = some (.int .i64 a1) ∧ W'.cell? ⟨w.heap.size, 1, none⟩ = some (.int .i64 a2) ∧ W'.cell? ⟨w.heap.size + 1, 0, none⟩ = some (.int .i64 b1) ∧ W'.cell? ⟨w.heap.size + 1, 1, none⟩ = some (.int .i64 b2) ∧ W'.cell? ⟨w.heap.size + 2, 0, none⟩ = some (.int .i64 c1) ∧ W'.cell? ⟨w.heap.size + 2, 1, none⟩ = some (.int .i64 c2) ∧ W'.cell? ⟨w.heap.size + 3, 0, none⟩ = some (.int .i64 d1) ∧ W'.cell? ⟨w.heap.size + 3, 1, none⟩ = some (.int .i64 d2) := by
  obtain ⟨h1, h2, h3, h4, h5, h6, h7, h8, h9, h10⟩ := h
  have hc := (bcell hb).1
  have hz := hb.size
  have hz1 := h1.size
  exact ⟨h1.trans (hb.mono hz1), by omega, by rw [hc _ _ (by omega), h3], by rw [hc _ _ (by omega), h4], by rw [hc _ _ (by omega), h5], by rw [hc _ _ (by omega), h6], by rw [hc _ _ (by omega), h7], by rw [hc _ _ (by omega), h8], by rw [hc _ _ (by omega), h9], by rw [hc _ _ (by omega), h10]⟩
end Go.Proofs.Ytieimijkkjhegaa
/- contracts: lines that meet, the program's side -/
namespace Go.Proofs.Ytieimijkkjhegaa
open Go.ChangeShapes Go.WideShapes Go.ChangeAt Go.RowKit Go.Joins
set_option linter.unusedVariables false
set_option linter.unusedSimpArgs false
set_option maxRecDepth 4000
theorem sz_of {x y : Int} (h : isPegB x y = true) : Sz x y := by unfold isPegB at h; simp at h; unfold Sz; omega
theorem tw_bd40 {a1 a2 b1 b2 c1 c2 : Int} (ha : isPegB a1 a2 = true) (hb : isPegB b1 b2 = true) (hc : isPegB c1 c2 = true) : -12800 ≤ twI a1 a2 b1 b2 c1 c2 ∧ twI a1 a2 b1 b2 c1 c2 ≤ 12800 := by
  unfold isPegB at *
  simp at ha hb hc
  have h1 := mul_bd (x := b1 - a1) (y := c2 - a2) (m := 80) (n := 80) (by omega) (by omega) (by omega) (by omega)
  have h2 := mul_bd (x := b2 - a2) (y := c1 - a1) (m := 80) (n := 80) (by omega) (by omega) (by omega) (by omega)
  unfold twI; omega
end Go.Proofs.Ytieimijkkjhegaa
/- worlds in which the boxes of a call's points stand -/
namespace Go.Proofs.Ytieimijkkjhegaa
open Go.ChangeShapes Go.WideShapes Go.ChangeAt Go.RowKit Go.Joins
set_option linter.unusedVariables false
set_option linter.unusedSimpArgs false
set_option maxRecDepth 4000
theorem held1 {w W W' : World} {a1 a2 : Int} (h : Below w.heap.size w W ∧ w.heap.size + 0 < W.heap.size ∧ W.cell? ⟨w.heap.size, 0, none⟩ = some (.int .i64 a1) ∧ W.cell? ⟨w.heap.size, 1, none⟩ = some (.int .i64 a2)) (hb : Below W.heap.size W W') : Below w.heap.size w W' ∧ w.heap.size + 0 < W'.heap.size ∧ W'.cell? ⟨w.heap.size, 0, none⟩ = some (.int .i64 a1) ∧ W'.cell? ⟨w.heap.size, 1, none⟩ = some (.int .i64 a2) := by
  obtain ⟨h1, h2, h3, h4⟩ := h
  have hc := (bcell hb).1
  have hz := hb.size
  have hz1 := h1.size
  exact ⟨h1.trans (hb.mono hz1), by omega, by rw [hc _ _ (by omega), h3], by rw [hc _ _ (by omega), h4]⟩
theorem held2 {w W W' : World} {a1 a2 b1 b2 : Int} (h : Below w.heap.size w W ∧ w.heap.size + 1 < W.heap.size ∧ W.cell? ⟨w.heap.size, 0, none⟩ = some (.int .i64 a1) ∧ W.cell? ⟨w.heap.size, 1, none⟩ = some (.int .i64 a2) ∧ W.cell? ⟨w.heap.size + 1, 0, none⟩ = some (.int .i64 b1) ∧ W.cell? ⟨w.heap.size + 1, 1, none⟩ = some (.int .i64 b2)) (hb : Below W.heap.size W W') : Below w.heap.size w W' ∧ w.heap.size + 1 < W'.heap.size ∧ W'.cell? ⟨w.heap.size, 0, none⟩ = some (.int .i64 a1) ∧ W'.cell? ⟨w.heap.size, 1, none⟩ = some (.int .i64 a2) ∧ W'.cell? ⟨w.heap.size + 1, 0, none⟩ = some (.int .i64 b1) ∧ W'.cell? ⟨w.heap.size + 1, 1, none⟩ = some (.int .i64 b2) := by
  obtain ⟨h1, h2, h3, h4, h5, h6⟩ := h
  have hc := (bcell hb).1
  have hz := hb.size
  have hz1 := h1.size
  exact ⟨h1.trans (hb.mono hz1), by omega, by rw [hc _ _ (by omega), h3], by rw [hc _ _ (by omega), h4], by rw [hc _ _ (by omega), h5], by rw [hc _ _ (by omega), h6]⟩
theorem held3 {w W W' : World} {a1 a2 b1 b2 c1 c2 : Int} (h : Below w.heap.size w W ∧ w.heap.size + 2 < W.heap.size ∧ W.cell? ⟨w.heap.size, 0, none⟩ = some (.int .i64 a1) ∧ W.cell? ⟨w.heap.size, 1, none⟩ = some (.int .i64 a2) ∧ W.cell? ⟨w.heap.size + 1, 0, none⟩ = some (.int .i64 b1) ∧ W.cell? ⟨w.heap.size + 1, 1, none⟩ = some (.int .i64 b2) ∧ W.cell? ⟨w.heap.size + 2, 0, none⟩ = some (.int .i64 c1) ∧ W.cell? ⟨w.heap.size + 2, 1, none⟩ = some (.int .i64 c2)) (hb : Below W.heap.size W W') : Below w.heap.size w W' ∧ w.heap.size + 2 < W'.heap.size ∧ W'.cell? ⟨w.heap.size, 0, none⟩ = some (.int .i64 a1) ∧ W'.cell? ⟨w.heap.size, 1, none⟩ = some (.int .i64 a2) ∧ W'.cell? ⟨w.heap.size + 1, 0, none⟩ = some (.int .i64 b1) ∧ W'.cell? ⟨w.heap.size + 1, 1, none⟩ = some (.int .i64 b2) ∧ W'.cell? ⟨w.heap.size + 2, 0, none⟩ = some (.int .i64 c1) ∧ W'.cell? ⟨w.heap.size + 2, 1, none⟩ = some (.int .i64 c2) := by
  obtain ⟨h1, h2, h3, h4, h5, h6, h7, h8⟩ := h
  have hc := (bcell hb).1
  have hz := hb.size
  have hz1 := h1.size
  exact ⟨h1.trans (hb.mono hz1), by omega, by rw [hc _ _ (by omega), h3], by rw [hc _ _ (by omega), h4], by rw [hc _ _ (by omega), h5], by rw [hc _ _ (by omega), h6], by rw [hc _ _ (by omega), h7], by rw [hc _ _ (by omega), h8]⟩
theorem box1 (w : World) (t : TypeId) (a1 a2 : Int) : Below w.heap.size w (w.alloc (.cells #[.int .i64 a1, .int .i64 a2] t)) ∧ w.heap.size + 0 < (w.alloc (.cells #[.int .i64 a1, .int .i64 a2] t)).heap.size ∧ (w.alloc (.cells #[.int .i64 a1, .int .i64 a2] t)).cell? ⟨w.heap.size, 0, none⟩ = some (.int .i64 a1) ∧ (w.alloc (.cells #[.int .i64 a1, .int .i64 a2] t)).cell? ⟨w.heap.size, 1, none⟩ = some (.int .i64 a2) :=
  ⟨Below.alloc (Below.refl _ _) (by simp <;> omega) _, by simp <;> omega, by go_simp, by go_simp⟩
theorem box2 (w : World) (t : TypeId) (a1 a2 b1 b2 : Int) : Below w.heap.size w ((w.alloc (.cells #[.int .i64 a1, .int .i64 a2] t)).alloc (.cells #[.int .i64 b1, .int .i64 b2] t)) ∧ w.heap.size + 1 < ((w.alloc (.cells #[.int .i64 a1, .int .i64 a2] t)).alloc (.cells #[.int .i64 b1, .int .i64 b2] t)).heap.size ∧ ((w.alloc (.cells #[.int .i64 a1, .int .i64 a2] t)).alloc (.cells #[.int .i64 b1, .int .i64 b2] t)).cell? ⟨w.heap.size, 0, none⟩ = some (.int .i64 a1) ∧ ((w.alloc (.cells #[.int .i64 a1, .int .i64 a2] t)).alloc (.cells #[.int .i64 b1, .int .i64 b2] t)).cell? ⟨w.heap.size, 1, none⟩ = some (.int .i64 a2) ∧ ((w.alloc (.cells #[.int .i64 a1, .int .i64 a2] t)).alloc (.cells #[.int .i64 b1, .int .i64 b2] t)).cell? ⟨w.heap.size + 1, 0, none⟩ = some (.int .i64 b1) ∧ ((w.alloc (.cells #[.int .i64 a1, .int .i64 a2] t)).alloc (.cells #[.int .i64 b1, .int .i64 b2] t)).cell? ⟨w.heap.size + 1, 1, none⟩ = some (.int .i64 b2) :=
  ⟨Below.alloc (Below.alloc (Below.refl _ _) (by simp <;> omega) _) (by simp <;> omega) _, by simp <;> omega, by go_simp, by go_simp, by go_simp, by go_simp⟩
theorem box3 (w : World) (t : TypeId) (a1 a2 b1 b2 c1 c2 : Int) : Below w.heap.size w (((w.alloc (.cells #[.int .i64 a1, .int .i64 a2] t)).alloc (.cells #[.int .i64 b1, .int .i64 b2] t)).alloc (.cells #[.int .i64 c1, .int .i64 c2] t)) ∧ w.heap.size + 2 < (((w.alloc (.cells #[.int .i64 a1, .int .i64 a2] t)).alloc (.cells #[.int .i64 b1, .int .i64 b2] t)).alloc (.cells #[.int .i64 c1, .int .i64 c2] t)).heap.size ∧ (((w.alloc (.cells #[.int .i64 a1, .int .i64 a2] t)).alloc (.cells #[.int .i64 b1, .int .i64 b2] t)).alloc (.cells #[.int .i64 c1, .int .i64 c2] t)).cell? ⟨w.heap.size, 0, none⟩ = some (.int .i64 a1) ∧ (((w.alloc (.cells #[.int .i64 a1, .int .i64 a2] t)).alloc (.cells #[.int .i64 b1, .int .i64 b2] t)).alloc (.cells #[.int .i64 c1, .int .i64 c2] t)).cell? ⟨w.heap.size, 1, none⟩ = some (.int .i64 a2) ∧ (((w.alloc (.cells #[.int .i64 a1, .int .i64 a2] t)).alloc (.cells #[.int .i64 b1, .int .i64 b2] t)).alloc (.cells #[.int .i64 c1, .int .i64 c2] t)).cell? ⟨w.heap.size + 1, 0, none⟩ = some (.int .i64 b1) ∧ (((w.alloc (.cells #[.int .i64 a1, .int .i64 a2] t)).alloc (.cells #[.int .i64 b1, .int .i64 b2] t)).alloc (.cells #[.int .i64 c1, .int .i64 c2] t)).cell? ⟨w.heap.size + 1, 1, none⟩ = some (.int .i64 b2) ∧ (((w.alloc (.cells #[.int .i64 a1, .int .i64 a2] t)).alloc (.cells #[.int .i64 b1, .int .i64 b2] t)).alloc (.cells #[.int .i64 c1, .int .i64 c2] t)).cell? ⟨w.heap.size + 2, 0, none⟩ = some (.int .i64 c1) ∧ (((w.alloc (.cells #[.int .i64 a1, .int .i64 a2] t)).alloc (.cells #[.int .i64 b1, .int .i64 b2] t)).alloc (.cells #[.int .i64 c1, .int .i64 c2] t)).cell? ⟨w.heap.size + 2, 1, none⟩ = some (.int .i64 c2) :=
  ⟨Below.alloc (Below.alloc (Below.alloc (Below.refl _ _) (by simp <;> omega) _) (by simp <;> omega) _) (by simp <;> omega) _, by simp <;> omega, by go_simp, by go_simp, by go_simp, by go_simp, by go_simp, by go_simp⟩
theorem box4 (w : World) (t : TypeId) (a1 a2 b1 b2 c1 c2 d1 d2 : Int) : Below w.heap.size w ((((w.alloc (.cells #[.int .i64 a1, .int .i64 a2] t)).alloc (.cells #[.int .i64 b1, .int .i64 b2] t)).alloc (.cells #[.int .i64 c1, .int .i64 c2] t)).alloc (.cells #[.int .i64 d1, .int .i64 d2] t)) ∧ w.heap.size + 3 < ((((w.alloc (.cells #[.int .i64 a1, .int .i64 a2] t)).alloc (.cells #[.int .i64 b1, .int .i64 b2] t)).alloc (.cells #[.int .i64 c1, .int .i64 c2] t)).alloc (.cells #[.int .i64 d1, .int .i64 d2] t)).heap.size ∧ ((((w.alloc (.cells #[.int .i64 a1, .int .i64 a2] t)).alloc (.cells #[.int .i64 b1, .int .i64 b2] t)).alloc (.cells #[.int .i64 c1, .int .i64 c2] t)).alloc (.cells #[.int .i64 d1, .int .i64 d2] t)).cell? ⟨w.heap.size, 0, none⟩ = some (.int .i64 a1) ∧ ((((w.alloc (.cells #[.int .i64 a1, .int .i64 a2] t)).alloc (.cells #[.int .i64 b1, .int .i64 b2] t)).alloc (.cells #[.int .i64 c1, .int .i64 c2] t)).alloc (.cells #[.int .i64 d1, .int .i64 d2] t)).cell? ⟨w.heap.size, 1, none⟩ = some (.int .i64 a2) ∧ ((((w.alloc (.cells #[.int .i64 a1, .int .i64 a2] t)).alloc (.cells #[.int .i64 b1, .int .i64 b2] t)).alloc (.cells #[.int .i64 c1, .int .i64 c2] t)).alloc (.cells #[.int .i64 d1, .int .i64 d2] t)).cell? ⟨w.heap.size + 1, 0, none⟩ = some (.int .i64 b1) ∧ ((((w.alloc (.cells #[.int .i64 a1, .int .i64 a2] t)).alloc (.cells #[.int .i64 b1, .int .i64 b2] t)).alloc (.cells #[.int .i64 c1, .int .i64 c2] t)).alloc (.cells #[.int .i64 d1, .int .i64 d2] t)).cell? ⟨w.heap.size + 1, 1, none⟩ = some (.int .i64 b2) ∧ ((((w.alloc (.cells #[.int .i64 a1, .int .i64 a2] t)).alloc (.cells #[.int .i64 b1, .int .i64 b2] t)).alloc (.cells #[.int .i64 c1, .int .i64 c2] t)).alloc (.cells #[.int .i64 d1, .int .i64 d2] t)).cell? ⟨w.heap.size + 2, 0, none⟩ = some (.int .i64 c1) ∧ ((((w.alloc (.cells #[.int .i64 a1, .int .i64 a2] t)).alloc (.cells #[.int .i64 b1, .int .i64 b2] t)).alloc (.cells #[.int .i64 c1, .int .i64 c2] t)).alloc (.cells #[.int .i64 d1, .int .i64 d2] t)).cell? ⟨w.heap.size + 2, 1, none⟩ = some (.int .i64 c2) ∧ ((((w.alloc (.cells #[.int .i64 a1, .int .i64 a2] t)).alloc (.cells #[.int .i64 b1, .int .i64 b2] t)).alloc (.cells #[.int .i64 c1, .int .i64 c2] t)).alloc (.cells #[.int .i64 d1, .int .i64 d2] t)).cell? ⟨w.heap.size + 3, 0, none⟩ = some (.int .i64 d1) ∧ ((((w.alloc (.cells #[.int .i64 a1, .int .i64 a2] t)).alloc (.cells #[.int .i64 b1, .int .i64 b2] t)).alloc (.cells #[.int .i64 c1, .int .i64 c2] t)).alloc (.cells #[.int .i64 d1, .int .i64 d2] t)).cell? ⟨w.heap.size + 3, 1, none⟩ = some (.int .i64 d2) :=
  ⟨Below.alloc (Below.alloc (Below.alloc (Below.alloc (Below.refl _ _) (by simp <;> omega) _) (by simp <;> omega) _) (by simp <;> omega) _) (by simp <;> omega) _, by simp <;> omega, by go_simp, by go_simp, by go_simp, by go_simp, by go_simp, by go_simp, by go_simp, by go_simp⟩
end Go.Proofs.Ytieimijkkjhegaa
/- how many steps a line has -/
namespace Go.Proofs.Ytieimijkkjhegaa
open Go.ChangeShapes Go.WideShapes Go.ChangeAt Go.RowKit Go.Joins
set_option linter.unusedVariables false
set_option linter.unusedSimpArgs false
set_option maxRecDepth 4000
/-- the number of steps of a line -/
def stepN (a1 a2 b1 b2 : Int) : Int := ((Nat.gcd (a1 - b1).natAbs (a2 - b2).natAbs : Nat) : Int)
theorem stepN_bd {a1 a2 b1 b2 : Int} (ha : isPegB a1 a2 = true) (hb : isPegB b1 b2 = true) : 0 ≤ stepN a1 a2 b1 b2 ∧ stepN a1 a2 b1 b2 ≤ 160 := by
  unfold isPegB at *
  simp at ha hb
  unfold stepN
  rcases Nat.eq_zero_or_pos (a1 - b1).natAbs with h | h
  · rw [h, Nat.gcd_zero_left]; omega
  · have := Nat.le_of_dvd h (Nat.gcd_dvd_left (a1 - b1).natAbs (a2 - b2).natAbs); omega
end Go.Proofs.Ytieimijkkjhegaa

