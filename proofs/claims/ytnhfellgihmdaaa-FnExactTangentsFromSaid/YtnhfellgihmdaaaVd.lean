/- plain: which of the corners of a band one sees first, from a point outside -/
import Derived.Test.YtnhfellgihmdaaaVa
namespace Go.Proofs.Ytnhfellgihmdaaa
open Go.ChangeShapes Go.WideShapes Go.ChangeAt Go.RowKit Go.Joins
set_option linter.unusedVariables false
set_option linter.unusedSimpArgs false
set_option maxRecDepth 4000
/-- seen from p, q comes before c: to the right of it (s = 1) or to the left (s = -1), or nearer -/
def befB (p : Int × Int) (s : Int) (q c : Int × Int) : Bool := decide (0 < s * MH.tw p q c) || (decide (s * MH.tw p q c = 0) && decide (MH.sq q p < MH.sq c p))
theorem befB_iff {p q c : Int × Int} {s : Int} : befB p s q c = true ↔ (0 < s * MH.tw p q c ∨ (s * MH.tw p q c = 0 ∧ MH.sq q p < MH.sq c p)) := by unfold befB; simp
theorem tw_mix (a b p x y z : Int × Int) : (MH.tw a b y - MH.tw a b p) * MH.tw p x z = (MH.tw a b z - MH.tw a b p) * MH.tw p x y + (MH.tw a b x - MH.tw a b p) * MH.tw p y z := by unfold MH.tw; grind
theorem mul_pos_of {a b : Int} (ha : 0 < a) (hb : 0 < b) : 0 < a * b := Int.mul_pos ha hb
theorem pos_of_mul {k x : Int} (hk : 0 < k) (h : 0 < k * x) : 0 < x := by
  rcases Int.lt_or_le 0 x with h1 | h1
  · exact h1
  · have := Int.mul_nonpos_of_nonneg_of_nonpos (Int.le_of_lt hk) h1
    omega
theorem zero_of_mul {k x : Int} (hk : 0 < k) (h : k * x = 0) : x = 0 := by
  rcases Int.mul_eq_zero.1 h with h1 | h1
  · omega
  · exact h1
theorem bef_trans {a b p x y z : Int × Int} {s : Int} (hx : MH.tw a b p < MH.tw a b x) (hy : MH.tw a b p < MH.tw a b y) (hz : MH.tw a b p < MH.tw a b z) (h1 : befB p s x y = true) (h2 : befB p s y z = true) : befB p s x z = true := by
  rw [befB_iff] at *
  have hm := tw_mix a b p x y z
  have hm2 : (MH.tw a b y - MH.tw a b p) * (s * MH.tw p x z) = (MH.tw a b z - MH.tw a b p) * (s * MH.tw p x y) + (MH.tw a b x - MH.tw a b p) * (s * MH.tw p y z) := by
    have e1 : (MH.tw a b y - MH.tw a b p) * (s * MH.tw p x z) = s * ((MH.tw a b y - MH.tw a b p) * MH.tw p x z) := by grind
    rw [e1, hm]; grind
  generalize s * MH.tw p x z = u at *
  generalize s * MH.tw p x y = v at *
  generalize s * MH.tw p y z = t at *
  have kx : 0 < MH.tw a b x - MH.tw a b p := by omega
  have ky : 0 < MH.tw a b y - MH.tw a b p := by omega
  have kz : 0 < MH.tw a b z - MH.tw a b p := by omega
  generalize MH.tw a b x - MH.tw a b p = X at *
  generalize MH.tw a b y - MH.tw a b p = Y at *
  generalize MH.tw a b z - MH.tw a b p = Z at *
  rcases h1 with h1 | ⟨h1, g1⟩
  · left
    have p1 := Int.mul_pos kz h1
    have p2 : 0 ≤ X * t := by
      rcases h2 with h2 | ⟨h2, _⟩
      · exact Int.le_of_lt (Int.mul_pos kx h2)
      · rw [h2]; omega
    exact pos_of_mul ky (by omega)
  · rcases h2 with h2 | ⟨h2, g2⟩
    · left
      have p2 := Int.mul_pos kx h2
      rw [h1] at hm2
      exact pos_of_mul ky (by omega)
    · right
      rw [h1, h2] at hm2
      exact ⟨zero_of_mul ky (by omega), by omega⟩
theorem bef_irr (p q : Int × Int) (s : Int) : befB p s q q = false := by
  have : MH.tw p q q = 0 := by unfold MH.tw; grind
  unfold befB
  rw [this]; simp
theorem same_ray {a b p x y : Int × Int} (hx : MH.tw a b p < MH.tw a b x) (hy : MH.tw a b p < MH.tw a b y) (h : MH.tw p x y = 0) (hs : MH.sq x p = MH.sq y p) : x = y := by
  have e1 : (MH.tw a b x - MH.tw a b p) * (y.1 - p.1) - (MH.tw a b y - MH.tw a b p) * (x.1 - p.1) = -((b.1 - a.1) * MH.tw p x y) := by unfold MH.tw; grind
  have e2 : (MH.tw a b x - MH.tw a b p) * (y.2 - p.2) - (MH.tw a b y - MH.tw a b p) * (x.2 - p.2) = -((b.2 - a.2) * MH.tw p x y) := by unfold MH.tw; grind
  rw [h] at e1 e2
  have k0 : x ≠ p := by rintro rfl; omega
  have hp := sq_pos k0
  have kx : 0 < MH.tw a b x - MH.tw a b p := by omega
  have ky : 0 < MH.tw a b y - MH.tw a b p := by omega
  unfold MH.sq at hs hp
  generalize MH.tw a b x - MH.tw a b p = X at *
  generalize MH.tw a b y - MH.tw a b p = Y at *
  obtain ⟨x1, x2⟩ := x
  obtain ⟨y1, y2⟩ := y
  obtain ⟨p1, p2⟩ := p
  simp only at *
  generalize hu1 : x1 - p1 = u1 at *
  generalize hu2 : x2 - p2 = u2 at *
  generalize hv1 : y1 - p1 = v1 at *
  generalize hv2 : y2 - p2 = v2 at *
  have f1 : X * v1 = Y * u1 := by omega
  have f2 : X * v2 = Y * u2 := by omega
  have g : (X * X) * (u1 * u1 + u2 * u2) = (Y * Y) * (u1 * u1 + u2 * u2) := by
    have q1 : ∀ A B C : Int, (A * A) * (B * B + C * C) = (A * B) * (A * B) + (A * C) * (A * C) := by intro A B C; grind
    rw [q1 Y u1 u2, ← f1, ← f2, ← q1 X v1 v2, hs]
  have g2 : X * X = Y * Y := Int.eq_of_mul_eq_mul_right (by omega) g
  have g3 : X = Y := by
    rcases Int.lt_trichotomy X Y with h | h | h
    · have := Int.mul_lt_mul_of_pos_left h kx
      have := Int.mul_lt_mul_of_pos_right h ky
      omega
    · exact h
    · have := Int.mul_lt_mul_of_pos_left h ky
      have := Int.mul_lt_mul_of_pos_right h kx
      omega
  subst g3
  have c1 := Int.eq_of_mul_eq_mul_left (show X ≠ 0 by omega) f1
  have c2 := Int.eq_of_mul_eq_mul_left (show X ≠ 0 by omega) f2
  exact Prod.ext (by simp only; omega) (by simp only; omega)
theorem bef_total {a b p x y : Int × Int} {s : Int} (hs1 : s = 1 ∨ s = -1) (hx : MH.tw a b p < MH.tw a b x) (hy : MH.tw a b p < MH.tw a b y) (hne : x ≠ y) : befB p s x y = true ∨ befB p s y x = true := by
  rw [befB_iff, befB_iff]
  have e : MH.tw p y x = - MH.tw p x y := by unfold MH.tw; grind
  rw [e]
  rcases Int.lt_trichotomy (MH.tw p x y) 0 with h | h | h
  · rcases hs1 with rfl | rfl
    · right; left; omega
    · left; left; omega
  · rw [h]
    rcases Int.lt_trichotomy (MH.sq x p) (MH.sq y p) with g | g | g
    · left; right; exact ⟨by omega, g⟩
    · exact absurd (same_ray hx hy h g) hne
    · right; right; exact ⟨by omega, g⟩
  · rcases hs1 with rfl | rfl
    · left; left; omega
    · right; left; omega
/-- a line that has a point on its right and all others not -/
def SepT (H : List (Int × Int)) (p : Int × Int) : Prop := ∃ a b, ∀ j, j < H.length → MH.tw a b p < MH.tw a b (pt H j)
def tanF (H : List (Int × Int)) (p : Int × Int) (s : Int) : Nat → Int × Int
  | 0 => pt H 0
  | k + 1 => if befB p s (pt H (k + 1)) (tanF H p s k) = true then pt H (k + 1) else tanF H p s k
theorem tan_at (H : List (Int × Int)) (p : Int × Int) (s : Int) : ∀ k, ∃ i, i ≤ k ∧ tanF H p s k = pt H i
  | 0 => ⟨0, Nat.le_refl _, rfl⟩
  | k + 1 => by
    rw [tanF]
    split
    · exact ⟨k + 1, Nat.le_refl _, rfl⟩
    · obtain ⟨i, hi, e⟩ := tan_at H p s k
      exact ⟨i, by omega, e⟩
theorem tan_first {H : List (Int × Int)} {p : Int × Int} {s : Int} (hs1 : s = 1 ∨ s = -1) (hS : SepT H p) : ∀ k, k < H.length → ∀ i, i ≤ k → befB p s (pt H i) (tanF H p s k) = false
  | 0, hk, i, hi => by
    obtain rfl : i = 0 := by omega
    exact bef_irr _ _ _
  | k + 1, hk, i, hi => by
    obtain ⟨a, b, hab⟩ := hS
    have ih := tan_first hs1 ⟨a, b, hab⟩ k (by omega)
    obtain ⟨j, hj, ej⟩ := tan_at H p s k
    rw [tanF]
    split
    · rename_i h
      by_cases e : i = k + 1
      · subst e; exact bef_irr _ _ _
      · have hi2 := ih i (by omega)
        by_cases h3 : befB p s (pt H i) (pt H (k + 1)) = true
        · have := bef_trans (hab i (by omega)) (hab (k + 1) (by omega)) (by rw [ej]; exact hab j (by omega)) h3 h
          rw [this] at hi2
          cases hi2
        · simpa using h3
    · rename_i h
      by_cases e : i = k + 1
      · subst e; simpa using h
      · exact ih i (by omega)
/-- a point before which there is none is the one that the model tells -/
theorem tan_only {H : List (Int × Int)} {p : Int × Int} {s : Int} (hs1 : s = 1 ∨ s = -1) (hS : SepT H p) (h0 : 0 < H.length) {i : Nat} (hi : i < H.length) (hno : ∀ j, j < H.length → befB p s (pt H j) (pt H i) = false) : pt H i = tanF H p s (H.length - 1) := by
  have hf := tan_first hs1 hS (H.length - 1) (by omega) i (by omega)
  obtain ⟨j, hj, ej⟩ := tan_at H p s (H.length - 1)
  have hg := hno j (by omega)
  obtain ⟨a, b, hab⟩ := hS
  by_cases e : pt H i = tanF H p s (H.length - 1)
  · exact e
  · exfalso
    rw [ej] at hf e
    rcases bef_total hs1 (hab i hi) (hab j (by omega)) e with h | h
    · rw [h] at hf; cases hf
    · rw [h] at hg; cases hg
/-- there is a point before which there is none -/
theorem tan_some {H : List (Int × Int)} {p : Int × Int} {s : Int} (hs1 : s = 1 ∨ s = -1) (hS : SepT H p) (h0 : 0 < H.length) : ∃ i, i < H.length ∧ ∀ j, j < H.length → befB p s (pt H j) (pt H i) = false := by
  obtain ⟨i, hi, ei⟩ := tan_at H p s (H.length - 1)
  refine ⟨i, by omega, fun j hj => ?_⟩
  rw [← ei]
  exact tan_first hs1 hS (H.length - 1) (by omega) j (by omega)
theorem sep_band {l : List (Int × Int)} {p : Int × Int} (hd : Dif l) (h3 : 3 ≤ (band l).length) (hout : inHB (band l) p = false) : SepT (band l) p := by
  have hc := band_cvx hd h3
  unfold inHB at hout
  rw [if_neg (by omega)] at hout
  have hno : ¬ InH (band l) p := @of_decide_eq_false _ (Classical.propDecidable _) hout
  have : ∃ i, i < (band l).length ∧ MH.tw (vx (band l) i) (vx (band l) (i + 1)) p < 0 := by
    apply Classical.byContradiction
    intro hn
    apply hno
    intro i hi
    rcases Int.lt_or_le (MH.tw (vx (band l) i) (vx (band l) (i + 1)) p) 0 with h | h
    · exact absurd ⟨i, hi, h⟩ hn
    · exact h
  obtain ⟨i, hi, hlt⟩ := this
  refine ⟨vx (band l) i, vx (band l) (i + 1), fun j hj => ?_⟩
  have := hc.left i j
  rw [← vx_pt hj]
  exact Int.lt_of_lt_of_le hlt this
/-- what the call tells -/
noncomputable def tzB (l : List (Int × Int)) (p : Int × Int) : Bool := difB l && isPg p && decide (3 ≤ (band l).length) && !inHB (band l) p
noncomputable def tzV (l : List (Int × Int)) (p : Int × Int) (s : Int) : Int × Int := if tzB l p = true then tanF (band l) p s ((band l).length - 1) else (0, 0)
end Go.Proofs.Ytnhfellgihmdaaa
