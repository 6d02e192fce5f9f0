/- joined: Va Vd VA VB -/
import Derived.Test.YthpbnfmfedggjaaMA
import Derived.Test.YthpbnfmfedggjaaBk
import Derived.Deep.Slices
import Derived.Test.YthpbnfmfedggjaaBj
import Derived.BigRegion
import Derived.WalkMore
import Derived.Test.YthpbnfmfedggjaaMC
import Derived.Test.YthpbnfmfedggjaaMB
import Derived.Deep.CutRange
import Derived.Deep.RegionWith
import Derived.Deep.DeepMust
/- plain: the two points of a list that are farthest apart -/
namespace Go.Proofs.Ythpbnfmfedggjaa
open Go.ChangeShapes Go.WideShapes Go.ChangeAt Go.RowKit Go.Joins
set_option linter.unusedVariables false
set_option linter.unusedSimpArgs false
set_option maxRecDepth 4000
abbrev Fa3 := (Int × Int) × (Int × Int) × Int
def farStep (p : Int × Int) (a : Fa3) (q : Int × Int) : Fa3 := if a.2.2 < MH.sq q p then (p, q, MH.sq q p) else a
def farRow (s : List (Int × Int)) (i : Nat) (a : Fa3) : Nat → Fa3
  | 0 => a
  | m + 1 => farStep (pt s i) (farRow s i a m) (pt s (i + 1 + m))
def farAll (s : List (Int × Int)) (a : Fa3) : Nat → Fa3
  | 0 => a
  | k + 1 => farRow s k (farAll s a k) (s.length - (k + 1))
theorem sq_nn (p q : Int × Int) : 0 ≤ MH.sq p q := by
  unfold MH.sq
  have h1 : 0 ≤ (p.1 - q.1) * (p.1 - q.1) := by rcases Int.le_total 0 (p.1 - q.1) with h | h; exact Int.mul_nonneg h h; exact Int.mul_nonneg_of_nonpos_of_nonpos h h
  have h2 : 0 ≤ (p.2 - q.2) * (p.2 - q.2) := by rcases Int.le_total 0 (p.2 - q.2) with h | h; exact Int.mul_nonneg h h; exact Int.mul_nonneg_of_nonpos_of_nonpos h h
  omega
theorem sq_pos {p q : Int × Int} (h : p ≠ q) : 0 < MH.sq p q := by
  have h0 := sq_nn p q
  rcases Int.lt_or_eq_of_le h0 with h1 | h1
  · exact h1
  · exfalso
    apply h
    unfold MH.sq at h1
    have a1 : 0 ≤ (p.1 - q.1) * (p.1 - q.1) := by rcases Int.le_total 0 (p.1 - q.1) with h | h; exact Int.mul_nonneg h h; exact Int.mul_nonneg_of_nonpos_of_nonpos h h
    have a2 : 0 ≤ (p.2 - q.2) * (p.2 - q.2) := by rcases Int.le_total 0 (p.2 - q.2) with h | h; exact Int.mul_nonneg h h; exact Int.mul_nonneg_of_nonpos_of_nonpos h h
    have b1 : (p.1 - q.1) * (p.1 - q.1) = 0 := by omega
    have b2 : (p.2 - q.2) * (p.2 - q.2) = 0 := by omega
    have c1 : p.1 - q.1 = 0 := by rcases Int.mul_eq_zero.1 b1 with h | h <;> exact h
    have c2 : p.2 - q.2 = 0 := by rcases Int.mul_eq_zero.1 b2 with h | h <;> exact h
    exact Prod.ext (by omega) (by omega)
theorem sq_comm (p q : Int × Int) : MH.sq p q = MH.sq q p := by unfold MH.sq; grind
theorem far_row_same {s : List (Int × Int)} (h : pt s 0 ≠ pt s 1) : ∀ m, farRow s 0 ((0, 0), (0, 0), 0) (m + 1) = farRow s 0 (pt s 0, pt s 1, MH.sq (pt s 1) (pt s 0)) (m + 1)
  | 0 => by
    have := sq_pos (Ne.symm h)
    unfold farRow farRow farStep
    rw [if_pos (by simpa using this), if_neg (by simp)]
  | m + 1 => by
    rw [farRow, far_row_same h m, ← farRow]
theorem far_same {s : List (Int × Int)} (h2 : 2 ≤ s.length) (h : pt s 0 ≠ pt s 1) : ∀ k, farAll s ((0, 0), (0, 0), 0) (k + 1) = farAll s (pt s 0, pt s 1, MH.sq (pt s 1) (pt s 0)) (k + 1)
  | 0 => by
    unfold farAll farAll
    obtain ⟨m, hm⟩ : ∃ m, s.length - (0 + 1) = m + 1 := ⟨s.length - 2, by omega⟩
    rw [hm]
    exact far_row_same h m
  | k + 1 => by rw [farAll, far_same h2 h k, ← farAll]
/-- what is told so far: two points of the list, and the square of how far they are apart; or nothing -/
def FarOk (a : Fa3) : Prop := isPg a.1 = true ∧ isPg a.2.1 = true ∧ 0 ≤ a.2.2 ∧ a.2.2 ≤ 12800
theorem sq_le {p q : Int × Int} (hp : isPg p = true) (hq : isPg q = true) : MH.sq p q ≤ 12800 := by
  have h1 : -40 ≤ p.1 ∧ p.1 ≤ 40 ∧ -40 ≤ p.2 ∧ p.2 ≤ 40 := by unfold isPg isPegB at hp; simp at hp; omega
  have h2 : -40 ≤ q.1 ∧ q.1 ≤ 40 ∧ -40 ≤ q.2 ∧ q.2 ≤ 40 := by unfold isPg isPegB at hq; simp at hq; omega
  unfold MH.sq
  have a1 := mul_bd (x := p.1 - q.1) (y := p.1 - q.1) (m := 80) (n := 80) (by omega) (by omega) (by omega) (by omega)
  have a2 := mul_bd (x := p.2 - q.2) (y := p.2 - q.2) (m := 80) (n := 80) (by omega) (by omega) (by omega) (by omega)
  omega
theorem far_step_ok {p q : Int × Int} {a : Fa3} (hp : isPg p = true) (hq : isPg q = true) (h : FarOk a) : FarOk (farStep p a q) := by
  unfold farStep
  split
  · exact ⟨hp, hq, sq_nn _ _, sq_le hq hp⟩
  · exact h
theorem far_row_ok {s : List (Int × Int)} {i : Nat} {a : Fa3} (hs : ∀ x ∈ s, isPg x = true) (hi : i < s.length) (h : FarOk a) : ∀ m, i + 1 + m ≤ s.length → FarOk (farRow s i a m)
  | 0, _ => h
  | m + 1, hm => far_step_ok (hs _ (pt_mem hi)) (hs _ (pt_mem (by omega))) (far_row_ok hs hi h m (by omega))
theorem far_all_ok {s : List (Int × Int)} {a : Fa3} (hs : ∀ x ∈ s, isPg x = true) (h : FarOk a) : ∀ k, k ≤ s.length → FarOk (farAll s a k)
  | 0, _ => h
  | k + 1, hk => far_row_ok hs (by omega) (far_all_ok hs h k (by omega)) _ (by omega)
theorem far_zero : FarOk ((0, 0), (0, 0), 0) := ⟨rfl, rfl, by decide, by decide⟩
theorem far_first {s : List (Int × Int)} (hs : ∀ x ∈ s, isPg x = true) (h2 : 2 ≤ s.length) : FarOk (pt s 0, pt s 1, MH.sq (pt s 1) (pt s 0)) :=
  ⟨hs _ (pt_mem (by omega)), hs _ (pt_mem (by omega)), sq_nn _ _, sq_le (hs _ (pt_mem (by omega))) (hs _ (pt_mem (by omega)))⟩
/-- the last number belongs to the two points -/
def FarSq (a : Fa3) : Prop := a.2.2 = MH.sq a.2.1 a.1
theorem far_step_sq {p q : Int × Int} {a : Fa3} (h : FarSq a) : FarSq (farStep p a q) := by
  unfold farStep
  split
  · rfl
  · exact h
theorem far_row_sq {s : List (Int × Int)} {i : Nat} {a : Fa3} (h : FarSq a) : ∀ m, FarSq (farRow s i a m)
  | 0 => h
  | m + 1 => far_step_sq (far_row_sq h m)
theorem far_all_sq {s : List (Int × Int)} {a : Fa3} (h : FarSq a) : ∀ k, FarSq (farAll s a k)
  | 0 => h
  | k + 1 => far_row_sq (far_all_sq h k) _
theorem srt_two {l : List (Int × Int)} (hd : l.Nodup) (h2 : 2 ≤ l.length) : pt (srt l) 0 ≠ pt (srt l) 1 := by
  have hs := srt_sorted hd
  have hl := srt_len l
  intro e
  have h0 := pt_get (l := srt l) (i := 0) (by omega)
  have h1 := pt_get (l := srt l) (i := 1) (by omega)
  have := (List.pairwise_iff_getElem.1 hs) 0 1 (by omega) (by omega) (by omega)
  rw [List.getElem?_eq_getElem (by omega)] at h0 h1
  injection h0 with h0
  injection h1 with h1
  rw [h0, h1, ← e] at this
  unfold lxP at this
  omega
/-- what the call tells: two points and a number, or nothing -/
noncomputable def fzB (l : List (Int × Int)) : Bool := difB l && decide (2 ≤ l.length)
noncomputable def fzV (l : List (Int × Int)) : Fa3 := if fzB l = true then farAll (srt l) ((0, 0), (0, 0), 0) l.length else ((0, 0), (0, 0), 0)
end Go.Proofs.Ythpbnfmfedggjaa
/- plain: which of the corners of a band one sees first, from a point outside -/
namespace Go.Proofs.Ythpbnfmfedggjaa
open Go.ChangeShapes Go.WideShapes Go.ChangeAt Go.RowKit Go.Joins
set_option linter.unusedVariables false
set_option linter.unusedSimpArgs false
set_option maxRecDepth 4000
/-- seen from p, q comes before c: to the right of it (s = 1) or to the left (s = -1), or nearer -/
def befB (p : Int × Int) (s : Int) (q c : Int × Int) : Bool := decide (0 < s * MH.tw p q c) || (decide (s * MH.tw p q c = 0) && decide (MH.sq q p < MH.sq c p))
theorem befB_iff {p q c : Int × Int} {s : Int} : befB p s q c = true ↔ (0 < s * MH.tw p q c ∨ (s * MH.tw p q c = 0 ∧ MH.sq q p < MH.sq c p)) := by unfold befB; simp
theorem tw_mix (a b p x y z : Int × Int) : (MH.tw a b y - MH.tw a b p) * MH.tw p x z = (MH.tw a b z - MH.tw a b p) * MH.tw p x y + (MH.tw a b x - MH.tw a b p) * MH.tw p y z := by unfold MH.tw; grind
theorem mul_pos_of {a b : Int} (ha : 0 < a) (hb : 0 < b) : 0 < a * b := Int.mul_pos ha hb
theorem pos_of_mul {k x : Int} (hk : 0 < k) (h : 0 < k * x) : 0 < x := by
  rcases Int.lt_or_le 0 x with h1 | h1
  · exact h1
  · have := Int.mul_nonpos_of_nonneg_of_nonpos (Int.le_of_lt hk) h1
    omega
theorem zero_of_mul {k x : Int} (hk : 0 < k) (h : k * x = 0) : x = 0 := by
  rcases Int.mul_eq_zero.1 h with h1 | h1
  · omega
  · exact h1
theorem bef_trans {a b p x y z : Int × Int} {s : Int} (hx : MH.tw a b p < MH.tw a b x) (hy : MH.tw a b p < MH.tw a b y) (hz : MH.tw a b p < MH.tw a b z) (h1 : befB p s x y = true) (h2 : befB p s y z = true) : befB p s x z = true := by
  rw [befB_iff] at *
  have hm := tw_mix a b p x y z
  have hm2 : (MH.tw a b y - MH.tw a b p) * (s * MH.tw p x z) = (MH.tw a b z - MH.tw a b p) * (s * MH.tw p x y) + (MH.tw a b x - MH.tw a b p) * (s * MH.tw p y z) := by
    have e1 : (MH.tw a b y - MH.tw a b p) * (s * MH.tw p x z) = s * ((MH.tw a b y - MH.tw a b p) * MH.tw p x z) := by grind
    rw [e1, hm]; grind
  generalize s * MH.tw p x z = u at *
  generalize s * MH.tw p x y = v at *
  generalize s * MH.tw p y z = t at *
  have kx : 0 < MH.tw a b x - MH.tw a b p := by omega
  have ky : 0 < MH.tw a b y - MH.tw a b p := by omega
  have kz : 0 < MH.tw a b z - MH.tw a b p := by omega
  generalize MH.tw a b x - MH.tw a b p = X at *
  generalize MH.tw a b y - MH.tw a b p = Y at *
  generalize MH.tw a b z - MH.tw a b p = Z at *
  rcases h1 with h1 | ⟨h1, g1⟩
  · left
    have p1 := Int.mul_pos kz h1
    have p2 : 0 ≤ X * t := by
      rcases h2 with h2 | ⟨h2, _⟩
      · exact Int.le_of_lt (Int.mul_pos kx h2)
      · rw [h2]; omega
    exact pos_of_mul ky (by omega)
  · rcases h2 with h2 | ⟨h2, g2⟩
    · left
      have p2 := Int.mul_pos kx h2
      rw [h1] at hm2
      exact pos_of_mul ky (by omega)
    · right
      rw [h1, h2] at hm2
      exact ⟨zero_of_mul ky (by omega), by omega⟩
theorem bef_irr (p q : Int × Int) (s : Int) : befB p s q q = false := by
  have : MH.tw p q q = 0 := by unfold MH.tw; grind
  unfold befB
  rw [this]; simp
theorem same_ray {a b p x y : Int × Int} (hx : MH.tw a b p < MH.tw a b x) (hy : MH.tw a b p < MH.tw a b y) (h : MH.tw p x y = 0) (hs : MH.sq x p = MH.sq y p) : x = y := by
  have e1 : (MH.tw a b x - MH.tw a b p) * (y.1 - p.1) - (MH.tw a b y - MH.tw a b p) * (x.1 - p.1) = -((b.1 - a.1) * MH.tw p x y) := by unfold MH.tw; grind
  have e2 : (MH.tw a b x - MH.tw a b p) * (y.2 - p.2) - (MH.tw a b y - MH.tw a b p) * (x.2 - p.2) = -((b.2 - a.2) * MH.tw p x y) := by unfold MH.tw; grind
  rw [h] at e1 e2
  have k0 : x ≠ p := by rintro rfl; omega
  have hp := sq_pos k0
  have kx : 0 < MH.tw a b x - MH.tw a b p := by omega
  have ky : 0 < MH.tw a b y - MH.tw a b p := by omega
  unfold MH.sq at hs hp
  generalize MH.tw a b x - MH.tw a b p = X at *
  generalize MH.tw a b y - MH.tw a b p = Y at *
  obtain ⟨x1, x2⟩ := x
  obtain ⟨y1, y2⟩ := y
  obtain ⟨p1, p2⟩ := p
  simp only at *
  generalize hu1 : x1 - p1 = u1 at *
  generalize hu2 : x2 - p2 = u2 at *
  generalize hv1 : y1 - p1 = v1 at *
  generalize hv2 : y2 - p2 = v2 at *
  have f1 : X * v1 = Y * u1 := by omega
  have f2 : X * v2 = Y * u2 := by omega
  have g : (X * X) * (u1 * u1 + u2 * u2) = (Y * Y) * (u1 * u1 + u2 * u2) := by
    have q1 : ∀ A B C : Int, (A * A) * (B * B + C * C) = (A * B) * (A * B) + (A * C) * (A * C) := by intro A B C; grind
    rw [q1 Y u1 u2, ← f1, ← f2, ← q1 X v1 v2, hs]
  have g2 : X * X = Y * Y := Int.eq_of_mul_eq_mul_right (by omega) g
  have g3 : X = Y := by
    rcases Int.lt_trichotomy X Y with h | h | h
    · have := Int.mul_lt_mul_of_pos_left h kx
      have := Int.mul_lt_mul_of_pos_right h ky
      omega
    · exact h
    · have := Int.mul_lt_mul_of_pos_left h ky
      have := Int.mul_lt_mul_of_pos_right h kx
      omega
  subst g3
  have c1 := Int.eq_of_mul_eq_mul_left (show X ≠ 0 by omega) f1
  have c2 := Int.eq_of_mul_eq_mul_left (show X ≠ 0 by omega) f2
  exact Prod.ext (by simp only; omega) (by simp only; omega)
theorem bef_total {a b p x y : Int × Int} {s : Int} (hs1 : s = 1 ∨ s = -1) (hx : MH.tw a b p < MH.tw a b x) (hy : MH.tw a b p < MH.tw a b y) (hne : x ≠ y) : befB p s x y = true ∨ befB p s y x = true := by
  rw [befB_iff, befB_iff]
  have e : MH.tw p y x = - MH.tw p x y := by unfold MH.tw; grind
  rw [e]
  rcases Int.lt_trichotomy (MH.tw p x y) 0 with h | h | h
  · rcases hs1 with rfl | rfl
    · right; left; omega
    · left; left; omega
  · rw [h]
    rcases Int.lt_trichotomy (MH.sq x p) (MH.sq y p) with g | g | g
    · left; right; exact ⟨by omega, g⟩
    · exact absurd (same_ray hx hy h g) hne
    · right; right; exact ⟨by omega, g⟩
  · rcases hs1 with rfl | rfl
    · left; left; omega
    · right; left; omega
/-- a line that has a point on its right and all others not -/
def SepT (H : List (Int × Int)) (p : Int × Int) : Prop := ∃ a b, ∀ j, j < H.length → MH.tw a b p < MH.tw a b (pt H j)
def tanF (H : List (Int × Int)) (p : Int × Int) (s : Int) : Nat → Int × Int
  | 0 => pt H 0
  | k + 1 => if befB p s (pt H (k + 1)) (tanF H p s k) = true then pt H (k + 1) else tanF H p s k
theorem tan_at (H : List (Int × Int)) (p : Int × Int) (s : Int) : ∀ k, ∃ i, i ≤ k ∧ tanF H p s k = pt H i
  | 0 => ⟨0, Nat.le_refl _, rfl⟩
  | k + 1 => by
    rw [tanF]
    split
    · exact ⟨k + 1, Nat.le_refl _, rfl⟩
    · obtain ⟨i, hi, e⟩ := tan_at H p s k
      exact ⟨i, by omega, e⟩
theorem tan_first {H : List (Int × Int)} {p : Int × Int} {s : Int} (hs1 : s = 1 ∨ s = -1) (hS : SepT H p) : ∀ k, k < H.length → ∀ i, i ≤ k → befB p s (pt H i) (tanF H p s k) = false
  | 0, hk, i, hi => by
    obtain rfl : i = 0 := by omega
    exact bef_irr _ _ _
  | k + 1, hk, i, hi => by
    obtain ⟨a, b, hab⟩ := hS
    have ih := tan_first hs1 ⟨a, b, hab⟩ k (by omega)
    obtain ⟨j, hj, ej⟩ := tan_at H p s k
    rw [tanF]
    split
    · rename_i h
      by_cases e : i = k + 1
      · subst e; exact bef_irr _ _ _
      · have hi2 := ih i (by omega)
        by_cases h3 : befB p s (pt H i) (pt H (k + 1)) = true
        · have := bef_trans (hab i (by omega)) (hab (k + 1) (by omega)) (by rw [ej]; exact hab j (by omega)) h3 h
          rw [this] at hi2
          cases hi2
        · simpa using h3
    · rename_i h
      by_cases e : i = k + 1
      · subst e; simpa using h
      · exact ih i (by omega)
/-- a point before which there is none is the one that the model tells -/
theorem tan_only {H : List (Int × Int)} {p : Int × Int} {s : Int} (hs1 : s = 1 ∨ s = -1) (hS : SepT H p) (h0 : 0 < H.length) {i : Nat} (hi : i < H.length) (hno : ∀ j, j < H.length → befB p s (pt H j) (pt H i) = false) : pt H i = tanF H p s (H.length - 1) := by
  have hf := tan_first hs1 hS (H.length - 1) (by omega) i (by omega)
  obtain ⟨j, hj, ej⟩ := tan_at H p s (H.length - 1)
  have hg := hno j (by omega)
  obtain ⟨a, b, hab⟩ := hS
  by_cases e : pt H i = tanF H p s (H.length - 1)
  · exact e
  · exfalso
    rw [ej] at hf e
    rcases bef_total hs1 (hab i hi) (hab j (by omega)) e with h | h
    · rw [h] at hf; cases hf
    · rw [h] at hg; cases hg
/-- there is a point before which there is none -/
theorem tan_some {H : List (Int × Int)} {p : Int × Int} {s : Int} (hs1 : s = 1 ∨ s = -1) (hS : SepT H p) (h0 : 0 < H.length) : ∃ i, i < H.length ∧ ∀ j, j < H.length → befB p s (pt H j) (pt H i) = false := by
  obtain ⟨i, hi, ei⟩ := tan_at H p s (H.length - 1)
  refine ⟨i, by omega, fun j hj => ?_⟩
  rw [← ei]
  exact tan_first hs1 hS (H.length - 1) (by omega) j (by omega)
theorem sep_band {l : List (Int × Int)} {p : Int × Int} (hd : Dif l) (h3 : 3 ≤ (band l).length) (hout : inHB (band l) p = false) : SepT (band l) p := by
  have hc := band_cvx hd h3
  unfold inHB at hout
  rw [if_neg (by omega)] at hout
  have hno : ¬ InH (band l) p := @of_decide_eq_false _ (Classical.propDecidable _) hout
  have : ∃ i, i < (band l).length ∧ MH.tw (vx (band l) i) (vx (band l) (i + 1)) p < 0 := by
    apply Classical.byContradiction
    intro hn
    apply hno
    intro i hi
    rcases Int.lt_or_le (MH.tw (vx (band l) i) (vx (band l) (i + 1)) p) 0 with h | h
    · exact absurd ⟨i, hi, h⟩ hn
    · exact h
  obtain ⟨i, hi, hlt⟩ := this
  refine ⟨vx (band l) i, vx (band l) (i + 1), fun j hj => ?_⟩
  have := hc.left i j
  rw [← vx_pt hj]
  exact Int.lt_of_lt_of_le hlt this
/-- what the call tells -/
noncomputable def tzB (l : List (Int × Int)) (p : Int × Int) : Bool := difB l && isPg p && decide (3 ≤ (band l).length) && !inHB (band l) p
noncomputable def tzV (l : List (Int × Int)) (p : Int × Int) (s : Int) : Int × Int := if tzB l p = true then tanF (band l) p s ((band l).length - 1) else (0, 0)
end Go.Proofs.Ythpbnfmfedggjaa
/- contracts: corners seen from a point outside, the model and the program -/
namespace Go.Proofs.Ythpbnfmfedggjaa
open Go.ChangeShapes Go.WideShapes Go.ChangeAt Go.RowKit Go.Joins
set_option linter.unusedVariables false
set_option linter.unusedSimpArgs false
set_option maxRecDepth 4000
theorem sq_flip2 (a1 a2 b1 b2 : Int) : (a1 - b1) * (a1 - b1) + (a2 - b2) * (a2 - b2) = MH.sq (b1, b2) (a1, a2) := by unfold MH.sq; simp only; grind
theorem bdFar2_any (a1 a2 b1 b2 : Int) (w : World) (ha : isPg (a1, a2) = true) (hb : isPg (b1, b2) = true) :
    Calls Try.prog 91 #[.agg #[.int .i64 a1, .int .i64 a2], .agg #[.int .i64 b1, .int .i64 b2]] w fun e w' => e = .returned (.int .i64 (MH.sq (b1, b2) (a1, a2))) ∧ Below w.heap.size w w' := by
  have h1 : -40 ≤ a1 ∧ a1 ≤ 40 ∧ -40 ≤ a2 ∧ a2 ≤ 40 := by unfold isPg isPegB at ha; simp at ha; omega
  have h2 : -40 ≤ b1 ∧ b1 ≤ 40 ∧ -40 ≤ b2 ∧ b2 ≤ 40 := by unfold isPg isPegB at hb; simp at hb; omega
  clear ha hb
  obtain ⟨x1, x2, x3, x4⟩ := h1
  obtain ⟨x5, x6, x7, x8⟩ := h2
  obtain ⟨p1, p2⟩ := mul_bd (x := a1 - b1) (y := a1 - b1) (m := 80) (n := 80) (by omega) (by omega) (by omega) (by omega)
  obtain ⟨p3, p4⟩ := mul_bd (x := a2 - b2) (y := a2 - b2) (m := 80) (n := 80) (by omega) (by omega) (by omega) (by omega)
  go_enter Try.func91, Try.ntmps91
  go_wp2
  go_ret
  exact ⟨ret_int (sq_flip2 a1 a2 b1 b2), (by repeat (first | exact Below.refl _ _ | assumption | apply Below.drew | refine Below.alloc ?_ (by simp <;> omega) _))⟩
theorem tw_flip3 (p b c : Int × Int) : MH.tw p c b = - MH.tw p b c := by unfold MH.tw; grind
set_option maxHeartbeats 16000000 in
theorem bdTangent_any (A : Option Addr) (c n : Nat) (l : List (Int × Int)) (p1 p2 sd : Int) (w : World) (hln : l.length = n) (h3 : 3 ≤ n) (hn : n ≤ 60) (hnc : n ≤ c) (hcm : c ≤ 9223372036854775807) (hpg : ∀ x ∈ l, isPg x = true) (hf : isPg (p1, p2) = true) (hsd : sd = 1 ∨ sd = -1) (hR : Rd w w.heap.size A l) :
    Calls Try.prog 72 #[.slice A n c, .agg #[.int .i64 p1, .int .i64 p2], .int .i64 (-sd)] w fun e w' => e = .returned (.agg #[.int .i64 (tanF l (p1, p2) sd (n - 1)).1, .int .i64 (tanF l (p1, p2) sd (n - 1)).2]) ∧ Below w.heap.size w w' := by
  have HN := Lib.hid hln
  have HC : Hid (∀ W, Below w.heap.size w W → ∀ i, i < n → ∃ b off, A = some ⟨b, off, none⟩ ∧ b < w.heap.size ∧ W.cell? ⟨b, off + i * 2, none⟩ = some (.int .i64 (pt l i).1) ∧ W.cell? ⟨b, off + i * 2 + 1, none⟩ = some (.int .i64 (pt l i).2)) := Lib.hid (fun W hW i hi => by
    obtain ⟨b, off, e, hb, hc⟩ := hR (by omega)
    obtain ⟨h1, h2⟩ := hc i _ (pt_get (by omega))
    exact ⟨b, off, e, hb, (hW.cell (p := ⟨b, off + i * 2, none⟩) hb).trans h1, (hW.cell (p := ⟨b, off + i * 2 + 1, none⟩) hb).trans h2⟩)
  have HP : Hid (∀ i, i < n → isPg (pt l i) = true) := Lib.hid (fun i hi => hpg _ (pt_mem (by omega)))
  have HF := Lib.hid hf
  obtain ⟨b, off, hA, hb, x0, x1⟩ := HC.out w (Below.refl _ _) 0 (by omega)
  subst hA
  have hnp0 := Lib.hid (HP.out 0 (by omega))
  obtain ⟨m1, m2, hme⟩ : ∃ m1 m2, pt l 0 = (m1, m2) := ⟨_, _, rfl⟩
  rw [hme] at x0 x1 hnp0
  have HM0 : Hid (tanF l (p1, p2) sd 0 = (m1, m2)) := Lib.hid hme
  have HSD := Lib.hid hsd
  clear hR hln hpg hf hme hsd
  simp only [Nat.zero_mul, Nat.add_zero] at x0 x1
  have hc1 : ¬ c = 1 := by omega
  have hn0 : 0 < n := by omega
  have hc0 : 1 ≤ c := by omega
  go_enter Try.func72, Try.ntmps72
  go_wp2_with fail
  obtain ⟨W1, hW1⟩ : ∃ W1, W1 = (((w.alloc (.cells #[.int .i64 p1, .int .i64 p2] 38)).alloc (.cells #[.int .i64 0, .int .i64 0] 38)).alloc (.cells #[.int .i64 m1, .int .i64 m2] 38)) := ⟨_, rfl⟩
  rw [← hW1]
  have yW10_0 : W1.cell? ⟨w.heap.size, 0, none⟩ = some (.int .i64 p1) := by rw [hW1]; go_simp
  have yW10_1 : W1.cell? ⟨w.heap.size, 1, none⟩ = some (.int .i64 p2) := by rw [hW1]; go_simp
  have fW10 : ∀ o, W1.frozen? ⟨w.heap.size, o, none⟩ = false := by intro o; rw [hW1]; (repeat rw [frozen?_alloc_cells]); simp [World.frozen?]
  have zW10 : w.heap.size < W1.heap.size := by rw [hW1]; simp <;> omega
  have yW11_0 : W1.cell? ⟨w.heap.size + 1, 0, none⟩ = some (.int .i64 0) := by rw [hW1]; go_simp
  have yW11_1 : W1.cell? ⟨w.heap.size + 1, 1, none⟩ = some (.int .i64 0) := by rw [hW1]; go_simp
  have fW11 : ∀ o, W1.frozen? ⟨w.heap.size + 1, o, none⟩ = false := by intro o; rw [hW1]; (repeat rw [frozen?_alloc_cells]); simp [World.frozen?]
  have zW11 : w.heap.size + 1 < W1.heap.size := by rw [hW1]; simp <;> omega
  have yW12_0 : W1.cell? ⟨w.heap.size + 2, 0, none⟩ = some (.int .i64 m1) := by rw [hW1]; go_simp
  have yW12_1 : W1.cell? ⟨w.heap.size + 2, 1, none⟩ = some (.int .i64 m2) := by rw [hW1]; go_simp
  have fW12 : ∀ o, W1.frozen? ⟨w.heap.size + 2, o, none⟩ = false := by intro o; rw [hW1]; (repeat rw [frozen?_alloc_cells]); simp [World.frozen?]
  have zW12 : w.heap.size + 2 < W1.heap.size := by rw [hW1]; simp <;> omega
  have BW1 : Below w.heap.size w W1 := by rw [hW1]; exact (Below.alloc (Below.alloc (Below.alloc (Below.refl _ _) (by simp <;> omega) _) (by simp <;> omega) _) (by simp <;> omega) _)
  have eW1 : Hid (W1.heap.size = w.heap.size + 3) := Lib.hid (by rw [hW1]; simp)
  clear hW1
  have HS1 : NcS w W1 p1 p2 m1 m2 := ⟨BW1, zW12, yW10_0, yW10_1, ⟨_, yW11_0⟩, ⟨_, yW11_1⟩, yW12_0, yW12_1, fW11, fW12⟩
  go_loopg [17] (n - 1) (fun g i wr => ∃ (k : Nat) (n1 n2 : Int), k ≤ n - 1 ∧ g = n - 1 - k ∧ i = .int .i64 k ∧ Hid (tanF l (p1, p2) sd k = (n1, n2)) ∧ Hid (isPg (n1, n2) = true) ∧ Hid (NcS w wr p1 p2 n1 n2))
  case atStart => exact ⟨0, m1, m2, Nat.zero_le _, rfl, rfl, HM0, hnp0, Lib.hid HS1⟩
  case round =>
    obtain ⟨k, n1, n2, hk, hg, rfl, hfo, hnp, hS⟩ := hrel
    rename World => wo
    have HGK := Lib.hid hg
    clear hg yW10_0 yW10_1 fW10 zW10 yW11_0 yW11_1 fW11 zW11 yW12_0 yW12_1 fW12 zW12 BW1 eW1 HS1 x0 x1
    by_cases hlt : k < n - 1
    · obtain ⟨b', off', hA, hb', x0, x1⟩ := HC.out wo hS.out.bel (k + 1) (by omega)
      injection hA with hA
      injection hA with hA1 hA2
      subst hA1 hA2
      rw [show off + (k + 1) * 2 = off + 2 + k * 2 by omega] at x0 x1
      have hki : (k : Int) < (n : Int) - 1 := by omega
      have hpp := HP.out (k + 1) (by omega)
      have HFS : Hid (tanF l (p1, p2) sd (k + 1) = if befB (p1, p2) sd (pt l (k + 1)) (tanF l (p1, p2) sd k) = true then pt l (k + 1) else tanF l (p1, p2) sd k) := Lib.hid rfl
      rw [hfo.out] at HFS
      obtain ⟨r1, r2, hpe⟩ : ∃ r1 r2, pt l (k + 1) = (r1, r2) := ⟨_, _, rfl⟩
      rw [hpe] at x0 x1 hpp HFS
      clear hpe
      have bp := isPg_bd hpp
      have bn := isPg_bd hnp.out
      have bf := isPg_bd HF.out
      simp only at bp bn bf
      have KT := Lib.hid (fun W => pgTurn_any p1 p2 n1 n2 r1 r2 W (by unfold Sz; omega) (by unfold Sz; omega) (by unfold Sz; omega))
      have KF1 := Lib.hid (fun W => bdFar2_any p1 p2 r1 r2 W HF.out hpp)
      have KF2 := Lib.hid (fun W => bdFar2_any p1 p2 n1 n2 W HF.out hnp.out)
      have HPP := Lib.hid hpp
      have HTW : Hid (MH.tw (p1, p2) (r1, r2) (n1, n2) = - twI p1 p2 n1 n2 r1 r2) := Lib.hid (tw_flip3 (p1, p2) (n1, n2) (r1, r2))
      have hbig : -12800 ≤ twI p1 p2 n1 n2 r1 r2 ∧ twI p1 p2 n1 n2 r1 r2 ≤ 12800 := by
        unfold twI
        have a1 := mul_bd (x := n1 - p1) (y := r2 - p2) (m := 80) (n := 80) (by omega) (by omega) (by omega) (by omega)
        have a2 := mul_bd (x := n2 - p2) (y := r1 - p1) (m := 80) (n := 80) (by omega) (by omega) (by omega) (by omega)
        omega
      have HSR : Hid (MH.sq (r1, r2) (p1, p2) = MH.sq (r1, r2) (p1, p2)) := Lib.hid rfl
      have HBE : Hid (befB (p1, p2) sd (r1, r2) (n1, n2) = true ↔ (0 < -sd * twI p1 p2 n1 n2 r1 r2 ∨ (-sd * twI p1 p2 n1 n2 r1 r2 = 0 ∧ MH.sq (r1, r2) (p1, p2) < MH.sq (n1, n2) (p1, p2)))) := Lib.hid (by
        rw [befB_iff, HTW.out, show sd * -twI p1 p2 n1 n2 r1 r2 = -sd * twI p1 p2 n1 n2 r1 r2 by rw [Int.mul_neg, Int.neg_mul]])
      clear hpp bp bn bf HTW HSR
      generalize twI p1 p2 n1 n2 r1 r2 = tw at *
      generalize MH.sq (r1, r2) (p1, p2) = dr at *
      generalize MH.sq (n1, n2) (p1, p2) = dn at *
      have hmul : -12800 ≤ -sd * tw ∧ -sd * tw ≤ 12800 := by
        rcases HSD.out with h | h
        · rw [h]; omega
        · rw [h]; omega
      obtain ⟨hmul1, hmul2⟩ := hmul
      clear hbig
      have hwm : IntKind.i64.wrap (-sd * tw) = -sd * tw := IntWalk.i64_in _ (by omega)
      have hSz := hS.out.size
      obtain ⟨q30, q31, q50, q51⟩ : wo.cell? ⟨w.heap.size, 0, none⟩ = some (.int .i64 p1) ∧ wo.cell? ⟨w.heap.size, 1, none⟩ = some (.int .i64 p2) ∧ wo.cell? ⟨w.heap.size + 2, 0, none⟩ = some (.int .i64 n1) ∧ wo.cell? ⟨w.heap.size + 2, 1, none⟩ = some (.int .i64 n2) := ⟨hS.out.c30, hS.out.c31, hS.out.c50, hS.out.c51⟩
      have hz0 : w.heap.size < wo.heap.size := by omega
      generalize ht : -sd * tw = t at *
      go_wp2_with fail
      refine (KT.out _).mono ?_; rintro e w2 ⟨rfl, hb2⟩
      have hb1 : Below wo.heap.size wo (wo.alloc (.cells #[.int .i64 r1, .int .i64 r2] 38)) := (Below.refl _ _).alloc (Nat.le_refl _) _
      have y0 : w2.cell? ⟨wo.heap.size, 0, none⟩ = some (.int .i64 r1) := ((bcell hb2).1 _ _ (by simp)).trans (by go_simp)
      have y1 : w2.cell? ⟨wo.heap.size, 1, none⟩ = some (.int .i64 r2) := ((bcell hb2).1 _ _ (by simp)).trans (by go_simp)
      have zy : wo.heap.size < w2.heap.size := by (have := hb2.size; simp at this; omega)
      have S2 := (hS.out.up hb1).up hb2
      have B2 := hb1.trans (hb2.mono hb1.size)
      have hz2 := B2.size
      obtain ⟨c30, c31, c50, c51⟩ : w2.cell? ⟨w.heap.size, 0, none⟩ = some (.int .i64 p1) ∧ w2.cell? ⟨w.heap.size, 1, none⟩ = some (.int .i64 p2) ∧ w2.cell? ⟨w.heap.size + 2, 0, none⟩ = some (.int .i64 n1) ∧ w2.cell? ⟨w.heap.size + 2, 1, none⟩ = some (.int .i64 n2) := ⟨S2.c30, S2.c31, S2.c50, S2.c51⟩
      have zz0 : w.heap.size < w2.heap.size := by omega
      have zz2 : w.heap.size + 2 < w2.heap.size := by omega
      have HS2 := Lib.hid S2
      clear hb1 hb2 S2 hS x0 x1 KT
      clear q30 q31 q50 q51
      by_cases htp : 0 < t
      · have hstep : Hid (befB (p1, p2) sd (r1, r2) (n1, n2) = true) := Lib.hid (HBE.out.2 (Or.inl htp))
        go_wp2_with fail
        refine wp_region_B (fun W => Below w2.heap.size w2 W) (by kernel_rfl) (by repeat (first | exact Below.refl _ _ | apply Below.drew)) ?_
        first | refine wpB_skip 0 rfl (by kernel_rfl) (by kernel_rfl) (by kernel_rfl) (by rfl) ?_ | (refine wpB_text 0 (v := ?_) rfl (by kernel_rfl) (by kernel_rfl) (by kernel_rfl) (by rfl) (fun W hW => ?_) ?_; rotate_left; (have k1 := hW; obtain ⟨hc1, hf1⟩ := bcell k1; go_simp; refine comes_v ?_; exact k1))
        (try simp only [Act.put, List.setIfInBounds_toArray, List.set_cons_zero, List.set_cons_succ])
        first | refine wpB_skip 1 rfl (by kernel_rfl) (by kernel_rfl) (by kernel_rfl) (by rfl) ?_ | (refine wpB_text 1 (v := ?_) rfl (by kernel_rfl) (by kernel_rfl) (by kernel_rfl) (by rfl) (fun W hW => ?_) ?_; rotate_left; (have k1 := hW; obtain ⟨hc1, hf1⟩ := bcell k1; go_simp; refine comes_v ?_; exact k1))
        (try simp only [Act.put, List.setIfInBounds_toArray, List.set_cons_zero, List.set_cons_succ])
        first | refine wpB_skip 2 rfl (by kernel_rfl) (by kernel_rfl) (by kernel_rfl) (by rfl) ?_ | (refine wpB_text 2 (v := ?_) rfl (by kernel_rfl) (by kernel_rfl) (by kernel_rfl) (by rfl) (fun W hW => ?_) ?_; rotate_left; (have k1 := hW; obtain ⟨hc1, hf1⟩ := bcell k1; go_simp; refine comes_v ?_; exact k1))
        (try simp only [Act.put, List.setIfInBounds_toArray, List.set_cons_zero, List.set_cons_succ])
        first | refine wpB_skip 3 rfl (by kernel_rfl) (by kernel_rfl) (by kernel_rfl) (by rfl) ?_ | (refine wpB_text 3 (v := ?_) rfl (by kernel_rfl) (by kernel_rfl) (by kernel_rfl) (by rfl) (fun W hW => ?_) ?_; rotate_left; (have k1 := hW; obtain ⟨hc1, hf1⟩ := bcell k1; go_simp; refine comes_v ?_; exact k1))
        (try simp only [Act.put, List.setIfInBounds_toArray, List.set_cons_zero, List.set_cons_succ])
        first | refine wpB_skip 4 rfl (by kernel_rfl) (by kernel_rfl) (by kernel_rfl) (by rfl) ?_ | (refine wpB_text 4 (v := ?_) rfl (by kernel_rfl) (by kernel_rfl) (by kernel_rfl) (by rfl) (fun W hW => ?_) ?_; rotate_left; (have k1 := hW; obtain ⟨hc1, hf1⟩ := bcell k1; go_simp; refine comes_v ?_; exact k1))
        (try simp only [Act.put, List.setIfInBounds_toArray, List.set_cons_zero, List.set_cons_succ])
        first | refine wpB_skip 5 rfl (by kernel_rfl) (by kernel_rfl) (by kernel_rfl) (by rfl) ?_ | (refine wpB_text 5 (v := ?_) rfl (by kernel_rfl) (by kernel_rfl) (by kernel_rfl) (by rfl) (fun W hW => ?_) ?_; rotate_left; (have k1 := hW; obtain ⟨hc1, hf1⟩ := bcell k1; go_simp; refine comes_v ?_; exact k1))
        (try simp only [Act.put, List.setIfInBounds_toArray, List.set_cons_zero, List.set_cons_succ])
        first | refine wpB_skip 6 rfl (by kernel_rfl) (by kernel_rfl) (by kernel_rfl) (by rfl) ?_ | (refine wpB_text 6 (v := ?_) rfl (by kernel_rfl) (by kernel_rfl) (by kernel_rfl) (by rfl) (fun W hW => ?_) ?_; rotate_left; (have k1 := hW; obtain ⟨hc1, hf1⟩ := bcell k1; go_simp; refine comes_v ?_; exact k1))
        (try simp only [Act.put, List.setIfInBounds_toArray, List.set_cons_zero, List.set_cons_succ])
        first | refine wpB_skip 7 rfl (by kernel_rfl) (by kernel_rfl) (by kernel_rfl) (by rfl) ?_ | (refine wpB_text 7 (v := ?_) rfl (by kernel_rfl) (by kernel_rfl) (by kernel_rfl) (by rfl) (fun W hW => ?_) ?_; rotate_left; (have k1 := hW; obtain ⟨hc1, hf1⟩ := bcell k1; go_simp; refine comes_v ?_; exact k1))
        (try simp only [Act.put, List.setIfInBounds_toArray, List.set_cons_zero, List.set_cons_succ])
        first | refine wpB_skip 8 rfl (by kernel_rfl) (by kernel_rfl) (by kernel_rfl) (by rfl) ?_ | (refine wpB_text 8 (v := ?_) rfl (by kernel_rfl) (by kernel_rfl) (by kernel_rfl) (by rfl) (fun W hW => ?_) ?_; rotate_left; (have k1 := hW; obtain ⟨hc1, hf1⟩ := bcell k1; go_simp; refine comes_v ?_; exact k1))
        (try simp only [Act.put, List.setIfInBounds_toArray, List.set_cons_zero, List.set_cons_succ])
        first | refine wpB_skip 9 rfl (by kernel_rfl) (by kernel_rfl) (by kernel_rfl) (by rfl) ?_ | (refine wpB_text 9 (v := ?_) rfl (by kernel_rfl) (by kernel_rfl) (by kernel_rfl) (by rfl) (fun W hW => ?_) ?_; rotate_left; (have k1 := hW; obtain ⟨hc1, hf1⟩ := bcell k1; go_simp; refine comes_v ?_; exact k1))
        (try simp only [Act.put, List.setIfInBounds_toArray, List.set_cons_zero, List.set_cons_succ])
        first | refine wpB_skip 10 rfl (by kernel_rfl) (by kernel_rfl) (by kernel_rfl) (by rfl) ?_ | (refine wpB_text 10 (v := ?_) rfl (by kernel_rfl) (by kernel_rfl) (by kernel_rfl) (by rfl) (fun W hW => ?_) ?_; rotate_left; (have k1 := hW; obtain ⟨hc1, hf1⟩ := bcell k1; go_simp; refine comes_v ?_; exact k1))
        (try simp only [Act.put, List.setIfInBounds_toArray, List.set_cons_zero, List.set_cons_succ])
        first | refine wpB_skip 11 rfl (by kernel_rfl) (by kernel_rfl) (by kernel_rfl) (by rfl) ?_ | (refine wpB_text 11 (v := ?_) rfl (by kernel_rfl) (by kernel_rfl) (by kernel_rfl) (by rfl) (fun W hW => ?_) ?_; rotate_left; (have k1 := hW; obtain ⟨hc1, hf1⟩ := bcell k1; go_simp; refine comes_v ?_; exact k1))
        (try simp only [Act.put, List.setIfInBounds_toArray, List.set_cons_zero, List.set_cons_succ])
        first | refine wpB_skip 12 rfl (by kernel_rfl) (by kernel_rfl) (by kernel_rfl) (by rfl) ?_ | (refine wpB_text 12 (v := ?_) rfl (by kernel_rfl) (by kernel_rfl) (by kernel_rfl) (by rfl) (fun W hW => ?_) ?_; rotate_left; (have k1 := hW; obtain ⟨hc1, hf1⟩ := bcell k1; go_simp; refine comes_v ?_; exact k1))
        (try simp only [Act.put, List.setIfInBounds_toArray, List.set_cons_zero, List.set_cons_succ])
        first | refine wpB_skip 13 rfl (by kernel_rfl) (by kernel_rfl) (by kernel_rfl) (by rfl) ?_ | (refine wpB_text 13 (v := ?_) rfl (by kernel_rfl) (by kernel_rfl) (by kernel_rfl) (by rfl) (fun W hW => ?_) ?_; rotate_left; (have k1 := hW; obtain ⟨hc1, hf1⟩ := bcell k1; go_simp; refine comes_v ?_; exact k1))
        (try simp only [Act.put, List.setIfInBounds_toArray, List.set_cons_zero, List.set_cons_succ])
        first | refine wpB_skip 14 rfl (by kernel_rfl) (by kernel_rfl) (by kernel_rfl) (by rfl) ?_ | (refine wpB_text 14 (v := ?_) rfl (by kernel_rfl) (by kernel_rfl) (by kernel_rfl) (by rfl) (fun W hW => ?_) ?_; rotate_left; (have k1 := hW; obtain ⟨hc1, hf1⟩ := bcell k1; go_simp; refine comes_v ?_; exact k1))
        (try simp only [Act.put, List.setIfInBounds_toArray, List.set_cons_zero, List.set_cons_succ])
        refine wpB_done (by kernel_rfl) ?_ _
        intro W hW; have k1 := hW
        rename World => w3
        have S3 := HS2.out.up k1
        have e0 := ((bcell k1).1 _ 0 zy).trans y0
        have e1 := ((bcell k1).1 _ 1 zy).trans y1
        have g5 := S3.f5
        have g50 := S3.c50
        have g51 := S3.c51
        have HS3 := Lib.hid (S3.store r1 r2)
        clear c30 c31 c50 c51 y0 y1 S3
        go_wp2_with fail
        go_roundg (n - 1 - (k + 1))
        case measure => have := HGK.out; omega
        case rel => exact ⟨k + 1, r1, r2, by omega, rfl, by go_num, Lib.hid (by rw [HFS.out, if_pos hstep.out]), HPP, HS3⟩
      · have dt : decide (0 < t) = false := by simp; omega
        by_cases ht0 : t = 0
        · subst ht0
          by_cases hsq : dr < dn
          · have hstep : Hid (befB (p1, p2) sd (r1, r2) (n1, n2) = true) := Lib.hid (HBE.out.2 (Or.inr ⟨rfl, hsq⟩))
            go_wp2_with fail
            refine wp_region_B (fun W => Below w2.heap.size w2 W) (by kernel_rfl) (by repeat (first | exact Below.refl _ _ | apply Below.drew)) ?_
            first | refine wpB_skip 0 rfl (by kernel_rfl) (by kernel_rfl) (by kernel_rfl) (by rfl) ?_ | (refine wpB_text 0 (v := ?_) rfl (by kernel_rfl) (by kernel_rfl) (by kernel_rfl) (by rfl) (fun W hW => ?_) ?_; rotate_left; (have k1 := hW; obtain ⟨hc1, hf1⟩ := bcell k1; go_simp; refine comes_v ?_; exact k1))
            (try simp only [Act.put, List.setIfInBounds_toArray, List.set_cons_zero, List.set_cons_succ])
            first | refine wpB_skip 1 rfl (by kernel_rfl) (by kernel_rfl) (by kernel_rfl) (by rfl) ?_ | (refine wpB_text 1 (v := ?_) rfl (by kernel_rfl) (by kernel_rfl) (by kernel_rfl) (by rfl) (fun W hW => ?_) ?_; rotate_left; (have k1 := hW; obtain ⟨hc1, hf1⟩ := bcell k1; go_simp; refine comes_v ?_; exact k1))
            (try simp only [Act.put, List.setIfInBounds_toArray, List.set_cons_zero, List.set_cons_succ])
            first | refine wpB_skip 2 rfl (by kernel_rfl) (by kernel_rfl) (by kernel_rfl) (by rfl) ?_ | (refine wpB_text 2 (v := ?_) rfl (by kernel_rfl) (by kernel_rfl) (by kernel_rfl) (by rfl) (fun W hW => ?_) ?_; rotate_left; (have k1 := hW; obtain ⟨hc1, hf1⟩ := bcell k1; go_simp; refine comes_v ?_; exact k1))
            (try simp only [Act.put, List.setIfInBounds_toArray, List.set_cons_zero, List.set_cons_succ])
            first | refine wpB_skip 3 rfl (by kernel_rfl) (by kernel_rfl) (by kernel_rfl) (by rfl) ?_ | (refine wpB_text 3 (v := ?_) rfl (by kernel_rfl) (by kernel_rfl) (by kernel_rfl) (by rfl) (fun W hW => ?_) ?_; rotate_left; (have k1 := hW; obtain ⟨hc1, hf1⟩ := bcell k1; go_simp; refine comes_v ?_; exact k1))
            (try simp only [Act.put, List.setIfInBounds_toArray, List.set_cons_zero, List.set_cons_succ])
            first | refine wpB_skip 4 rfl (by kernel_rfl) (by kernel_rfl) (by kernel_rfl) (by rfl) ?_ | (refine wpB_text 4 (v := ?_) rfl (by kernel_rfl) (by kernel_rfl) (by kernel_rfl) (by rfl) (fun W hW => ?_) ?_; rotate_left; (have k1 := hW; obtain ⟨hc1, hf1⟩ := bcell k1; go_simp; refine comes_v ?_; exact k1))
            (try simp only [Act.put, List.setIfInBounds_toArray, List.set_cons_zero, List.set_cons_succ])
            first | refine wpB_skip 5 rfl (by kernel_rfl) (by kernel_rfl) (by kernel_rfl) (by rfl) ?_ | (refine wpB_text 5 (v := ?_) rfl (by kernel_rfl) (by kernel_rfl) (by kernel_rfl) (by rfl) (fun W hW => ?_) ?_; rotate_left; (have k1 := hW; obtain ⟨hc1, hf1⟩ := bcell k1; go_simp; refine comes_v ?_; exact k1))
            (try simp only [Act.put, List.setIfInBounds_toArray, List.set_cons_zero, List.set_cons_succ])
            first | refine wpB_skip 6 rfl (by kernel_rfl) (by kernel_rfl) (by kernel_rfl) (by rfl) ?_ | (refine wpB_text 6 (v := ?_) rfl (by kernel_rfl) (by kernel_rfl) (by kernel_rfl) (by rfl) (fun W hW => ?_) ?_; rotate_left; (have k1 := hW; obtain ⟨hc1, hf1⟩ := bcell k1; go_simp; refine comes_v ?_; exact k1))
            (try simp only [Act.put, List.setIfInBounds_toArray, List.set_cons_zero, List.set_cons_succ])
            first | refine wpB_skip 7 rfl (by kernel_rfl) (by kernel_rfl) (by kernel_rfl) (by rfl) ?_ | (refine wpB_text 7 (v := ?_) rfl (by kernel_rfl) (by kernel_rfl) (by kernel_rfl) (by rfl) (fun W hW => ?_) ?_; rotate_left; (have k1 := hW; obtain ⟨hc1, hf1⟩ := bcell k1; go_simp; refine comes_v ?_; exact k1))
            (try simp only [Act.put, List.setIfInBounds_toArray, List.set_cons_zero, List.set_cons_succ])
            first | refine wpB_skip 8 rfl (by kernel_rfl) (by kernel_rfl) (by kernel_rfl) (by rfl) ?_ | (refine wpB_text 8 (v := .int .i64 dr) rfl (by kernel_rfl) (by kernel_rfl) (by kernel_rfl) (by rfl) (fun W hW => ?_) ?_; (have k1 := hW; obtain ⟨hc1, hf1⟩ := bcell k1; go_simp; exact comes_c ( KF1.out _) (fun wn hbn => bt_keep k1 hbn)))
            (try simp only [Act.put, List.setIfInBounds_toArray, List.set_cons_zero, List.set_cons_succ])
            first | refine wpB_skip 9 rfl (by kernel_rfl) (by kernel_rfl) (by kernel_rfl) (by rfl) ?_ | (refine wpB_text 9 (v := ?_) rfl (by kernel_rfl) (by kernel_rfl) (by kernel_rfl) (by rfl) (fun W hW => ?_) ?_; rotate_left; (have k1 := hW; obtain ⟨hc1, hf1⟩ := bcell k1; go_simp; refine comes_v ?_; exact k1))
            (try simp only [Act.put, List.setIfInBounds_toArray, List.set_cons_zero, List.set_cons_succ])
            first | refine wpB_skip 10 rfl (by kernel_rfl) (by kernel_rfl) (by kernel_rfl) (by rfl) ?_ | (refine wpB_text 10 (v := ?_) rfl (by kernel_rfl) (by kernel_rfl) (by kernel_rfl) (by rfl) (fun W hW => ?_) ?_; rotate_left; (have k1 := hW; obtain ⟨hc1, hf1⟩ := bcell k1; go_simp; refine comes_v ?_; exact k1))
            (try simp only [Act.put, List.setIfInBounds_toArray, List.set_cons_zero, List.set_cons_succ])
            first | refine wpB_skip 11 rfl (by kernel_rfl) (by kernel_rfl) (by kernel_rfl) (by rfl) ?_ | (refine wpB_text 11 (v := .int .i64 dn) rfl (by kernel_rfl) (by kernel_rfl) (by kernel_rfl) (by rfl) (fun W hW => ?_) ?_; (have k1 := hW; obtain ⟨hc1, hf1⟩ := bcell k1; go_simp; exact comes_c ( KF2.out _) (fun wn hbn => bt_keep k1 hbn)))
            (try simp only [Act.put, List.setIfInBounds_toArray, List.set_cons_zero, List.set_cons_succ])
            first | refine wpB_skip 12 rfl (by kernel_rfl) (by kernel_rfl) (by kernel_rfl) (by rfl) ?_ | (refine wpB_text 12 (v := ?_) rfl (by kernel_rfl) (by kernel_rfl) (by kernel_rfl) (by rfl) (fun W hW => ?_) ?_; rotate_left; (have k1 := hW; obtain ⟨hc1, hf1⟩ := bcell k1; go_simp; refine comes_v ?_; exact k1))
            (try simp only [Act.put, List.setIfInBounds_toArray, List.set_cons_zero, List.set_cons_succ])
            first | refine wpB_skip 13 rfl (by kernel_rfl) (by kernel_rfl) (by kernel_rfl) (by rfl) ?_ | (refine wpB_text 13 (v := ?_) rfl (by kernel_rfl) (by kernel_rfl) (by kernel_rfl) (by rfl) (fun W hW => ?_) ?_; rotate_left; (have k1 := hW; obtain ⟨hc1, hf1⟩ := bcell k1; go_simp; refine comes_v ?_; exact k1))
            (try simp only [Act.put, List.setIfInBounds_toArray, List.set_cons_zero, List.set_cons_succ])
            first | refine wpB_skip 14 rfl (by kernel_rfl) (by kernel_rfl) (by kernel_rfl) (by rfl) ?_ | (refine wpB_text 14 (v := ?_) rfl (by kernel_rfl) (by kernel_rfl) (by kernel_rfl) (by rfl) (fun W hW => ?_) ?_; rotate_left; (have k1 := hW; obtain ⟨hc1, hf1⟩ := bcell k1; go_simp; refine comes_v ?_; exact k1))
            (try simp only [Act.put, List.setIfInBounds_toArray, List.set_cons_zero, List.set_cons_succ])
            refine wpB_done (by kernel_rfl) ?_ _
            intro W hW; have k1 := hW
            rename World => w3
            have S3 := HS2.out.up k1
            have e0 := ((bcell k1).1 _ 0 zy).trans y0
            have e1 := ((bcell k1).1 _ 1 zy).trans y1
            have g5 := S3.f5
            have g50 := S3.c50
            have g51 := S3.c51
            have HS3 := Lib.hid (S3.store r1 r2)
            clear c30 c31 c50 c51 y0 y1 S3
            go_wp2_with fail
            go_roundg (n - 1 - (k + 1))
            case measure => have := HGK.out; omega
            case rel => exact ⟨k + 1, r1, r2, by omega, rfl, by go_num, Lib.hid (by rw [HFS.out, if_pos hstep.out]), HPP, HS3⟩
          · have hstep : Hid (¬ befB (p1, p2) sd (r1, r2) (n1, n2) = true) := Lib.hid (fun h => by
              rcases HBE.out.1 h with h | h
              · omega
              · exact hsq h.2)
            have dsq : decide (dr < dn) = false := by simp; omega
            go_wp2_with fail
            refine wp_region_B (fun W => Below w2.heap.size w2 W) (by kernel_rfl) (by repeat (first | exact Below.refl _ _ | apply Below.drew)) ?_
            first | refine wpB_skip 0 rfl (by kernel_rfl) (by kernel_rfl) (by kernel_rfl) (by rfl) ?_ | (refine wpB_text 0 (v := ?_) rfl (by kernel_rfl) (by kernel_rfl) (by kernel_rfl) (by rfl) (fun W hW => ?_) ?_; rotate_left; (have k1 := hW; obtain ⟨hc1, hf1⟩ := bcell k1; go_simp; refine comes_v ?_; exact k1))
            (try simp only [Act.put, List.setIfInBounds_toArray, List.set_cons_zero, List.set_cons_succ])
            first | refine wpB_skip 1 rfl (by kernel_rfl) (by kernel_rfl) (by kernel_rfl) (by rfl) ?_ | (refine wpB_text 1 (v := ?_) rfl (by kernel_rfl) (by kernel_rfl) (by kernel_rfl) (by rfl) (fun W hW => ?_) ?_; rotate_left; (have k1 := hW; obtain ⟨hc1, hf1⟩ := bcell k1; go_simp; refine comes_v ?_; exact k1))
            (try simp only [Act.put, List.setIfInBounds_toArray, List.set_cons_zero, List.set_cons_succ])
            first | refine wpB_skip 2 rfl (by kernel_rfl) (by kernel_rfl) (by kernel_rfl) (by rfl) ?_ | (refine wpB_text 2 (v := ?_) rfl (by kernel_rfl) (by kernel_rfl) (by kernel_rfl) (by rfl) (fun W hW => ?_) ?_; rotate_left; (have k1 := hW; obtain ⟨hc1, hf1⟩ := bcell k1; go_simp; refine comes_v ?_; exact k1))
            (try simp only [Act.put, List.setIfInBounds_toArray, List.set_cons_zero, List.set_cons_succ])
            first | refine wpB_skip 3 rfl (by kernel_rfl) (by kernel_rfl) (by kernel_rfl) (by rfl) ?_ | (refine wpB_text 3 (v := ?_) rfl (by kernel_rfl) (by kernel_rfl) (by kernel_rfl) (by rfl) (fun W hW => ?_) ?_; rotate_left; (have k1 := hW; obtain ⟨hc1, hf1⟩ := bcell k1; go_simp; refine comes_v ?_; exact k1))
            (try simp only [Act.put, List.setIfInBounds_toArray, List.set_cons_zero, List.set_cons_succ])
            first | refine wpB_skip 4 rfl (by kernel_rfl) (by kernel_rfl) (by kernel_rfl) (by rfl) ?_ | (refine wpB_text 4 (v := ?_) rfl (by kernel_rfl) (by kernel_rfl) (by kernel_rfl) (by rfl) (fun W hW => ?_) ?_; rotate_left; (have k1 := hW; obtain ⟨hc1, hf1⟩ := bcell k1; go_simp; refine comes_v ?_; exact k1))
            (try simp only [Act.put, List.setIfInBounds_toArray, List.set_cons_zero, List.set_cons_succ])
            first | refine wpB_skip 5 rfl (by kernel_rfl) (by kernel_rfl) (by kernel_rfl) (by rfl) ?_ | (refine wpB_text 5 (v := ?_) rfl (by kernel_rfl) (by kernel_rfl) (by kernel_rfl) (by rfl) (fun W hW => ?_) ?_; rotate_left; (have k1 := hW; obtain ⟨hc1, hf1⟩ := bcell k1; go_simp; refine comes_v ?_; exact k1))
            (try simp only [Act.put, List.setIfInBounds_toArray, List.set_cons_zero, List.set_cons_succ])
            first | refine wpB_skip 6 rfl (by kernel_rfl) (by kernel_rfl) (by kernel_rfl) (by rfl) ?_ | (refine wpB_text 6 (v := ?_) rfl (by kernel_rfl) (by kernel_rfl) (by kernel_rfl) (by rfl) (fun W hW => ?_) ?_; rotate_left; (have k1 := hW; obtain ⟨hc1, hf1⟩ := bcell k1; go_simp; refine comes_v ?_; exact k1))
            (try simp only [Act.put, List.setIfInBounds_toArray, List.set_cons_zero, List.set_cons_succ])
            first | refine wpB_skip 7 rfl (by kernel_rfl) (by kernel_rfl) (by kernel_rfl) (by rfl) ?_ | (refine wpB_text 7 (v := ?_) rfl (by kernel_rfl) (by kernel_rfl) (by kernel_rfl) (by rfl) (fun W hW => ?_) ?_; rotate_left; (have k1 := hW; obtain ⟨hc1, hf1⟩ := bcell k1; go_simp; refine comes_v ?_; exact k1))
            (try simp only [Act.put, List.setIfInBounds_toArray, List.set_cons_zero, List.set_cons_succ])
            first | refine wpB_skip 8 rfl (by kernel_rfl) (by kernel_rfl) (by kernel_rfl) (by rfl) ?_ | (refine wpB_text 8 (v := .int .i64 dr) rfl (by kernel_rfl) (by kernel_rfl) (by kernel_rfl) (by rfl) (fun W hW => ?_) ?_; (have k1 := hW; obtain ⟨hc1, hf1⟩ := bcell k1; go_simp; exact comes_c ( KF1.out _) (fun wn hbn => bt_keep k1 hbn)))
            (try simp only [Act.put, List.setIfInBounds_toArray, List.set_cons_zero, List.set_cons_succ])
            first | refine wpB_skip 9 rfl (by kernel_rfl) (by kernel_rfl) (by kernel_rfl) (by rfl) ?_ | (refine wpB_text 9 (v := ?_) rfl (by kernel_rfl) (by kernel_rfl) (by kernel_rfl) (by rfl) (fun W hW => ?_) ?_; rotate_left; (have k1 := hW; obtain ⟨hc1, hf1⟩ := bcell k1; go_simp; refine comes_v ?_; exact k1))
            (try simp only [Act.put, List.setIfInBounds_toArray, List.set_cons_zero, List.set_cons_succ])
            first | refine wpB_skip 10 rfl (by kernel_rfl) (by kernel_rfl) (by kernel_rfl) (by rfl) ?_ | (refine wpB_text 10 (v := ?_) rfl (by kernel_rfl) (by kernel_rfl) (by kernel_rfl) (by rfl) (fun W hW => ?_) ?_; rotate_left; (have k1 := hW; obtain ⟨hc1, hf1⟩ := bcell k1; go_simp; refine comes_v ?_; exact k1))
            (try simp only [Act.put, List.setIfInBounds_toArray, List.set_cons_zero, List.set_cons_succ])
            first | refine wpB_skip 11 rfl (by kernel_rfl) (by kernel_rfl) (by kernel_rfl) (by rfl) ?_ | (refine wpB_text 11 (v := .int .i64 dn) rfl (by kernel_rfl) (by kernel_rfl) (by kernel_rfl) (by rfl) (fun W hW => ?_) ?_; (have k1 := hW; obtain ⟨hc1, hf1⟩ := bcell k1; go_simp; exact comes_c ( KF2.out _) (fun wn hbn => bt_keep k1 hbn)))
            (try simp only [Act.put, List.setIfInBounds_toArray, List.set_cons_zero, List.set_cons_succ])
            first | refine wpB_skip 12 rfl (by kernel_rfl) (by kernel_rfl) (by kernel_rfl) (by rfl) ?_ | (refine wpB_text 12 (v := ?_) rfl (by kernel_rfl) (by kernel_rfl) (by kernel_rfl) (by rfl) (fun W hW => ?_) ?_; rotate_left; (have k1 := hW; obtain ⟨hc1, hf1⟩ := bcell k1; go_simp; refine comes_v ?_; exact k1))
            (try simp only [Act.put, List.setIfInBounds_toArray, List.set_cons_zero, List.set_cons_succ])
            first | refine wpB_skip 13 rfl (by kernel_rfl) (by kernel_rfl) (by kernel_rfl) (by rfl) ?_ | (refine wpB_text 13 (v := ?_) rfl (by kernel_rfl) (by kernel_rfl) (by kernel_rfl) (by rfl) (fun W hW => ?_) ?_; rotate_left; (have k1 := hW; obtain ⟨hc1, hf1⟩ := bcell k1; go_simp; refine comes_v ?_; exact k1))
            (try simp only [Act.put, List.setIfInBounds_toArray, List.set_cons_zero, List.set_cons_succ])
            first | refine wpB_skip 14 rfl (by kernel_rfl) (by kernel_rfl) (by kernel_rfl) (by rfl) ?_ | (refine wpB_text 14 (v := ?_) rfl (by kernel_rfl) (by kernel_rfl) (by kernel_rfl) (by rfl) (fun W hW => ?_) ?_; rotate_left; (have k1 := hW; obtain ⟨hc1, hf1⟩ := bcell k1; go_simp; refine comes_v ?_; exact k1))
            (try simp only [Act.put, List.setIfInBounds_toArray, List.set_cons_zero, List.set_cons_succ])
            refine wpB_done (by kernel_rfl) ?_ _
            intro W hW; have k1 := hW
            rename World => w3
            have HS3 := Lib.hid (HS2.out.up k1)
            clear c30 c31 c50 c51 y0 y1
            go_wp2_with fail
            go_roundg (n - 1 - (k + 1))
            case measure => have := HGK.out; omega
            case rel => exact ⟨k + 1, n1, n2, by omega, rfl, by go_num, Lib.hid (by rw [HFS.out, if_neg hstep.out]), hnp, HS3⟩
        · have hstep : Hid (¬ befB (p1, p2) sd (r1, r2) (n1, n2) = true) := Lib.hid (fun h => by
            rcases HBE.out.1 h with h | h
            · exact htp h
            · exact ht0 h.1)
          have dt0 : (t == 0) = false := by simp; omega
          go_wp2_with fail
          refine wp_region_B (fun W => Below w2.heap.size w2 W) (by kernel_rfl) (by repeat (first | exact Below.refl _ _ | apply Below.drew)) ?_
          first | refine wpB_skip 0 rfl (by kernel_rfl) (by kernel_rfl) (by kernel_rfl) (by rfl) ?_ | (refine wpB_text 0 (v := ?_) rfl (by kernel_rfl) (by kernel_rfl) (by kernel_rfl) (by rfl) (fun W hW => ?_) ?_; rotate_left; (have k1 := hW; obtain ⟨hc1, hf1⟩ := bcell k1; go_simp; refine comes_v ?_; exact k1))
          (try simp only [Act.put, List.setIfInBounds_toArray, List.set_cons_zero, List.set_cons_succ])
          first | refine wpB_skip 1 rfl (by kernel_rfl) (by kernel_rfl) (by kernel_rfl) (by rfl) ?_ | (refine wpB_text 1 (v := ?_) rfl (by kernel_rfl) (by kernel_rfl) (by kernel_rfl) (by rfl) (fun W hW => ?_) ?_; rotate_left; (have k1 := hW; obtain ⟨hc1, hf1⟩ := bcell k1; go_simp; refine comes_v ?_; exact k1))
          (try simp only [Act.put, List.setIfInBounds_toArray, List.set_cons_zero, List.set_cons_succ])
          first | refine wpB_skip 2 rfl (by kernel_rfl) (by kernel_rfl) (by kernel_rfl) (by rfl) ?_ | (refine wpB_text 2 (v := ?_) rfl (by kernel_rfl) (by kernel_rfl) (by kernel_rfl) (by rfl) (fun W hW => ?_) ?_; rotate_left; (have k1 := hW; obtain ⟨hc1, hf1⟩ := bcell k1; go_simp; refine comes_v ?_; exact k1))
          (try simp only [Act.put, List.setIfInBounds_toArray, List.set_cons_zero, List.set_cons_succ])
          first | refine wpB_skip 3 rfl (by kernel_rfl) (by kernel_rfl) (by kernel_rfl) (by rfl) ?_ | (refine wpB_text 3 (v := ?_) rfl (by kernel_rfl) (by kernel_rfl) (by kernel_rfl) (by rfl) (fun W hW => ?_) ?_; rotate_left; (have k1 := hW; obtain ⟨hc1, hf1⟩ := bcell k1; go_simp; refine comes_v ?_; exact k1))
          (try simp only [Act.put, List.setIfInBounds_toArray, List.set_cons_zero, List.set_cons_succ])
          first | refine wpB_skip 4 rfl (by kernel_rfl) (by kernel_rfl) (by kernel_rfl) (by rfl) ?_ | (refine wpB_text 4 (v := ?_) rfl (by kernel_rfl) (by kernel_rfl) (by kernel_rfl) (by rfl) (fun W hW => ?_) ?_; rotate_left; (have k1 := hW; obtain ⟨hc1, hf1⟩ := bcell k1; go_simp; refine comes_v ?_; exact k1))
          (try simp only [Act.put, List.setIfInBounds_toArray, List.set_cons_zero, List.set_cons_succ])
          first | refine wpB_skip 5 rfl (by kernel_rfl) (by kernel_rfl) (by kernel_rfl) (by rfl) ?_ | (refine wpB_text 5 (v := ?_) rfl (by kernel_rfl) (by kernel_rfl) (by kernel_rfl) (by rfl) (fun W hW => ?_) ?_; rotate_left; (have k1 := hW; obtain ⟨hc1, hf1⟩ := bcell k1; go_simp; refine comes_v ?_; exact k1))
          (try simp only [Act.put, List.setIfInBounds_toArray, List.set_cons_zero, List.set_cons_succ])
          first | refine wpB_skip 6 rfl (by kernel_rfl) (by kernel_rfl) (by kernel_rfl) (by rfl) ?_ | (refine wpB_text 6 (v := ?_) rfl (by kernel_rfl) (by kernel_rfl) (by kernel_rfl) (by rfl) (fun W hW => ?_) ?_; rotate_left; (have k1 := hW; obtain ⟨hc1, hf1⟩ := bcell k1; go_simp; refine comes_v ?_; exact k1))
          (try simp only [Act.put, List.setIfInBounds_toArray, List.set_cons_zero, List.set_cons_succ])
          first | refine wpB_skip 7 rfl (by kernel_rfl) (by kernel_rfl) (by kernel_rfl) (by rfl) ?_ | (refine wpB_text 7 (v := ?_) rfl (by kernel_rfl) (by kernel_rfl) (by kernel_rfl) (by rfl) (fun W hW => ?_) ?_; rotate_left; (have k1 := hW; obtain ⟨hc1, hf1⟩ := bcell k1; go_simp; refine comes_v ?_; exact k1))
          (try simp only [Act.put, List.setIfInBounds_toArray, List.set_cons_zero, List.set_cons_succ])
          first | refine wpB_skip 8 rfl (by kernel_rfl) (by kernel_rfl) (by kernel_rfl) (by rfl) ?_ | (refine wpB_text 8 (v := ?_) rfl (by kernel_rfl) (by kernel_rfl) (by kernel_rfl) (by rfl) (fun W hW => ?_) ?_; rotate_left; (have k1 := hW; obtain ⟨hc1, hf1⟩ := bcell k1; go_simp; refine comes_v ?_; exact k1))
          (try simp only [Act.put, List.setIfInBounds_toArray, List.set_cons_zero, List.set_cons_succ])
          first | refine wpB_skip 9 rfl (by kernel_rfl) (by kernel_rfl) (by kernel_rfl) (by rfl) ?_ | (refine wpB_text 9 (v := ?_) rfl (by kernel_rfl) (by kernel_rfl) (by kernel_rfl) (by rfl) (fun W hW => ?_) ?_; rotate_left; (have k1 := hW; obtain ⟨hc1, hf1⟩ := bcell k1; go_simp; refine comes_v ?_; exact k1))
          (try simp only [Act.put, List.setIfInBounds_toArray, List.set_cons_zero, List.set_cons_succ])
          first | refine wpB_skip 10 rfl (by kernel_rfl) (by kernel_rfl) (by kernel_rfl) (by rfl) ?_ | (refine wpB_text 10 (v := ?_) rfl (by kernel_rfl) (by kernel_rfl) (by kernel_rfl) (by rfl) (fun W hW => ?_) ?_; rotate_left; (have k1 := hW; obtain ⟨hc1, hf1⟩ := bcell k1; go_simp; refine comes_v ?_; exact k1))
          (try simp only [Act.put, List.setIfInBounds_toArray, List.set_cons_zero, List.set_cons_succ])
          first | refine wpB_skip 11 rfl (by kernel_rfl) (by kernel_rfl) (by kernel_rfl) (by rfl) ?_ | (refine wpB_text 11 (v := ?_) rfl (by kernel_rfl) (by kernel_rfl) (by kernel_rfl) (by rfl) (fun W hW => ?_) ?_; rotate_left; (have k1 := hW; obtain ⟨hc1, hf1⟩ := bcell k1; go_simp; refine comes_v ?_; exact k1))
          (try simp only [Act.put, List.setIfInBounds_toArray, List.set_cons_zero, List.set_cons_succ])
          first | refine wpB_skip 12 rfl (by kernel_rfl) (by kernel_rfl) (by kernel_rfl) (by rfl) ?_ | (refine wpB_text 12 (v := ?_) rfl (by kernel_rfl) (by kernel_rfl) (by kernel_rfl) (by rfl) (fun W hW => ?_) ?_; rotate_left; (have k1 := hW; obtain ⟨hc1, hf1⟩ := bcell k1; go_simp; refine comes_v ?_; exact k1))
          (try simp only [Act.put, List.setIfInBounds_toArray, List.set_cons_zero, List.set_cons_succ])
          first | refine wpB_skip 13 rfl (by kernel_rfl) (by kernel_rfl) (by kernel_rfl) (by rfl) ?_ | (refine wpB_text 13 (v := ?_) rfl (by kernel_rfl) (by kernel_rfl) (by kernel_rfl) (by rfl) (fun W hW => ?_) ?_; rotate_left; (have k1 := hW; obtain ⟨hc1, hf1⟩ := bcell k1; go_simp; refine comes_v ?_; exact k1))
          (try simp only [Act.put, List.setIfInBounds_toArray, List.set_cons_zero, List.set_cons_succ])
          first | refine wpB_skip 14 rfl (by kernel_rfl) (by kernel_rfl) (by kernel_rfl) (by rfl) ?_ | (refine wpB_text 14 (v := ?_) rfl (by kernel_rfl) (by kernel_rfl) (by kernel_rfl) (by rfl) (fun W hW => ?_) ?_; rotate_left; (have k1 := hW; obtain ⟨hc1, hf1⟩ := bcell k1; go_simp; refine comes_v ?_; exact k1))
          (try simp only [Act.put, List.setIfInBounds_toArray, List.set_cons_zero, List.set_cons_succ])
          refine wpB_done (by kernel_rfl) ?_ _
          intro W hW; have k1 := hW
          rename World => w3
          have HS3 := Lib.hid (HS2.out.up k1)
          clear c30 c31 c50 c51 y0 y1
          go_wp2_with fail
          go_roundg (n - 1 - (k + 1))
          case measure => have := HGK.out; omega
          case rel => exact ⟨k + 1, n1, n2, by omega, rfl, by go_num, Lib.hid (by rw [HFS.out, if_neg hstep.out]), hnp, HS3⟩
    · have hkn : k = n - 1 := by omega
      subst hkn
      have S0 := hS.out
      obtain ⟨u, hu⟩ := S0.c40
      obtain ⟨v, hv⟩ := S0.c41
      have g4 := S0.f4
      have g50 := S0.c50
      have g51 := S0.c51
      have hz := S0.size
      have hz0 : w.heap.size + 1 < wo.heap.size := by omega
      have BF := Below.setCell (Below.setCell S0.bel (p := ⟨w.heap.size + 1, 0, none⟩) (by show w.heap.size ≤ w.heap.size + 1; omega) (.int .i64 n1)) (p := ⟨w.heap.size + 1, 1, none⟩) (by show w.heap.size ≤ w.heap.size + 1; omega) (.int .i64 n2)
      have r0 : ((wo.setCell ⟨w.heap.size + 1, 0, none⟩ (.int .i64 n1)).setCell ⟨w.heap.size + 1, 1, none⟩ (.int .i64 n2)).cell? ⟨w.heap.size + 1, 0, none⟩ = some (.int .i64 n1) := by
        rw [World.cell?_setCell_other _ _ _ _ (by intro e; injection e with e1 e2; omega)]
        exact World.cell?_setCell_same _ _ _ hu
      have r1 : ((wo.setCell ⟨w.heap.size + 1, 0, none⟩ (.int .i64 n1)).setCell ⟨w.heap.size + 1, 1, none⟩ (.int .i64 n2)).cell? ⟨w.heap.size + 1, 1, none⟩ = some (.int .i64 n2) := by
        refine World.cell?_setCell_same _ _ _ (u := v) ?_
        rw [World.cell?_setCell_other _ _ _ _ (by intro e; injection e with e1 e2; omega)]
        exact hv
      have hnl : ¬ (((n - 1 : Nat) : Int) < (n : Int) - 1) := by omega
      clear S0 hS
      go_wp2_with fail
      refine bodyPost_ret (v := .agg #[.int .i64 n1, .int .i64 n2]) (by simp [results, Try.results72, go_sem, r0, r1]) rfl ⟨by rw [hfo.out], BF⟩
/-- the order of two points as they are seen from f, from right to left (s = 1) or from left to right -/
def seenI (f : Int × Int) (s : Int) (p q : Int × Int) : Int := if sgI (0 - s * MH.tw f p q) ≠ 0 then sgI (0 - s * MH.tw f p q) else sgI (MH.sq p f - MH.sq q f)
theorem seenI_lt {f p q : Int × Int} {s : Int} : seenI f s p q < 0 ↔ befB f s p q = true := by
  rw [befB_iff]
  unfold seenI sgI
  repeat' split
  all_goals omega
theorem seen_any (f1 f2 sd p1 p2 q1 q2 : Int) (gs gf : Nat) (w : World) (hsd : sd = 1 ∨ sd = -1) (hf : isPg (f1, f2) = true) (hp : isPg (p1, p2) = true) (hq : isPg (q1, q2) = true)
    (c1 : w.cell? ⟨gs, 0, none⟩ = some (.int .i64 sd)) (c2 : w.cell? ⟨gf, 0, none⟩ = some (.int .i64 f1)) (c3 : w.cell? ⟨gf, 1, none⟩ = some (.int .i64 f2)) (z1 : gs < w.heap.size) (z2 : gf < w.heap.size) :
    Calls Try.prog 92 #[.agg #[.int .i64 p1, .int .i64 p2], .agg #[.int .i64 q1, .int .i64 q2], .pointer (some ⟨gs, 0, none⟩), .pointer (some ⟨gf, 0, none⟩)] w fun e w' => e = .returned (.int .i64 (seenI (f1, f2) sd (p1, p2) (q1, q2))) ∧ Below w.heap.size w w' := by
  have bp := isPg_bd hp
  have bq := isPg_bd hq
  have bf := isPg_bd hf
  simp only at bp bq bf
  have KT := Lib.hid (fun W => twiceThree_any f1 f2 p1 p2 q1 q2 W (by unfold Sz; omega) (by unfold Sz; omega) (by unfold Sz; omega))
  have KM1 := Lib.hid (fun W => minus_any p1 p2 f1 f2 W (by unfold Mid; omega) (by unfold Mid; omega) (by unfold Mid; omega) (by unfold Mid; omega))
  have KM2 := Lib.hid (fun W => minus_any q1 q2 f1 f2 W (by unfold Mid; omega) (by unfold Mid; omega) (by unfold Mid; omega) (by unfold Mid; omega))
  have KS1 := Lib.hid (fun W => square_any (p1 - f1) (p2 - f2) W (by omega) (by omega))
  have KS2 := Lib.hid (fun W => square_any (q1 - f1) (q2 - f2) W (by omega) (by omega))
  have hbig : -12800 ≤ twI f1 f2 p1 p2 q1 q2 ∧ twI f1 f2 p1 p2 q1 q2 ≤ 12800 := by
    unfold twI
    have a1 := mul_bd (x := p1 - f1) (y := q2 - f2) (m := 80) (n := 80) (by omega) (by omega) (by omega) (by omega)
    have a2 := mul_bd (x := p2 - f2) (y := q1 - f1) (m := 80) (n := 80) (by omega) (by omega) (by omega) (by omega)
    omega
  have HR : Hid (seenI (f1, f2) sd (p1, p2) (q1, q2) = if sgI (0 - sd * twI f1 f2 p1 p2 q1 q2) ≠ 0 then sgI (0 - sd * twI f1 f2 p1 p2 q1 q2) else sgI ((p1 - f1) * (p1 - f1) + (p2 - f2) * (p2 - f2) - ((q1 - f1) * (q1 - f1) + (q2 - f2) * (q2 - f2)))) := Lib.hid rfl
  clear bp bq bf hf hp hq
  generalize twI f1 f2 p1 p2 q1 q2 = tw at *
  generalize (p1 - f1) * (p1 - f1) + (p2 - f2) * (p2 - f2) = sp at *
  generalize (q1 - f1) * (q1 - f1) + (q2 - f2) * (q2 - f2) = sq at *
  generalize p1 - f1 = e1 at *
  generalize p2 - f2 = e2 at *
  generalize q1 - f1 = e3 at *
  generalize q2 - f2 = e4 at *
  have hmul : -12800 ≤ sd * tw ∧ sd * tw ≤ 12800 := by
    rcases hsd with h | h
    · rw [h]; omega
    · rw [h]; omega
  obtain ⟨hmul1, hmul2⟩ := hmul
  clear hbig hsd
  have hwm : IntKind.i64.wrap (sd * tw) = sd * tw := IntWalk.i64_in _ (by omega)
  have KC1 := Lib.hid (fun W => compare_any 0 (sd * tw) W)
  have KC2 := Lib.hid (fun W => compare_any sp sq W)
  generalize ht : sd * tw = t at *
  have KO := Lib.hid (fun (g n : Nat) (W : World) h0 h1 => or2_any g n (sgI (0 - t)) (sgI (sp - sq)) W h0 h1)
  generalize sgI (0 - t) = x at *
  generalize sgI (sp - sq) = y at *
  rw [HR.out]
  generalize (if x ≠ 0 then x else y) = r at *
  clear HR
  go_enter Try.func92, Try.ntmps92
  go_wp2_with fail
  obtain ⟨W1, hW1⟩ : ∃ W1, W1 = ((w.alloc (.cells #[.int .i64 p1, .int .i64 p2] 38)).alloc (.cells #[.int .i64 q1, .int .i64 q2] 38)) := ⟨_, rfl⟩
  rw [← hW1]
  have yW10_0 : W1.cell? ⟨w.heap.size, 0, none⟩ = some (.int .i64 p1) := by rw [hW1]; go_simp
  have yW10_1 : W1.cell? ⟨w.heap.size, 1, none⟩ = some (.int .i64 p2) := by rw [hW1]; go_simp
  have fW10 : ∀ o, W1.frozen? ⟨w.heap.size, o, none⟩ = false := by intro o; rw [hW1]; (repeat rw [frozen?_alloc_cells]); simp [World.frozen?]
  have zW10 : w.heap.size < W1.heap.size := by rw [hW1]; simp <;> omega
  have yW11_0 : W1.cell? ⟨w.heap.size + 1, 0, none⟩ = some (.int .i64 q1) := by rw [hW1]; go_simp
  have yW11_1 : W1.cell? ⟨w.heap.size + 1, 1, none⟩ = some (.int .i64 q2) := by rw [hW1]; go_simp
  have fW11 : ∀ o, W1.frozen? ⟨w.heap.size + 1, o, none⟩ = false := by intro o; rw [hW1]; (repeat rw [frozen?_alloc_cells]); simp [World.frozen?]
  have zW11 : w.heap.size + 1 < W1.heap.size := by rw [hW1]; simp <;> omega
  have BW1 : Below w.heap.size w W1 := by rw [hW1]; exact (Below.alloc (Below.alloc (Below.refl _ _) (by simp <;> omega) _) (by simp <;> omega) _)
  have eW1 : Hid (W1.heap.size = w.heap.size + 2) := Lib.hid (by rw [hW1]; simp)
  clear hW1
  have v1 := ((bcell BW1).1 _ 0 z1).trans c1
  have v2 := ((bcell BW1).1 _ 0 z2).trans c2
  have v3 := ((bcell BW1).1 _ 1 z2).trans c3
  have zz1 : gs < W1.heap.size := Nat.lt_of_lt_of_le z1 BW1.size
  have zz2 : gf < W1.heap.size := Nat.lt_of_lt_of_le z2 BW1.size
  clear c1 c2 c3 z1 z2 fW10 fW11 eW1
  refine wp_region_B (fun W => Below W1.heap.size W1 W) (by kernel_rfl) (by repeat (first | exact Below.refl _ _ | apply Below.drew)) ?_
  first | refine wpB_skip 0 rfl (by kernel_rfl) (by kernel_rfl) (by kernel_rfl) (by rfl) ?_ | (refine wpB_text 0 (v := ?_) rfl (by kernel_rfl) (by kernel_rfl) (by kernel_rfl) (by rfl) (fun W hW => ?_) ?_; rotate_left; (have k1 := hW; obtain ⟨hc1, hf1⟩ := bcell k1; go_simp; refine comes_v ?_; exact k1))
  (try simp only [Act.put, List.setIfInBounds_toArray, List.set_cons_zero, List.set_cons_succ])
  first | refine wpB_skip 1 rfl (by kernel_rfl) (by kernel_rfl) (by kernel_rfl) (by rfl) ?_ | (refine wpB_text 1 (v := ?_) rfl (by kernel_rfl) (by kernel_rfl) (by kernel_rfl) (by rfl) (fun W hW => ?_) ?_; rotate_left; (have k1 := hW; obtain ⟨hc1, hf1⟩ := bcell k1; go_simp; refine comes_v ?_; exact k1))
  (try simp only [Act.put, List.setIfInBounds_toArray, List.set_cons_zero, List.set_cons_succ])
  first | refine wpB_skip 2 rfl (by kernel_rfl) (by kernel_rfl) (by kernel_rfl) (by rfl) ?_ | (refine wpB_text 2 (v := ?_) rfl (by kernel_rfl) (by kernel_rfl) (by kernel_rfl) (by rfl) (fun W hW => ?_) ?_; rotate_left; (have k1 := hW; obtain ⟨hc1, hf1⟩ := bcell k1; go_simp; refine comes_v ?_; exact k1))
  (try simp only [Act.put, List.setIfInBounds_toArray, List.set_cons_zero, List.set_cons_succ])
  first | refine wpB_skip 3 rfl (by kernel_rfl) (by kernel_rfl) (by kernel_rfl) (by rfl) ?_ | (refine wpB_text 3 (v := ?_) rfl (by kernel_rfl) (by kernel_rfl) (by kernel_rfl) (by rfl) (fun W hW => ?_) ?_; rotate_left; (have k1 := hW; obtain ⟨hc1, hf1⟩ := bcell k1; go_simp; refine comes_v ?_; exact k1))
  (try simp only [Act.put, List.setIfInBounds_toArray, List.set_cons_zero, List.set_cons_succ])
  first | refine wpB_skip 4 rfl (by kernel_rfl) (by kernel_rfl) (by kernel_rfl) (by rfl) ?_ | (refine wpB_text 4 (v := .int .i64 tw) rfl (by kernel_rfl) (by kernel_rfl) (by kernel_rfl) (by rfl) (fun W hW => ?_) ?_; (have k1 := hW; obtain ⟨hc1, hf1⟩ := bcell k1; go_simp; exact comes_c ( KT.out _) (fun wn hbn => bt_keep k1 hbn)))
  (try simp only [Act.put, List.setIfInBounds_toArray, List.set_cons_zero, List.set_cons_succ])
  first | refine wpB_skip 5 rfl (by kernel_rfl) (by kernel_rfl) (by kernel_rfl) (by rfl) ?_ | (refine wpB_text 5 (v := ?_) rfl (by kernel_rfl) (by kernel_rfl) (by kernel_rfl) (by rfl) (fun W hW => ?_) ?_; rotate_left; (have k1 := hW; obtain ⟨hc1, hf1⟩ := bcell k1; go_simp; refine comes_v ?_; exact k1))
  (try simp only [Act.put, List.setIfInBounds_toArray, List.set_cons_zero, List.set_cons_succ])
  first | refine wpB_skip 6 rfl (by kernel_rfl) (by kernel_rfl) (by kernel_rfl) (by rfl) ?_ | (refine wpB_text 6 (v := ?_) rfl (by kernel_rfl) (by kernel_rfl) (by kernel_rfl) (by rfl) (fun W hW => ?_) ?_; rotate_left; (have k1 := hW; obtain ⟨hc1, hf1⟩ := bcell k1; go_simp; refine comes_v ?_; exact k1))
  (try simp only [Act.put, List.setIfInBounds_toArray, List.set_cons_zero, List.set_cons_succ])
  refine wpB_done (by kernel_rfl) ?_ _
  intro W hW; have k1 := hW
  rename World => W2
  have B2 := BW1.trans (k1.mono BW1.size)
  have u1 := ((bcell k1).1 _ 0 zz1).trans v1
  have u2 := ((bcell k1).1 _ 0 zz2).trans v2
  have u3 := ((bcell k1).1 _ 1 zz2).trans v3
  have u4 := ((bcell k1).1 _ 0 zW10).trans yW10_0
  have u5 := ((bcell k1).1 _ 1 zW10).trans yW10_1
  have u6 := ((bcell k1).1 _ 0 zW11).trans yW11_0
  have u7 := ((bcell k1).1 _ 1 zW11).trans yW11_1
  have s1 : gs < W2.heap.size := Nat.lt_of_lt_of_le zz1 k1.size
  have s2 : gf < W2.heap.size := Nat.lt_of_lt_of_le zz2 k1.size
  have s3 : w.heap.size < W2.heap.size := Nat.lt_of_lt_of_le zW10 k1.size
  have s4 : w.heap.size + 1 < W2.heap.size := Nat.lt_of_lt_of_le zW11 k1.size
  clear v1 v2 v3 zz1 zz2 yW10_0 yW10_1 yW11_0 yW11_1 zW10 zW11 k1 BW1 KT
  go_wp2_with fail
  refine wp_region_BT 11 (fun W => Below (W2).heap.size (W2) W) (by kernel_rfl) (by kernel_rfl) (by repeat (first | exact Below.refl _ _ | apply Below.drew)) ?_
  simp only [List.take_succ_cons, List.take_zero, List.drop_succ_cons, List.drop_zero]
  first | refine wpH_skip (by rfl) ?_ | (refine wpH_text (v := ?_) (by rfl) (fun W k1 => ?_) ?_; rotate_left; (obtain ⟨hc1, hf1⟩ := bcell k1;  go_simp; refine comes_v ?_; exact k1))
  (try simp only [Act.put, List.setIfInBounds_toArray, List.set_cons_zero, List.set_cons_succ])
  first | refine wpH_skip (by rfl) ?_ | (refine wpH_text (v := .int .i64 x) (by rfl) (fun W k1 => ?_) ?_; (obtain ⟨hc1, hf1⟩ := bcell k1;  go_simp; exact comes_q ( KC1.out _) k1))
  (try simp only [Act.put, List.setIfInBounds_toArray, List.set_cons_zero, List.set_cons_succ])
  first | refine wpH_skip (by rfl) ?_ | (refine wpH_text (v := ?_) (by rfl) (fun W k1 => ?_) ?_; rotate_left; (obtain ⟨hc1, hf1⟩ := bcell k1;  go_simp; refine comes_v ?_; exact k1))
  (try simp only [Act.put, List.setIfInBounds_toArray, List.set_cons_zero, List.set_cons_succ])
  first | refine wpH_skip (by rfl) ?_ | (refine wpH_text (v := ?_) (by rfl) (fun W k1 => ?_) ?_; rotate_left; (obtain ⟨hc1, hf1⟩ := bcell k1;  go_simp; refine comes_v ?_; exact k1))
  (try simp only [Act.put, List.setIfInBounds_toArray, List.set_cons_zero, List.set_cons_succ])
  first | refine wpH_skip (by rfl) ?_ | (refine wpH_text (v := .agg #[.int .i64 e1, .int .i64 e2]) (by rfl) (fun W k1 => ?_) ?_; (obtain ⟨hc1, hf1⟩ := bcell k1;  go_simp; exact comes_c ( KM1.out _) (fun wn hbn => k1.trans (hbn.mono k1.size))))
  (try simp only [Act.put, List.setIfInBounds_toArray, List.set_cons_zero, List.set_cons_succ])
  first | refine wpH_skip (by rfl) ?_ | (refine wpH_text (v := .int .i64 sp) (by rfl) (fun W k1 => ?_) ?_; (obtain ⟨hc1, hf1⟩ := bcell k1;  go_simp; exact comes_c ( KS1.out _) (fun wn hbn => k1.trans (hbn.mono k1.size))))
  (try simp only [Act.put, List.setIfInBounds_toArray, List.set_cons_zero, List.set_cons_succ])
  first | refine wpH_skip (by rfl) ?_ | (refine wpH_text (v := ?_) (by rfl) (fun W k1 => ?_) ?_; rotate_left; (obtain ⟨hc1, hf1⟩ := bcell k1;  go_simp; refine comes_v ?_; exact k1))
  (try simp only [Act.put, List.setIfInBounds_toArray, List.set_cons_zero, List.set_cons_succ])
  first | refine wpH_skip (by rfl) ?_ | (refine wpH_text (v := ?_) (by rfl) (fun W k1 => ?_) ?_; rotate_left; (obtain ⟨hc1, hf1⟩ := bcell k1;  go_simp; refine comes_v ?_; exact k1))
  (try simp only [Act.put, List.setIfInBounds_toArray, List.set_cons_zero, List.set_cons_succ])
  first | refine wpH_skip (by rfl) ?_ | (refine wpH_text (v := .agg #[.int .i64 e3, .int .i64 e4]) (by rfl) (fun W k1 => ?_) ?_; (obtain ⟨hc1, hf1⟩ := bcell k1;  go_simp; exact comes_c ( KM2.out _) (fun wn hbn => k1.trans (hbn.mono k1.size))))
  (try simp only [Act.put, List.setIfInBounds_toArray, List.set_cons_zero, List.set_cons_succ])
  first | refine wpH_skip (by rfl) ?_ | (refine wpH_text (v := .int .i64 sq) (by rfl) (fun W k1 => ?_) ?_; (obtain ⟨hc1, hf1⟩ := bcell k1;  go_simp; exact comes_c ( KS2.out _) (fun wn hbn => k1.trans (hbn.mono k1.size))))
  (try simp only [Act.put, List.setIfInBounds_toArray, List.set_cons_zero, List.set_cons_succ])
  first | refine wpH_skip (by rfl) ?_ | (refine wpH_text (v := .int .i64 y) (by rfl) (fun W k1 => ?_) ?_; (obtain ⟨hc1, hf1⟩ := bcell k1;  go_simp; exact comes_q ( KC2.out _) k1))
  (try simp only [Act.put, List.setIfInBounds_toArray, List.set_cons_zero, List.set_cons_succ])
  refine wpH_nil ?_
  intro W k1; obtain ⟨hc1, hf1⟩ := bcell k1
  go_wp2_with fail
  refine (KO.out W.heap.size 2 _ (by go_simp) (by go_simp)).mono ?_; rintro e w2 ⟨rfl, rfl⟩
  have BW := B2.trans (k1.mono B2.size)
  have B3 := Below.alloc BW BW.size (.cells #[.int .i64 x, .int .i64 y] 3)
  go_wp2_with fail
  go_ret
  exact ⟨rfl, B3⟩
theorem seenFrom_any (f1 f2 sd : Int) (w : World) :
    Calls Try.prog 74 #[.agg #[.int .i64 f1, .int .i64 f2], .int .i64 sd] w fun e w' => e = .returned (.func (.func 92) #[] #[.pointer (some ⟨w.heap.size + 1, 0, none⟩), .pointer (some ⟨w.heap.size, 0, none⟩)]) ∧ Below w.heap.size w w' ∧ w.heap.size + 1 < w'.heap.size ∧ w'.cell? ⟨w.heap.size + 1, 0, none⟩ = some (.int .i64 sd) ∧ w'.cell? ⟨w.heap.size, 0, none⟩ = some (.int .i64 f1) ∧ w'.cell? ⟨w.heap.size, 1, none⟩ = some (.int .i64 f2) := by
  have hmf : ∀ (fn : Fn) (first cap : Array Value) (w : World), (Instr.makeFunc fn first cap).run Try.prog w = .ok (.func fn first cap) w := fun _ _ _ _ => rfl
  go_enter Try.func74, Try.ntmps74
  go_wp2_with fail
  go_ret
  exact ⟨rfl, by repeat (first | with_reducible assumption | with_reducible exact Below.refl _ _ | with_reducible apply Below.drew | ((with_reducible refine Below.setCell ?_ ?_ _); rotate_left; (first | exact Nat.le_refl _ | omega | (simp <;> omega))) | ((with_reducible refine Below.alloc ?_ ?_ _); rotate_left; (first | omega | (simp <;> omega)))), by simp, by go_simp, by go_simp, by go_simp⟩
/-- two boxes of zeros that nobody has written yet -/
structure FoS (w W : World) : Prop where
  bel : Below w.heap.size w W
  size : w.heap.size + 1 < W.heap.size
  c40 : W.cell? ⟨w.heap.size, 0, none⟩ = some (.int .i64 0)
  c41 : W.cell? ⟨w.heap.size, 1, none⟩ = some (.int .i64 0)
  c50 : W.cell? ⟨w.heap.size + 1, 0, none⟩ = some (.int .i64 0)
  c51 : W.cell? ⟨w.heap.size + 1, 1, none⟩ = some (.int .i64 0)
  f4 : ∀ o, W.frozen? ⟨w.heap.size, o, none⟩ = false
  f5 : ∀ o, W.frozen? ⟨w.heap.size + 1, o, none⟩ = false
theorem FoS.up {w W W' : World} (h : FoS w W) (hb : Below W.heap.size W W') : FoS w W' := by
  obtain ⟨hc, hf⟩ := bcell hb
  have hz := h.size
  exact ⟨h.bel.trans (hb.mono h.bel.size), Nat.lt_of_lt_of_le hz hb.size, (hc _ _ (by omega)).trans h.c40, (hc _ _ (by omega)).trans h.c41, (hc _ _ hz).trans h.c50, (hc _ _ hz).trans h.c51, fun o => (hf _ _ (by omega)).trans (h.f4 o), fun o => (hf _ _ hz).trans (h.f5 o)⟩
set_option maxHeartbeats 16000000 in
theorem firstOf_any (A : Option Addr) (c n : Nat) (l : List (Int × Int)) (gs gf : Nat) (f1 f2 sd t1 t2 : Int) (w : World) (hln : l.length = n) (h1 : 1 ≤ n) (hn : n ≤ 60) (hpg : ∀ x ∈ l, isPg x = true) (hf : isPg (f1, f2) = true) (hsd : sd = 1 ∨ sd = -1)
    (hc1 : w.cell? ⟨gs, 0, none⟩ = some (.int .i64 sd)) (hc2 : w.cell? ⟨gf, 0, none⟩ = some (.int .i64 f1)) (hc3 : w.cell? ⟨gf, 1, none⟩ = some (.int .i64 f2)) (hz1 : gs < w.heap.size) (hz2 : gf < w.heap.size)
    (hex : ∃ i, i < n ∧ ∀ j, j < n → befB (f1, f2) sd (pt l j) (pt l i) = false) (hun : ∀ i, i < n → (∀ j, j < n → befB (f1, f2) sd (pt l j) (pt l i) = false) → pt l i = (t1, t2)) (hR : Rd w w.heap.size A l) :
    Calls Try.prog 73 #[.slice A n c, .func (.func 92) #[] #[.pointer (some ⟨gs, 0, none⟩), .pointer (some ⟨gf, 0, none⟩)]] w fun e w' => e = .returned (.agg #[.int .i64 t1, .int .i64 t2]) ∧ Below w.heap.size w w' := by
  have HC : Hid (∀ W, Below w.heap.size w W → ∀ i, i < n → ∃ b off, A = some ⟨b, off, none⟩ ∧ b < w.heap.size ∧ W.cell? ⟨b, off + i * 2, none⟩ = some (.int .i64 (pt l i).1) ∧ W.cell? ⟨b, off + i * 2 + 1, none⟩ = some (.int .i64 (pt l i).2)) := Lib.hid (fun W hW i hi => by
    obtain ⟨b, off, e, hb, hc⟩ := hR (by omega)
    obtain ⟨h1, h2⟩ := hc i _ (pt_get (by omega))
    exact ⟨b, off, e, hb, (hW.cell (p := ⟨b, off + i * 2, none⟩) hb).trans h1, (hW.cell (p := ⟨b, off + i * 2 + 1, none⟩) hb).trans h2⟩)
  have KO : Hid (∀ W, Below w.heap.size w W → ∀ i j, i < n → j < n → Calls Try.prog 92 #[.agg #[.int .i64 (pt l j).1, .int .i64 (pt l j).2], .agg #[.int .i64 (pt l i).1, .int .i64 (pt l i).2], .pointer (some ⟨gs, 0, none⟩), .pointer (some ⟨gf, 0, none⟩)] W fun e w' => e = .returned (.int .i64 (seenI (f1, f2) sd (pt l j) (pt l i))) ∧ Below W.heap.size W w') := Lib.hid (fun W hW i j hi hj =>
    seen_any f1 f2 sd (pt l j).1 (pt l j).2 (pt l i).1 (pt l i).2 gs gf W hsd hf (hpg _ (pt_mem (by omega))) (hpg _ (pt_mem (by omega))) ((hW.cell (p := ⟨gs, 0, none⟩) hz1).trans hc1) ((hW.cell (p := ⟨gf, 0, none⟩) hz2).trans hc2) ((hW.cell (p := ⟨gf, 1, none⟩) hz2).trans hc3) (Nat.lt_of_lt_of_le hz1 hW.size) (Nat.lt_of_lt_of_le hz2 hW.size))
  have HEX := Lib.hid hex
  have HUN := Lib.hid hun
  clear hR hln hpg hf hsd hc1 hc2 hc3 hz1 hz2 hex hun
  go_enter Try.func73, Try.ntmps73
  go_wp2_with fail
  go_step3
  go_wp2_with fail
  obtain ⟨W1, hW1⟩ : ∃ W1, W1 = ((w.alloc (.cells #[.int .i64 0, .int .i64 0] 38)).alloc (.cells #[.int .i64 0, .int .i64 0] 38)) := ⟨_, rfl⟩
  rw [← hW1]
  have yW10_0 : W1.cell? ⟨w.heap.size, 0, none⟩ = some (.int .i64 0) := by rw [hW1]; go_simp
  have yW10_1 : W1.cell? ⟨w.heap.size, 1, none⟩ = some (.int .i64 0) := by rw [hW1]; go_simp
  have fW10 : ∀ o, W1.frozen? ⟨w.heap.size, o, none⟩ = false := by intro o; rw [hW1]; (repeat rw [frozen?_alloc_cells]); simp [World.frozen?]
  have zW10 : w.heap.size < W1.heap.size := by rw [hW1]; simp <;> omega
  have yW11_0 : W1.cell? ⟨w.heap.size + 1, 0, none⟩ = some (.int .i64 0) := by rw [hW1]; go_simp
  have yW11_1 : W1.cell? ⟨w.heap.size + 1, 1, none⟩ = some (.int .i64 0) := by rw [hW1]; go_simp
  have fW11 : ∀ o, W1.frozen? ⟨w.heap.size + 1, o, none⟩ = false := by intro o; rw [hW1]; (repeat rw [frozen?_alloc_cells]); simp [World.frozen?]
  have zW11 : w.heap.size + 1 < W1.heap.size := by rw [hW1]; simp <;> omega
  have BW1 : Below w.heap.size w W1 := by rw [hW1]; exact (Below.alloc (Below.alloc (Below.refl _ _) (by simp <;> omega) _) (by simp <;> omega) _)
  have eW1 : Hid (W1.heap.size = w.heap.size + 2) := Lib.hid (by rw [hW1]; simp)
  clear hW1
  have HS1 : Hid (FoS w W1) := Lib.hid ⟨BW1, zW11, yW10_0, yW10_1, yW11_0, yW11_1, fW10, fW11⟩
  clear yW10_0 yW10_1 yW11_0 yW11_1 fW10 fW11 zW10 zW11 eW1 BW1
  go_step3
  go_wp2_with fail
  go_loopg [12] n (fun g i wr => ∃ k : Nat, k ≤ n ∧ g = n - k ∧ i = .int .i64 k ∧ Hid (FoS w wr) ∧ Hid (∀ i, i < k → ∃ j, j < n ∧ befB (f1, f2) sd (pt l j) (pt l i) = true))
  case atStart => exact ⟨0, Nat.zero_le _, rfl, rfl, HS1, Lib.hid (fun i h => absurd h (Nat.not_lt_zero _))⟩
  case round =>
    clear HS1
    obtain ⟨k, hk, hg, rfl, hS, hA⟩ := hrel
    rename World => wo
    have HGK := Lib.hid hg
    clear hg
    by_cases hlt : k < n
    · obtain ⟨b, off, hAe, hb, x0, x1⟩ := HC.out wo hS.out.bel k hlt
      subst hAe
      have zb : b < wo.heap.size := Nat.lt_of_lt_of_le hb hS.out.bel.size
      have KOk := Lib.hid (fun W hW j hj => KO.out W hW k j hlt hj)
      have HUk := Lib.hid (HUN.out k hlt)
      have HAk : Hid ((∃ j, j < n ∧ befB (f1, f2) sd (pt l j) (pt l k) = true) → ∀ i, i < k + 1 → ∃ j, j < n ∧ befB (f1, f2) sd (pt l j) (pt l i) = true) := Lib.hid (fun h i hi => by
        rcases Nat.lt_or_ge i k with h1 | h1
        · exact hA.out i h1
        · obtain rfl : i = k := by omega
          exact h)
      obtain ⟨p1, p2, hpe⟩ : ∃ p1 p2, pt l k = (p1, p2) := ⟨_, _, rfl⟩
      rw [hpe] at x0 x1 KOk HUk HAk
      clear hpe hA
      go_wp2_with fail
      go_loopg [18] n (fun g2 j wi => ∃ m : Nat, m ≤ n ∧ g2 = n - m ∧ j = .int .i64 m ∧ Hid (FoS w wi) ∧ wo.heap.size < wi.heap.size ∧ wi.cell? ⟨wo.heap.size, 0, none⟩ = some (.int .i64 p1) ∧ wi.cell? ⟨wo.heap.size, 1, none⟩ = some (.int .i64 p2) ∧ Hid (∀ j, j < m → befB (f1, f2) sd (pt l j) (p1, p2) = false))
      case atStart => exact ⟨0, Nat.zero_le _, rfl, rfl, Lib.hid (hS.out.up (Below.alloc (Below.refl _ _) (Nat.le_refl _) _)), by simp, by go_simp, by go_simp, Lib.hid (fun i h => absurd h (Nat.not_lt_zero _))⟩
      case round =>
        clear hS x0 x1
        obtain ⟨m, hm, hg2, rfl, hSi, hzi, y1, y2, hN⟩ := hrel
        rename World => wi
        have HGM := Lib.hid hg2
        clear hg2
        by_cases hlm : m < n
        · obtain ⟨b', off', hAe, hb', q3, q4⟩ := HC.out wi hSi.out.bel m hlm
          injection hAe with hAe
          injection hAe with hA1 hA2
          subst hA1 hA2
          have zbi : b < wi.heap.size := Nat.lt_of_lt_of_le hb hSi.out.bel.size
          have KOm := Lib.hid (fun W hW => KOk.out W hW m hlm)
          have HIF : Hid (befB (f1, f2) sd (pt l m) (p1, p2) = true → ∃ j, j < n ∧ befB (f1, f2) sd (pt l j) (p1, p2) = true) := Lib.hid (fun h => ⟨m, hlm, h⟩)
          have HNO : Hid (befB (f1, f2) sd (pt l m) (p1, p2) = false → ∀ j, j < m + 1 → befB (f1, f2) sd (pt l j) (p1, p2) = false) := Lib.hid (fun h j hj => by
            rcases Nat.lt_or_ge j m with h1 | h1
            · exact hN.out j h1
            · obtain rfl : j = m := by omega
              exact h)
          have HLT : Hid (seenI (f1, f2) sd (pt l m) (p1, p2) < 0 ↔ befB (f1, f2) sd (pt l m) (p1, p2) = true) := Lib.hid seenI_lt
          obtain ⟨r1, r2, hre⟩ : ∃ r1 r2, pt l m = (r1, r2) := ⟨_, _, rfl⟩
          rw [hre] at q3 q4 KOm HIF HNO HLT
          clear hre hN
          generalize seenI (f1, f2) sd (r1, r2) (p1, p2) = o at *
          go_wp2_with fail
          obtain ⟨Wq, hWq⟩ : ∃ Wq, Wq = (wi.alloc (.cells #[.int .i64 r1, .int .i64 r2] 38)) := ⟨_, rfl⟩
          rw [← hWq]
          have yWq0_0 : Wq.cell? ⟨wi.heap.size, 0, none⟩ = some (.int .i64 r1) := by rw [hWq]; go_simp
          have yWq0_1 : Wq.cell? ⟨wi.heap.size, 1, none⟩ = some (.int .i64 r2) := by rw [hWq]; go_simp
          have fWq0 : ∀ o, Wq.frozen? ⟨wi.heap.size, o, none⟩ = false := by intro o; rw [hWq]; (repeat rw [frozen?_alloc_cells]); simp [World.frozen?]
          have zWq0 : wi.heap.size < Wq.heap.size := by rw [hWq]; simp <;> omega
          have BWq : Below wi.heap.size wi Wq := by rw [hWq]; exact (Below.alloc (Below.refl _ _) (by simp <;> omega) _)
          have eWq : Hid (Wq.heap.size = wi.heap.size + 1) := Lib.hid (by rw [hWq]; simp)
          clear hWq
          have SQ := Lib.hid (hSi.out.up BWq)
          refine (KOm.out Wq SQ.out.bel).mono ?_; rintro e w4 ⟨rfl, hb4⟩
          have S4 := Lib.hid (SQ.out.up hb4)
          have B4 := BWq.trans (hb4.mono BWq.size)
          have u1 := ((bcell B4).1 _ 0 hzi).trans y1
          have u2 := ((bcell B4).1 _ 1 hzi).trans y2
          have z5 : wo.heap.size < w4.heap.size := Nat.lt_of_lt_of_le hzi B4.size
          clear y1 y2 q3 q4 hSi yWq0_0 yWq0_1 zWq0 fWq0 eWq BWq hb4 B4 SQ KOm
          by_cases ho : o < 0
          · have HX := Lib.hid (HAk.out (HIF.out (HLT.out.1 ho)))
            go_wp2_with fail
            go_roundg (n - (k + 1))
            case measure => have := HGK.out; omega
            case rel => exact ⟨k + 1, by omega, rfl, by go_num, S4, HX⟩
          · have HX := Lib.hid (HNO.out (by
              cases hbb : befB (f1, f2) sd (r1, r2) (p1, p2) with
              | true => exact absurd (HLT.out.2 hbb) ho
              | false => rfl))
            go_wp2_with fail
            go_roundg (n - (m + 1))
            case measure => have := HGM.out; omega
            case rel => exact ⟨m + 1, by omega, rfl, by go_num, S4, z5, u1, u2, HX⟩
        · have hme : m = n := by omega
          subst hme
          have hpt := HUk.out hN.out
          injection hpt with e1 e2
          subst e1 e2
          have s1 := hSi.out.size
          have s2 := hSi.out.c40
          have s3 := hSi.out.c41
          have s4 := hSi.out.c50
          have s5 := hSi.out.c51
          have s6 := hSi.out.f4
          have s7 := hSi.out.f5
          have s8 := hSi.out.bel
          have s0 : w.heap.size < wi.heap.size := by omega
          clear hSi HUk HAk KOk HUN HEX KO HC hN
          go_wp2_with fail
          rw [Exit.noGoto_ret]
          refine bodyPost_ret (v := .agg #[.int .i64 p1, .int .i64 p2]) (by simp [results, Try.results73, go_sem, s0, s1, s2, s3, s4, s5]) rfl ⟨rfl, ?_⟩
          repeat (first | with_reducible assumption | with_reducible exact Below.refl _ _ | with_reducible apply Below.drew | ((with_reducible refine Below.setCell ?_ ?_ _); rotate_left; (first | exact Nat.le_refl _ | omega | (simp <;> omega))) | ((with_reducible refine Below.alloc ?_ ?_ _); rotate_left; (first | omega | (simp <;> omega))))
    · exfalso
      have hkn : k = n := by omega
      subst hkn
      obtain ⟨i, hi, hno⟩ := HEX.out
      obtain ⟨j, hj, hbb⟩ := hA.out i hi
      rw [hno j hj] at hbb
      cases hbb
end Go.Proofs.Ythpbnfmfedggjaa
/- contracts: TangentsFrom on both sides, at any list and any point -/
namespace Go.Proofs.Ythpbnfmfedggjaa
open Go.ChangeShapes Go.WideShapes Go.ChangeAt Go.RowKit Go.Joins
set_option linter.unusedVariables false
set_option linter.unusedSimpArgs false
set_option maxRecDepth 4000
/-- three boxes: a point, and two of zeros that nobody has written yet -/
structure TgS (w W : World) (p1 p2 : Int) : Prop where
  bel : Below w.heap.size w W
  size : w.heap.size + 2 < W.heap.size
  c30 : W.cell? ⟨w.heap.size, 0, none⟩ = some (.int .i64 p1)
  c31 : W.cell? ⟨w.heap.size, 1, none⟩ = some (.int .i64 p2)
  c40 : W.cell? ⟨w.heap.size + 1, 0, none⟩ = some (.int .i64 0)
  c41 : W.cell? ⟨w.heap.size + 1, 1, none⟩ = some (.int .i64 0)
  c50 : W.cell? ⟨w.heap.size + 2, 0, none⟩ = some (.int .i64 0)
  c51 : W.cell? ⟨w.heap.size + 2, 1, none⟩ = some (.int .i64 0)
  f4 : ∀ o, W.frozen? ⟨w.heap.size + 1, o, none⟩ = false
  f5 : ∀ o, W.frozen? ⟨w.heap.size + 2, o, none⟩ = false
theorem TgS.up {w W W' : World} {p1 p2 : Int} (h : TgS w W p1 p2) (hb : Below W.heap.size W W') : TgS w W' p1 p2 := by
  obtain ⟨hc, hf⟩ := bcell hb
  have hz := h.size
  exact ⟨h.bel.trans (hb.mono h.bel.size), Nat.lt_of_lt_of_le hz hb.size, (hc _ _ (by omega)).trans h.c30, (hc _ _ (by omega)).trans h.c31, (hc _ _ (by omega)).trans h.c40, (hc _ _ (by omega)).trans h.c41, (hc _ _ hz).trans h.c50, (hc _ _ hz).trans h.c51, fun o => (hf _ _ (by omega)).trans (h.f4 o), fun o => (hf _ _ hz).trans (h.f5 o)⟩
set_option maxHeartbeats 4000000
theorem specTangents_no1 (A : Option Addr) (c : Nat) (l : List (Int × Int)) (p1 p2 : Int) (w : World) (hn : l.length ≤ 1048576) (hcap : l.length ≤ c) (hc2 : c ≤ 9223372036854775807) (hg : ¬ Dif l) (hR : Rd w w.heap.size A l) :
    Calls Try.prog 46 #[.slice A l.length c, .agg #[.int .i64 p1, .int .i64 p2]] w fun e w' => e = .returned (.tuple #[.agg #[.int .i64 0, .int .i64 0], .agg #[.int .i64 0, .int .i64 0], .bool false]) ∧ Below w.heap.size w w' := by
  have K := Lib.hid (fun W (hb : Below w.heap.size w W) => bdGood_any A c l W hn hcap hc2 (rd_more (rd_below hR hb (Nat.le_refl _)) hb.size))
  rw [difB_false hg] at K
  clear hg hR
  go_enter Try.func46, Try.ntmps46
  go_wp2_with fail
  obtain ⟨W1, hW1⟩ : ∃ W1, W1 = (((w.alloc (.cells #[.int .i64 p1, .int .i64 p2] 38)).alloc (.cells #[.int .i64 0, .int .i64 0] 38)).alloc (.cells #[.int .i64 0, .int .i64 0] 38)) := ⟨_, rfl⟩
  rw [← hW1]
  have yW10_0 : W1.cell? ⟨w.heap.size, 0, none⟩ = some (.int .i64 p1) := by rw [hW1]; go_simp
  have yW10_1 : W1.cell? ⟨w.heap.size, 1, none⟩ = some (.int .i64 p2) := by rw [hW1]; go_simp
  have fW10 : ∀ o, W1.frozen? ⟨w.heap.size, o, none⟩ = false := by intro o; rw [hW1]; (repeat rw [frozen?_alloc_cells]); simp [World.frozen?]
  have zW10 : w.heap.size < W1.heap.size := by rw [hW1]; simp <;> omega
  have yW11_0 : W1.cell? ⟨w.heap.size + 1, 0, none⟩ = some (.int .i64 0) := by rw [hW1]; go_simp
  have yW11_1 : W1.cell? ⟨w.heap.size + 1, 1, none⟩ = some (.int .i64 0) := by rw [hW1]; go_simp
  have fW11 : ∀ o, W1.frozen? ⟨w.heap.size + 1, o, none⟩ = false := by intro o; rw [hW1]; (repeat rw [frozen?_alloc_cells]); simp [World.frozen?]
  have zW11 : w.heap.size + 1 < W1.heap.size := by rw [hW1]; simp <;> omega
  have yW12_0 : W1.cell? ⟨w.heap.size + 2, 0, none⟩ = some (.int .i64 0) := by rw [hW1]; go_simp
  have yW12_1 : W1.cell? ⟨w.heap.size + 2, 1, none⟩ = some (.int .i64 0) := by rw [hW1]; go_simp
  have fW12 : ∀ o, W1.frozen? ⟨w.heap.size + 2, o, none⟩ = false := by intro o; rw [hW1]; (repeat rw [frozen?_alloc_cells]); simp [World.frozen?]
  have zW12 : w.heap.size + 2 < W1.heap.size := by rw [hW1]; simp <;> omega
  have BW1 : Below w.heap.size w W1 := by rw [hW1]; exact (Below.alloc (Below.alloc (Below.alloc (Below.refl _ _) (by simp <;> omega) _) (by simp <;> omega) _) (by simp <;> omega) _)
  have eW1 : Hid (W1.heap.size = w.heap.size + 3) := Lib.hid (by rw [hW1]; simp)
  clear hW1
  have S1 : TgS w W1 p1 p2 := ⟨BW1, zW12, yW10_0, yW10_1, yW11_0, yW11_1, yW12_0, yW12_1, fW11, fW12⟩
  clear yW10_0 yW10_1 fW10 zW10 yW11_0 yW11_1 fW11 zW11 yW12_0 yW12_1 fW12 zW12 eW1
  refine (K.out W1 BW1).mono ?_; rintro e w2 ⟨rfl, hb2⟩
  have S2 := S1.up hb2
  clear S1 BW1 hb2 K
  have c40 := S2.c40
  have c41 := S2.c41
  have c50 := S2.c50
  have c51 := S2.c51
  have f4 := S2.f4
  have f5 := S2.f5
  have r2 := S2.size
  have r1 : w.heap.size + 1 < w2.heap.size := by omega
  have BB := S2.bel
  clear S2
  go_wp2_with fail
  refine bodyPost_ret (v := .tuple #[.agg #[.int .i64 0, .int .i64 0], .agg #[.int .i64 0, .int .i64 0], .bool false]) (by simp [results, Try.results46, go_sem, r1, r2, c40, c41, c50, c51]) rfl ⟨rfl, ?_⟩
  repeat (first | with_reducible assumption | with_reducible exact Below.refl _ _ | with_reducible apply Below.drew | ((with_reducible refine Below.setCell ?_ ?_ _); rotate_left; (first | exact Nat.le_refl _ | omega | (simp <;> omega))) | ((with_reducible refine Below.alloc ?_ ?_ _); rotate_left; (first | omega | (simp <;> omega))))
theorem specTangents_no2 (A : Option Addr) (c : Nat) (l : List (Int × Int)) (p1 p2 : Int) (w : World) (hn : l.length ≤ 1048576) (hcap : l.length ≤ c) (hc2 : c ≤ 9223372036854775807) (hg : Dif l) (hp : isPegB p1 p2 = false) (hR : Rd w w.heap.size A l) :
    Calls Try.prog 46 #[.slice A l.length c, .agg #[.int .i64 p1, .int .i64 p2]] w fun e w' => e = .returned (.tuple #[.agg #[.int .i64 0, .int .i64 0], .agg #[.int .i64 0, .int .i64 0], .bool false]) ∧ Below w.heap.size w w' := by
  have K := Lib.hid (fun W (hb : Below w.heap.size w W) => bdGood_any A c l W hn hcap hc2 (rd_more (rd_below hR hb (Nat.le_refl _)) hb.size))
  rw [difB_true hg] at K
  have KP := Lib.hid (fun W => pgIs_any p1 p2 W)
  rw [hp] at KP
  clear hg hp hR
  go_enter Try.func46, Try.ntmps46
  go_wp2_with fail
  obtain ⟨W1, hW1⟩ : ∃ W1, W1 = (((w.alloc (.cells #[.int .i64 p1, .int .i64 p2] 38)).alloc (.cells #[.int .i64 0, .int .i64 0] 38)).alloc (.cells #[.int .i64 0, .int .i64 0] 38)) := ⟨_, rfl⟩
  rw [← hW1]
  have yW10_0 : W1.cell? ⟨w.heap.size, 0, none⟩ = some (.int .i64 p1) := by rw [hW1]; go_simp
  have yW10_1 : W1.cell? ⟨w.heap.size, 1, none⟩ = some (.int .i64 p2) := by rw [hW1]; go_simp
  have fW10 : ∀ o, W1.frozen? ⟨w.heap.size, o, none⟩ = false := by intro o; rw [hW1]; (repeat rw [frozen?_alloc_cells]); simp [World.frozen?]
  have zW10 : w.heap.size < W1.heap.size := by rw [hW1]; simp <;> omega
  have yW11_0 : W1.cell? ⟨w.heap.size + 1, 0, none⟩ = some (.int .i64 0) := by rw [hW1]; go_simp
  have yW11_1 : W1.cell? ⟨w.heap.size + 1, 1, none⟩ = some (.int .i64 0) := by rw [hW1]; go_simp
  have fW11 : ∀ o, W1.frozen? ⟨w.heap.size + 1, o, none⟩ = false := by intro o; rw [hW1]; (repeat rw [frozen?_alloc_cells]); simp [World.frozen?]
  have zW11 : w.heap.size + 1 < W1.heap.size := by rw [hW1]; simp <;> omega
  have yW12_0 : W1.cell? ⟨w.heap.size + 2, 0, none⟩ = some (.int .i64 0) := by rw [hW1]; go_simp
  have yW12_1 : W1.cell? ⟨w.heap.size + 2, 1, none⟩ = some (.int .i64 0) := by rw [hW1]; go_simp
  have fW12 : ∀ o, W1.frozen? ⟨w.heap.size + 2, o, none⟩ = false := by intro o; rw [hW1]; (repeat rw [frozen?_alloc_cells]); simp [World.frozen?]
  have zW12 : w.heap.size + 2 < W1.heap.size := by rw [hW1]; simp <;> omega
  have BW1 : Below w.heap.size w W1 := by rw [hW1]; exact (Below.alloc (Below.alloc (Below.alloc (Below.refl _ _) (by simp <;> omega) _) (by simp <;> omega) _) (by simp <;> omega) _)
  have eW1 : Hid (W1.heap.size = w.heap.size + 3) := Lib.hid (by rw [hW1]; simp)
  clear hW1
  have S1 : TgS w W1 p1 p2 := ⟨BW1, zW12, yW10_0, yW10_1, yW11_0, yW11_1, yW12_0, yW12_1, fW11, fW12⟩
  clear yW10_0 yW10_1 fW10 zW10 yW11_0 yW11_1 fW11 zW11 yW12_0 yW12_1 fW12 zW12 eW1
  refine (K.out W1 BW1).mono ?_; rintro e w2 ⟨rfl, hb2⟩
  have S2 := S1.up hb2
  have s2a := S2.c30
  have s2b := S2.c31
  have s2z : w.heap.size < w2.heap.size := by have := S2.size; omega
  go_wp2_with fail
  refine (KP.out _).mono ?_; rintro e w3 ⟨rfl, hb3⟩
  have S3 := S2.up hb3
  clear S1 BW1 hb2 hb3 K KP S2
  clear s2a s2b s2z
  have c40 := S3.c40
  have c41 := S3.c41
  have c50 := S3.c50
  have c51 := S3.c51
  have f4 := S3.f4
  have f5 := S3.f5
  have r2 := S3.size
  have r1 : w.heap.size + 1 < w3.heap.size := by omega
  have BB := S3.bel
  clear S3
  go_wp2_with fail
  refine bodyPost_ret (v := .tuple #[.agg #[.int .i64 0, .int .i64 0], .agg #[.int .i64 0, .int .i64 0], .bool false]) (by simp [results, Try.results46, go_sem, r1, r2, c40, c41, c50, c51]) rfl ⟨rfl, ?_⟩
  repeat (first | with_reducible assumption | with_reducible exact Below.refl _ _ | with_reducible apply Below.drew | ((with_reducible refine Below.setCell ?_ ?_ _); rotate_left; (first | exact Nat.le_refl _ | omega | (simp <;> omega))) | ((with_reducible refine Below.alloc ?_ ?_ _); rotate_left; (first | omega | (simp <;> omega))))
theorem specTangents_no3 (A : Option Addr) (c : Nat) (l : List (Int × Int)) (p1 p2 : Int) (w : World) (hn : l.length ≤ 1048576) (hcap : l.length ≤ c) (hc2 : c ≤ 9223372036854775807) (hg : Dif l) (hp : isPegB p1 p2 = true) (h3 : (band l).length < 3) (hR : Rd w w.heap.size A l) :
    Calls Try.prog 46 #[.slice A l.length c, .agg #[.int .i64 p1, .int .i64 p2]] w fun e w' => e = .returned (.tuple #[.agg #[.int .i64 0, .int .i64 0], .agg #[.int .i64 0, .int .i64 0], .bool false]) ∧ Below w.heap.size w w' := by
  have K := Lib.hid (fun W (hb : Below w.heap.size w W) => bdGood_any A c l W hn hcap hc2 (rd_more (rd_below hR hb (Nat.le_refl _)) hb.size))
  rw [difB_true hg] at K
  have KP := Lib.hid (fun W => pgIs_any p1 p2 W)
  rw [hp] at KP
  have K2 := Lib.hid (fun W (hb : Below w.heap.size w W) => bandS_any A c l.length l W rfl hg (rd_more (rd_below hR hb (Nat.le_refl _)) hb.size))
  have hpos := band_pos hg
  have hfew := band_few hg
  clear hg hp hR
  generalize band l = m at *
  go_enter Try.func46, Try.ntmps46
  go_wp2_with fail
  obtain ⟨W1, hW1⟩ : ∃ W1, W1 = (((w.alloc (.cells #[.int .i64 p1, .int .i64 p2] 38)).alloc (.cells #[.int .i64 0, .int .i64 0] 38)).alloc (.cells #[.int .i64 0, .int .i64 0] 38)) := ⟨_, rfl⟩
  rw [← hW1]
  have yW10_0 : W1.cell? ⟨w.heap.size, 0, none⟩ = some (.int .i64 p1) := by rw [hW1]; go_simp
  have yW10_1 : W1.cell? ⟨w.heap.size, 1, none⟩ = some (.int .i64 p2) := by rw [hW1]; go_simp
  have fW10 : ∀ o, W1.frozen? ⟨w.heap.size, o, none⟩ = false := by intro o; rw [hW1]; (repeat rw [frozen?_alloc_cells]); simp [World.frozen?]
  have zW10 : w.heap.size < W1.heap.size := by rw [hW1]; simp <;> omega
  have yW11_0 : W1.cell? ⟨w.heap.size + 1, 0, none⟩ = some (.int .i64 0) := by rw [hW1]; go_simp
  have yW11_1 : W1.cell? ⟨w.heap.size + 1, 1, none⟩ = some (.int .i64 0) := by rw [hW1]; go_simp
  have fW11 : ∀ o, W1.frozen? ⟨w.heap.size + 1, o, none⟩ = false := by intro o; rw [hW1]; (repeat rw [frozen?_alloc_cells]); simp [World.frozen?]
  have zW11 : w.heap.size + 1 < W1.heap.size := by rw [hW1]; simp <;> omega
  have yW12_0 : W1.cell? ⟨w.heap.size + 2, 0, none⟩ = some (.int .i64 0) := by rw [hW1]; go_simp
  have yW12_1 : W1.cell? ⟨w.heap.size + 2, 1, none⟩ = some (.int .i64 0) := by rw [hW1]; go_simp
  have fW12 : ∀ o, W1.frozen? ⟨w.heap.size + 2, o, none⟩ = false := by intro o; rw [hW1]; (repeat rw [frozen?_alloc_cells]); simp [World.frozen?]
  have zW12 : w.heap.size + 2 < W1.heap.size := by rw [hW1]; simp <;> omega
  have BW1 : Below w.heap.size w W1 := by rw [hW1]; exact (Below.alloc (Below.alloc (Below.alloc (Below.refl _ _) (by simp <;> omega) _) (by simp <;> omega) _) (by simp <;> omega) _)
  have eW1 : Hid (W1.heap.size = w.heap.size + 3) := Lib.hid (by rw [hW1]; simp)
  clear hW1
  have S1 : TgS w W1 p1 p2 := ⟨BW1, zW12, yW10_0, yW10_1, yW11_0, yW11_1, yW12_0, yW12_1, fW11, fW12⟩
  clear yW10_0 yW10_1 fW10 zW10 yW11_0 yW11_1 fW11 zW11 yW12_0 yW12_1 fW12 zW12 eW1
  refine (K.out W1 BW1).mono ?_; rintro e w2 ⟨rfl, hb2⟩
  have S2 := S1.up hb2
  have s2a := S2.c30
  have s2b := S2.c31
  have s2z : w.heap.size < w2.heap.size := by have := S2.size; omega
  go_wp2_with fail
  refine (KP.out _).mono ?_; rintro e w3 ⟨rfl, hb3⟩
  have S3 := S2.up hb3
  clear S1 BW1 hb2 hb3 K KP S2
  clear s2a s2b s2z
  go_wp2_with fail
  refine (K2.out w3 S3.bel).mono ?_; rintro e w4 ⟨⟨v, rfl, ho⟩, hb4⟩
  have S4 := S3.up hb4
  obtain ⟨g, cap, rfl, q1, q2, hRR⟩ := rd_own ho hpos
  have HR4 := Lib.hid hRR
  unfold maxLen at q2
  clear S3 ho hRR hb4 K2
  generalize hml : m.length = ml at *
  clear hml HR4
  have c40 := S4.c40
  have c41 := S4.c41
  have c50 := S4.c50
  have c51 := S4.c51
  have f4 := S4.f4
  have f5 := S4.f5
  have r2 := S4.size
  have r1 : w.heap.size + 1 < w4.heap.size := by omega
  have BB := S4.bel
  clear S4
  go_wp2_with fail
  refine bodyPost_ret (v := .tuple #[.agg #[.int .i64 0, .int .i64 0], .agg #[.int .i64 0, .int .i64 0], .bool false]) (by simp [results, Try.results46, go_sem, r1, r2, c40, c41, c50, c51]) rfl ⟨rfl, ?_⟩
  repeat (first | with_reducible assumption | with_reducible exact Below.refl _ _ | with_reducible apply Below.drew | ((with_reducible refine Below.setCell ?_ ?_ _); rotate_left; (first | exact Nat.le_refl _ | omega | (simp <;> omega))) | ((with_reducible refine Below.alloc ?_ ?_ _); rotate_left; (first | omega | (simp <;> omega))))
theorem specTangents_no4 (A : Option Addr) (c : Nat) (l : List (Int × Int)) (p1 p2 : Int) (w : World) (hn : l.length ≤ 1048576) (hcap : l.length ≤ c) (hc2 : c ≤ 9223372036854775807) (hg : Dif l) (hp : isPegB p1 p2 = true) (h3 : 3 ≤ (band l).length) (hin : inHB (band l) (p1, p2) = true) (hR : Rd w w.heap.size A l) :
    Calls Try.prog 46 #[.slice A l.length c, .agg #[.int .i64 p1, .int .i64 p2]] w fun e w' => e = .returned (.tuple #[.agg #[.int .i64 0, .int .i64 0], .agg #[.int .i64 0, .int .i64 0], .bool false]) ∧ Below w.heap.size w w' := by
  have K := Lib.hid (fun W (hb : Below w.heap.size w W) => bdGood_any A c l W hn hcap hc2 (rd_more (rd_below hR hb (Nat.le_refl _)) hb.size))
  rw [difB_true hg] at K
  have KP := Lib.hid (fun W => pgIs_any p1 p2 W)
  rw [hp] at KP
  have K2 := Lib.hid (fun W (hb : Below w.heap.size w W) => bandS_any A c l.length l W rfl hg (rd_more (rd_below hR hb (Nat.le_refl _)) hb.size))
  have hpos := band_pos hg
  have hfew := band_few hg
  have KB := Lib.hid (fun X cap W (h : Rd W W.heap.size X (band l)) => bdIn_any X cap (band l) (p1, p2) W hpos hfew (band_pegs hg) hp h)
  rw [hin] at KB
  clear hg hp hR hin
  generalize band l = m at *
  generalize hml : m.length = ml at *
  go_enter Try.func46, Try.ntmps46
  go_wp2_with fail
  obtain ⟨W1, hW1⟩ : ∃ W1, W1 = (((w.alloc (.cells #[.int .i64 p1, .int .i64 p2] 38)).alloc (.cells #[.int .i64 0, .int .i64 0] 38)).alloc (.cells #[.int .i64 0, .int .i64 0] 38)) := ⟨_, rfl⟩
  rw [← hW1]
  have yW10_0 : W1.cell? ⟨w.heap.size, 0, none⟩ = some (.int .i64 p1) := by rw [hW1]; go_simp
  have yW10_1 : W1.cell? ⟨w.heap.size, 1, none⟩ = some (.int .i64 p2) := by rw [hW1]; go_simp
  have fW10 : ∀ o, W1.frozen? ⟨w.heap.size, o, none⟩ = false := by intro o; rw [hW1]; (repeat rw [frozen?_alloc_cells]); simp [World.frozen?]
  have zW10 : w.heap.size < W1.heap.size := by rw [hW1]; simp <;> omega
  have yW11_0 : W1.cell? ⟨w.heap.size + 1, 0, none⟩ = some (.int .i64 0) := by rw [hW1]; go_simp
  have yW11_1 : W1.cell? ⟨w.heap.size + 1, 1, none⟩ = some (.int .i64 0) := by rw [hW1]; go_simp
  have fW11 : ∀ o, W1.frozen? ⟨w.heap.size + 1, o, none⟩ = false := by intro o; rw [hW1]; (repeat rw [frozen?_alloc_cells]); simp [World.frozen?]
  have zW11 : w.heap.size + 1 < W1.heap.size := by rw [hW1]; simp <;> omega
  have yW12_0 : W1.cell? ⟨w.heap.size + 2, 0, none⟩ = some (.int .i64 0) := by rw [hW1]; go_simp
  have yW12_1 : W1.cell? ⟨w.heap.size + 2, 1, none⟩ = some (.int .i64 0) := by rw [hW1]; go_simp
  have fW12 : ∀ o, W1.frozen? ⟨w.heap.size + 2, o, none⟩ = false := by intro o; rw [hW1]; (repeat rw [frozen?_alloc_cells]); simp [World.frozen?]
  have zW12 : w.heap.size + 2 < W1.heap.size := by rw [hW1]; simp <;> omega
  have BW1 : Below w.heap.size w W1 := by rw [hW1]; exact (Below.alloc (Below.alloc (Below.alloc (Below.refl _ _) (by simp <;> omega) _) (by simp <;> omega) _) (by simp <;> omega) _)
  have eW1 : Hid (W1.heap.size = w.heap.size + 3) := Lib.hid (by rw [hW1]; simp)
  clear hW1
  have S1 : TgS w W1 p1 p2 := ⟨BW1, zW12, yW10_0, yW10_1, yW11_0, yW11_1, yW12_0, yW12_1, fW11, fW12⟩
  clear yW10_0 yW10_1 fW10 zW10 yW11_0 yW11_1 fW11 zW11 yW12_0 yW12_1 fW12 zW12 eW1
  refine (K.out W1 BW1).mono ?_; rintro e w2 ⟨rfl, hb2⟩
  have S2 := S1.up hb2
  have s2a := S2.c30
  have s2b := S2.c31
  have s2z : w.heap.size < w2.heap.size := by have := S2.size; omega
  go_wp2_with fail
  refine (KP.out _).mono ?_; rintro e w3 ⟨rfl, hb3⟩
  have S3 := S2.up hb3
  clear S1 BW1 hb2 hb3 K KP S2
  clear s2a s2b s2z
  go_wp2_with fail
  refine (K2.out w3 S3.bel).mono ?_; rintro e w4 ⟨⟨v, rfl, ho⟩, hb4⟩
  have S4 := S3.up hb4
  obtain ⟨g, cap, rfl, q1, q2, hRR⟩ := rd_own (m := m) (by rw [hml]; exact ho) (by rw [hml]; exact hpos)
  have HR4 := Lib.hid hRR
  unfold maxLen at q2
  have s4a := S4.c30
  have s4b := S4.c31
  have s4z : w.heap.size < w4.heap.size := by have := S4.size; omega
  clear S3 ho hRR hb4 K2
  rw [hml] at q1
  try rw [hml]
  go_wp2_with fail
  refine (KB.out _ _ _ HR4.out).mono ?_; rintro e w5 ⟨rfl, hb5⟩
  have S5 := S4.up hb5
  clear s4a s4b s4z
  clear S4 hb5 KB HR4
  have c40 := S5.c40
  have c41 := S5.c41
  have c50 := S5.c50
  have c51 := S5.c51
  have f4 := S5.f4
  have f5 := S5.f5
  have r2 := S5.size
  have r1 : w.heap.size + 1 < w5.heap.size := by omega
  have BB := S5.bel
  clear S5
  go_wp2_with fail
  refine bodyPost_ret (v := .tuple #[.agg #[.int .i64 0, .int .i64 0], .agg #[.int .i64 0, .int .i64 0], .bool false]) (by simp [results, Try.results46, go_sem, r1, r2, c40, c41, c50, c51]) rfl ⟨rfl, ?_⟩
  repeat (first | with_reducible assumption | with_reducible exact Below.refl _ _ | with_reducible apply Below.drew | ((with_reducible refine Below.setCell ?_ ?_ _); rotate_left; (first | exact Nat.le_refl _ | omega | (simp <;> omega))) | ((with_reducible refine Below.alloc ?_ ?_ _); rotate_left; (first | omega | (simp <;> omega))))
theorem implTangents_no1 (A : Option Addr) (c : Nat) (l : List (Int × Int)) (p1 p2 : Int) (w : World) (hn : l.length ≤ 1048576) (hcap : l.length ≤ c) (hc2 : c ≤ 9223372036854775807) (hg : ¬ Dif l) (hR : Rd w w.heap.size A l) :
    Calls Try.prog 47 #[.slice A l.length c, .agg #[.int .i64 p1, .int .i64 p2]] w fun e w' => e = .returned (.tuple #[.agg #[.int .i64 0, .int .i64 0], .agg #[.int .i64 0, .int .i64 0], .bool false]) ∧ Below w.heap.size w w' := by
  have K0 := Lib.hid (fun W (hb : Below w.heap.size w W) => implBandOf_any A c l W hn hcap hc2 (rd_more (rd_below hR hb (Nat.le_refl _)) hb.size))
  rw [difB_false hg] at K0
  have K : Hid (∀ W, Below w.heap.size w W → Calls Try.prog 21 #[.slice A l.length c] W (RetL W [] false)) := Lib.hid K0.out
  clear K0
  clear hg hR
  go_enter Try.func47, Try.ntmps47
  go_wp2_with fail
  obtain ⟨W1, hW1⟩ : ∃ W1, W1 = (((w.alloc (.cells #[.int .i64 p1, .int .i64 p2] 38)).alloc (.cells #[.int .i64 0, .int .i64 0] 38)).alloc (.cells #[.int .i64 0, .int .i64 0] 38)) := ⟨_, rfl⟩
  rw [← hW1]
  have yW10_0 : W1.cell? ⟨w.heap.size, 0, none⟩ = some (.int .i64 p1) := by rw [hW1]; go_simp
  have yW10_1 : W1.cell? ⟨w.heap.size, 1, none⟩ = some (.int .i64 p2) := by rw [hW1]; go_simp
  have fW10 : ∀ o, W1.frozen? ⟨w.heap.size, o, none⟩ = false := by intro o; rw [hW1]; (repeat rw [frozen?_alloc_cells]); simp [World.frozen?]
  have zW10 : w.heap.size < W1.heap.size := by rw [hW1]; simp <;> omega
  have yW11_0 : W1.cell? ⟨w.heap.size + 1, 0, none⟩ = some (.int .i64 0) := by rw [hW1]; go_simp
  have yW11_1 : W1.cell? ⟨w.heap.size + 1, 1, none⟩ = some (.int .i64 0) := by rw [hW1]; go_simp
  have fW11 : ∀ o, W1.frozen? ⟨w.heap.size + 1, o, none⟩ = false := by intro o; rw [hW1]; (repeat rw [frozen?_alloc_cells]); simp [World.frozen?]
  have zW11 : w.heap.size + 1 < W1.heap.size := by rw [hW1]; simp <;> omega
  have yW12_0 : W1.cell? ⟨w.heap.size + 2, 0, none⟩ = some (.int .i64 0) := by rw [hW1]; go_simp
  have yW12_1 : W1.cell? ⟨w.heap.size + 2, 1, none⟩ = some (.int .i64 0) := by rw [hW1]; go_simp
  have fW12 : ∀ o, W1.frozen? ⟨w.heap.size + 2, o, none⟩ = false := by intro o; rw [hW1]; (repeat rw [frozen?_alloc_cells]); simp [World.frozen?]
  have zW12 : w.heap.size + 2 < W1.heap.size := by rw [hW1]; simp <;> omega
  have BW1 : Below w.heap.size w W1 := by rw [hW1]; exact (Below.alloc (Below.alloc (Below.alloc (Below.refl _ _) (by simp <;> omega) _) (by simp <;> omega) _) (by simp <;> omega) _)
  have eW1 : Hid (W1.heap.size = w.heap.size + 3) := Lib.hid (by rw [hW1]; simp)
  clear hW1
  have S1 : TgS w W1 p1 p2 := ⟨BW1, zW12, yW10_0, yW10_1, yW11_0, yW11_1, yW12_0, yW12_1, fW11, fW12⟩
  clear yW10_0 yW10_1 fW10 zW10 yW11_0 yW11_1 fW11 zW11 yW12_0 yW12_1 fW12 zW12 eW1
  refine (K.out W1 BW1).mono ?_; rintro e w2 ⟨X, cX, rfl, q1, q2, hb2, q3⟩
  have S2 := S1.up hb2
  have HR2 := Lib.hid (rd_more (rw_rd q3) (Nat.le_refl _))
  unfold maxLen at q2
  clear q3
  clear S1 BW1 hb2 K
  have c40 := S2.c40
  have c41 := S2.c41
  have c50 := S2.c50
  have c51 := S2.c51
  have f4 := S2.f4
  have f5 := S2.f5
  have r2 := S2.size
  have r1 : w.heap.size + 1 < w2.heap.size := by omega
  have BB := S2.bel
  clear S2
  go_wp2_with fail
  refine bodyPost_ret (v := .tuple #[.agg #[.int .i64 0, .int .i64 0], .agg #[.int .i64 0, .int .i64 0], .bool false]) (by simp [results, Try.results47, go_sem, r1, r2, c40, c41, c50, c51]) rfl ⟨rfl, ?_⟩
  repeat (first | with_reducible assumption | with_reducible exact Below.refl _ _ | with_reducible apply Below.drew | ((with_reducible refine Below.setCell ?_ ?_ _); rotate_left; (first | exact Nat.le_refl _ | omega | (simp <;> omega))) | ((with_reducible refine Below.alloc ?_ ?_ _); rotate_left; (first | omega | (simp <;> omega))))
theorem implTangents_no2 (A : Option Addr) (c : Nat) (l : List (Int × Int)) (p1 p2 : Int) (w : World) (hn : l.length ≤ 1048576) (hcap : l.length ≤ c) (hc2 : c ≤ 9223372036854775807) (hg : Dif l) (hp : isPegB p1 p2 = false) (hR : Rd w w.heap.size A l) :
    Calls Try.prog 47 #[.slice A l.length c, .agg #[.int .i64 p1, .int .i64 p2]] w fun e w' => e = .returned (.tuple #[.agg #[.int .i64 0, .int .i64 0], .agg #[.int .i64 0, .int .i64 0], .bool false]) ∧ Below w.heap.size w w' := by
  have K0 := Lib.hid (fun W (hb : Below w.heap.size w W) => implBandOf_any A c l W hn hcap hc2 (rd_more (rd_below hR hb (Nat.le_refl _)) hb.size))
  rw [difB_true hg] at K0
  have K : Hid (∀ W, Below w.heap.size w W → Calls Try.prog 21 #[.slice A l.length c] W (RetL W (band l) true)) := Lib.hid K0.out
  clear K0
  have KP := Lib.hid (fun W => implIsPeg_any p1 p2 W)
  rw [hp] at KP
  clear hg hp hR
  generalize band l = m at *
  go_enter Try.func47, Try.ntmps47
  go_wp2_with fail
  obtain ⟨W1, hW1⟩ : ∃ W1, W1 = (((w.alloc (.cells #[.int .i64 p1, .int .i64 p2] 38)).alloc (.cells #[.int .i64 0, .int .i64 0] 38)).alloc (.cells #[.int .i64 0, .int .i64 0] 38)) := ⟨_, rfl⟩
  rw [← hW1]
  have yW10_0 : W1.cell? ⟨w.heap.size, 0, none⟩ = some (.int .i64 p1) := by rw [hW1]; go_simp
  have yW10_1 : W1.cell? ⟨w.heap.size, 1, none⟩ = some (.int .i64 p2) := by rw [hW1]; go_simp
  have fW10 : ∀ o, W1.frozen? ⟨w.heap.size, o, none⟩ = false := by intro o; rw [hW1]; (repeat rw [frozen?_alloc_cells]); simp [World.frozen?]
  have zW10 : w.heap.size < W1.heap.size := by rw [hW1]; simp <;> omega
  have yW11_0 : W1.cell? ⟨w.heap.size + 1, 0, none⟩ = some (.int .i64 0) := by rw [hW1]; go_simp
  have yW11_1 : W1.cell? ⟨w.heap.size + 1, 1, none⟩ = some (.int .i64 0) := by rw [hW1]; go_simp
  have fW11 : ∀ o, W1.frozen? ⟨w.heap.size + 1, o, none⟩ = false := by intro o; rw [hW1]; (repeat rw [frozen?_alloc_cells]); simp [World.frozen?]
  have zW11 : w.heap.size + 1 < W1.heap.size := by rw [hW1]; simp <;> omega
  have yW12_0 : W1.cell? ⟨w.heap.size + 2, 0, none⟩ = some (.int .i64 0) := by rw [hW1]; go_simp
  have yW12_1 : W1.cell? ⟨w.heap.size + 2, 1, none⟩ = some (.int .i64 0) := by rw [hW1]; go_simp
  have fW12 : ∀ o, W1.frozen? ⟨w.heap.size + 2, o, none⟩ = false := by intro o; rw [hW1]; (repeat rw [frozen?_alloc_cells]); simp [World.frozen?]
  have zW12 : w.heap.size + 2 < W1.heap.size := by rw [hW1]; simp <;> omega
  have BW1 : Below w.heap.size w W1 := by rw [hW1]; exact (Below.alloc (Below.alloc (Below.alloc (Below.refl _ _) (by simp <;> omega) _) (by simp <;> omega) _) (by simp <;> omega) _)
  have eW1 : Hid (W1.heap.size = w.heap.size + 3) := Lib.hid (by rw [hW1]; simp)
  clear hW1
  have S1 : TgS w W1 p1 p2 := ⟨BW1, zW12, yW10_0, yW10_1, yW11_0, yW11_1, yW12_0, yW12_1, fW11, fW12⟩
  clear yW10_0 yW10_1 fW10 zW10 yW11_0 yW11_1 fW11 zW11 yW12_0 yW12_1 fW12 zW12 eW1
  refine (K.out W1 BW1).mono ?_; rintro e w2 ⟨X, cX, rfl, q1, q2, hb2, q3⟩
  have S2 := S1.up hb2
  have HR2 := Lib.hid (rd_more (rw_rd q3) (Nat.le_refl _))
  unfold maxLen at q2
  clear q3
  have s2a := S2.c30
  have s2b := S2.c31
  have s2z : w.heap.size < w2.heap.size := by have := S2.size; omega
  go_wp2_with fail
  refine (KP.out _).mono ?_; rintro e w3 ⟨rfl, hb3⟩
  have S3 := S2.up hb3
  clear S1 BW1 hb2 hb3 K KP S2
  clear s2a s2b s2z
  have c40 := S3.c40
  have c41 := S3.c41
  have c50 := S3.c50
  have c51 := S3.c51
  have f4 := S3.f4
  have f5 := S3.f5
  have r2 := S3.size
  have r1 : w.heap.size + 1 < w3.heap.size := by omega
  have BB := S3.bel
  clear S3
  go_wp2_with fail
  refine bodyPost_ret (v := .tuple #[.agg #[.int .i64 0, .int .i64 0], .agg #[.int .i64 0, .int .i64 0], .bool false]) (by simp [results, Try.results47, go_sem, r1, r2, c40, c41, c50, c51]) rfl ⟨rfl, ?_⟩
  repeat (first | with_reducible assumption | with_reducible exact Below.refl _ _ | with_reducible apply Below.drew | ((with_reducible refine Below.setCell ?_ ?_ _); rotate_left; (first | exact Nat.le_refl _ | omega | (simp <;> omega))) | ((with_reducible refine Below.alloc ?_ ?_ _); rotate_left; (first | omega | (simp <;> omega))))
theorem implTangents_no3 (A : Option Addr) (c : Nat) (l : List (Int × Int)) (p1 p2 : Int) (w : World) (hn : l.length ≤ 1048576) (hcap : l.length ≤ c) (hc2 : c ≤ 9223372036854775807) (hg : Dif l) (hp : isPegB p1 p2 = true) (h3 : (band l).length < 3) (hR : Rd w w.heap.size A l) :
    Calls Try.prog 47 #[.slice A l.length c, .agg #[.int .i64 p1, .int .i64 p2]] w fun e w' => e = .returned (.tuple #[.agg #[.int .i64 0, .int .i64 0], .agg #[.int .i64 0, .int .i64 0], .bool false]) ∧ Below w.heap.size w w' := by
  have K0 := Lib.hid (fun W (hb : Below w.heap.size w W) => implBandOf_any A c l W hn hcap hc2 (rd_more (rd_below hR hb (Nat.le_refl _)) hb.size))
  rw [difB_true hg] at K0
  have K : Hid (∀ W, Below w.heap.size w W → Calls Try.prog 21 #[.slice A l.length c] W (RetL W (band l) true)) := Lib.hid K0.out
  clear K0
  have KP := Lib.hid (fun W => implIsPeg_any p1 p2 W)
  rw [hp] at KP
  clear hg hp hR
  generalize band l = m at *
  go_enter Try.func47, Try.ntmps47
  go_wp2_with fail
  obtain ⟨W1, hW1⟩ : ∃ W1, W1 = (((w.alloc (.cells #[.int .i64 p1, .int .i64 p2] 38)).alloc (.cells #[.int .i64 0, .int .i64 0] 38)).alloc (.cells #[.int .i64 0, .int .i64 0] 38)) := ⟨_, rfl⟩
  rw [← hW1]
  have yW10_0 : W1.cell? ⟨w.heap.size, 0, none⟩ = some (.int .i64 p1) := by rw [hW1]; go_simp
  have yW10_1 : W1.cell? ⟨w.heap.size, 1, none⟩ = some (.int .i64 p2) := by rw [hW1]; go_simp
  have fW10 : ∀ o, W1.frozen? ⟨w.heap.size, o, none⟩ = false := by intro o; rw [hW1]; (repeat rw [frozen?_alloc_cells]); simp [World.frozen?]
  have zW10 : w.heap.size < W1.heap.size := by rw [hW1]; simp <;> omega
  have yW11_0 : W1.cell? ⟨w.heap.size + 1, 0, none⟩ = some (.int .i64 0) := by rw [hW1]; go_simp
  have yW11_1 : W1.cell? ⟨w.heap.size + 1, 1, none⟩ = some (.int .i64 0) := by rw [hW1]; go_simp
  have fW11 : ∀ o, W1.frozen? ⟨w.heap.size + 1, o, none⟩ = false := by intro o; rw [hW1]; (repeat rw [frozen?_alloc_cells]); simp [World.frozen?]
  have zW11 : w.heap.size + 1 < W1.heap.size := by rw [hW1]; simp <;> omega
  have yW12_0 : W1.cell? ⟨w.heap.size + 2, 0, none⟩ = some (.int .i64 0) := by rw [hW1]; go_simp
  have yW12_1 : W1.cell? ⟨w.heap.size + 2, 1, none⟩ = some (.int .i64 0) := by rw [hW1]; go_simp
  have fW12 : ∀ o, W1.frozen? ⟨w.heap.size + 2, o, none⟩ = false := by intro o; rw [hW1]; (repeat rw [frozen?_alloc_cells]); simp [World.frozen?]
  have zW12 : w.heap.size + 2 < W1.heap.size := by rw [hW1]; simp <;> omega
  have BW1 : Below w.heap.size w W1 := by rw [hW1]; exact (Below.alloc (Below.alloc (Below.alloc (Below.refl _ _) (by simp <;> omega) _) (by simp <;> omega) _) (by simp <;> omega) _)
  have eW1 : Hid (W1.heap.size = w.heap.size + 3) := Lib.hid (by rw [hW1]; simp)
  clear hW1
  have S1 : TgS w W1 p1 p2 := ⟨BW1, zW12, yW10_0, yW10_1, yW11_0, yW11_1, yW12_0, yW12_1, fW11, fW12⟩
  clear yW10_0 yW10_1 fW10 zW10 yW11_0 yW11_1 fW11 zW11 yW12_0 yW12_1 fW12 zW12 eW1
  refine (K.out W1 BW1).mono ?_; rintro e w2 ⟨X, cX, rfl, q1, q2, hb2, q3⟩
  have S2 := S1.up hb2
  have HR2 := Lib.hid (rd_more (rw_rd q3) (Nat.le_refl _))
  unfold maxLen at q2
  clear q3
  have s2a := S2.c30
  have s2b := S2.c31
  have s2z : w.heap.size < w2.heap.size := by have := S2.size; omega
  go_wp2_with fail
  refine (KP.out _).mono ?_; rintro e w3 ⟨rfl, hb3⟩
  have S3 := S2.up hb3
  clear S1 BW1 hb2 hb3 K KP S2 HR2
  clear s2a s2b s2z
  generalize m.length = ml at *
  have c40 := S3.c40
  have c41 := S3.c41
  have c50 := S3.c50
  have c51 := S3.c51
  have f4 := S3.f4
  have f5 := S3.f5
  have r2 := S3.size
  have r1 : w.heap.size + 1 < w3.heap.size := by omega
  have BB := S3.bel
  clear S3
  go_wp2_with fail
  refine bodyPost_ret (v := .tuple #[.agg #[.int .i64 0, .int .i64 0], .agg #[.int .i64 0, .int .i64 0], .bool false]) (by simp [results, Try.results47, go_sem, r1, r2, c40, c41, c50, c51]) rfl ⟨rfl, ?_⟩
  repeat (first | with_reducible assumption | with_reducible exact Below.refl _ _ | with_reducible apply Below.drew | ((with_reducible refine Below.setCell ?_ ?_ _); rotate_left; (first | exact Nat.le_refl _ | omega | (simp <;> omega))) | ((with_reducible refine Below.alloc ?_ ?_ _); rotate_left; (first | omega | (simp <;> omega))))
theorem implTangents_no4 (A : Option Addr) (c : Nat) (l : List (Int × Int)) (p1 p2 : Int) (w : World) (hn : l.length ≤ 1048576) (hcap : l.length ≤ c) (hc2 : c ≤ 9223372036854775807) (hg : Dif l) (hp : isPegB p1 p2 = true) (h3 : 3 ≤ (band l).length) (hin : inHB (band l) (p1, p2) = true) (hR : Rd w w.heap.size A l) :
    Calls Try.prog 47 #[.slice A l.length c, .agg #[.int .i64 p1, .int .i64 p2]] w fun e w' => e = .returned (.tuple #[.agg #[.int .i64 0, .int .i64 0], .agg #[.int .i64 0, .int .i64 0], .bool false]) ∧ Below w.heap.size w w' := by
  have K0 := Lib.hid (fun W (hb : Below w.heap.size w W) => implBandOf_any A c l W hn hcap hc2 (rd_more (rd_below hR hb (Nat.le_refl _)) hb.size))
  rw [difB_true hg] at K0
  have K : Hid (∀ W, Below w.heap.size w W → Calls Try.prog 21 #[.slice A l.length c] W (RetL W (band l) true)) := Lib.hid K0.out
  clear K0
  have KP := Lib.hid (fun W => implIsPeg_any p1 p2 W)
  rw [hp] at KP
  have hpos := band_pos hg
  have hfew := band_few hg
  have KB := Lib.hid (fun X cap W (h : Rd W W.heap.size X (band l)) => placeIn_any X cap (band l) (p1, p2) W hpos hfew (band_pegs hg) hp h)
  have hpl := place_in hg (p1, p2)
  rw [hin] at hpl
  clear hg hp hR hin
  generalize placeI (band l) (p1, p2) = pl at *
  generalize band l = m at *
  have hpl2 : 0 ≤ pl := of_decide_eq_true hpl.symm
  clear hpl
  go_enter Try.func47, Try.ntmps47
  go_wp2_with fail
  obtain ⟨W1, hW1⟩ : ∃ W1, W1 = (((w.alloc (.cells #[.int .i64 p1, .int .i64 p2] 38)).alloc (.cells #[.int .i64 0, .int .i64 0] 38)).alloc (.cells #[.int .i64 0, .int .i64 0] 38)) := ⟨_, rfl⟩
  rw [← hW1]
  have yW10_0 : W1.cell? ⟨w.heap.size, 0, none⟩ = some (.int .i64 p1) := by rw [hW1]; go_simp
  have yW10_1 : W1.cell? ⟨w.heap.size, 1, none⟩ = some (.int .i64 p2) := by rw [hW1]; go_simp
  have fW10 : ∀ o, W1.frozen? ⟨w.heap.size, o, none⟩ = false := by intro o; rw [hW1]; (repeat rw [frozen?_alloc_cells]); simp [World.frozen?]
  have zW10 : w.heap.size < W1.heap.size := by rw [hW1]; simp <;> omega
  have yW11_0 : W1.cell? ⟨w.heap.size + 1, 0, none⟩ = some (.int .i64 0) := by rw [hW1]; go_simp
  have yW11_1 : W1.cell? ⟨w.heap.size + 1, 1, none⟩ = some (.int .i64 0) := by rw [hW1]; go_simp
  have fW11 : ∀ o, W1.frozen? ⟨w.heap.size + 1, o, none⟩ = false := by intro o; rw [hW1]; (repeat rw [frozen?_alloc_cells]); simp [World.frozen?]
  have zW11 : w.heap.size + 1 < W1.heap.size := by rw [hW1]; simp <;> omega
  have yW12_0 : W1.cell? ⟨w.heap.size + 2, 0, none⟩ = some (.int .i64 0) := by rw [hW1]; go_simp
  have yW12_1 : W1.cell? ⟨w.heap.size + 2, 1, none⟩ = some (.int .i64 0) := by rw [hW1]; go_simp
  have fW12 : ∀ o, W1.frozen? ⟨w.heap.size + 2, o, none⟩ = false := by intro o; rw [hW1]; (repeat rw [frozen?_alloc_cells]); simp [World.frozen?]
  have zW12 : w.heap.size + 2 < W1.heap.size := by rw [hW1]; simp <;> omega
  have BW1 : Below w.heap.size w W1 := by rw [hW1]; exact (Below.alloc (Below.alloc (Below.alloc (Below.refl _ _) (by simp <;> omega) _) (by simp <;> omega) _) (by simp <;> omega) _)
  have eW1 : Hid (W1.heap.size = w.heap.size + 3) := Lib.hid (by rw [hW1]; simp)
  clear hW1
  have S1 : TgS w W1 p1 p2 := ⟨BW1, zW12, yW10_0, yW10_1, yW11_0, yW11_1, yW12_0, yW12_1, fW11, fW12⟩
  clear yW10_0 yW10_1 fW10 zW10 yW11_0 yW11_1 fW11 zW11 yW12_0 yW12_1 fW12 zW12 eW1
  refine (K.out W1 BW1).mono ?_; rintro e w2 ⟨X, cX, rfl, q1, q2, hb2, q3⟩
  have S2 := S1.up hb2
  have HR2 := Lib.hid (rd_more (rw_rd q3) (Nat.le_refl _))
  unfold maxLen at q2
  clear q3
  have s2a := S2.c30
  have s2b := S2.c31
  have s2z : w.heap.size < w2.heap.size := by have := S2.size; omega
  go_wp2_with fail
  refine (KP.out _).mono ?_; rintro e w3 ⟨rfl, hb3⟩
  have S3 := S2.up hb3
  clear S1 BW1 hb2 K KP S2
  clear s2a s2b s2z
  have HR3 := Lib.hid (rd_more (rd_below HR2.out hb3 (Nat.le_refl _)) hb3.size)
  have s3a := S3.c30
  have s3b := S3.c31
  have s3z : w.heap.size < w3.heap.size := by have := S3.size; omega
  clear HR2 hb3
  generalize hml : m.length = ml at *
  go_wp2_with fail
  refine (KB.out _ _ _ HR3.out).mono ?_; rintro e w4 ⟨rfl, hb4⟩
  have S4 := S3.up hb4
  clear s3a s3b s3z
  clear S3 hb4 KB HR3
  have c40 := S4.c40
  have c41 := S4.c41
  have c50 := S4.c50
  have c51 := S4.c51
  have f4 := S4.f4
  have f5 := S4.f5
  have r2 := S4.size
  have r1 : w.heap.size + 1 < w4.heap.size := by omega
  have BB := S4.bel
  clear S4
  go_wp2_with fail
  refine bodyPost_ret (v := .tuple #[.agg #[.int .i64 0, .int .i64 0], .agg #[.int .i64 0, .int .i64 0], .bool false]) (by simp [results, Try.results47, go_sem, r1, r2, c40, c41, c50, c51]) rfl ⟨rfl, ?_⟩
  repeat (first | with_reducible assumption | with_reducible exact Below.refl _ _ | with_reducible apply Below.drew | ((with_reducible refine Below.setCell ?_ ?_ _); rotate_left; (first | exact Nat.le_refl _ | omega | (simp <;> omega))) | ((with_reducible refine Below.alloc ?_ ?_ _); rotate_left; (first | omega | (simp <;> omega))))
set_option maxHeartbeats 8000000 in
theorem specTangents_yes (A : Option Addr) (c : Nat) (l : List (Int × Int)) (p1 p2 : Int) (w : World) (hn : l.length ≤ 1048576) (hcap : l.length ≤ c) (hc2 : c ≤ 9223372036854775807) (hg : Dif l) (hp : isPegB p1 p2 = true) (h3 : 3 ≤ (band l).length) (hin : inHB (band l) (p1, p2) = false) (hR : Rd w w.heap.size A l) :
    Calls Try.prog 46 #[.slice A l.length c, .agg #[.int .i64 p1, .int .i64 p2]] w fun e w' => e = .returned (.tuple #[.agg #[.int .i64 (tanF (band l) (p1, p2) 1 ((band l).length - 1)).1, .int .i64 (tanF (band l) (p1, p2) 1 ((band l).length - 1)).2], .agg #[.int .i64 (tanF (band l) (p1, p2) (-1) ((band l).length - 1)).1, .int .i64 (tanF (band l) (p1, p2) (-1) ((band l).length - 1)).2], .bool true]) ∧ Below w.heap.size w w' := by
  have K := Lib.hid (fun W (hb : Below w.heap.size w W) => bdGood_any A c l W hn hcap hc2 (rd_more (rd_below hR hb (Nat.le_refl _)) hb.size))
  rw [difB_true hg] at K
  have KP := Lib.hid (fun W => pgIs_any p1 p2 W)
  rw [hp] at KP
  have K2 := Lib.hid (fun W (hb : Below w.heap.size w W) => bandS_any A c l.length l W rfl hg (rd_more (rd_below hR hb (Nat.le_refl _)) hb.size))
  have hpos := band_pos hg
  have hfew := band_few hg
  have KB := Lib.hid (fun X cap W (h : Rd W W.heap.size X (band l)) => bdIn_any X cap (band l) (p1, p2) W hpos hfew (band_pegs hg) hp h)
  rw [hin] at KB
  have hsep := sep_band hg h3 hin
  have hmem : ∀ x ∈ band l, isPg x = true := fun x hx => by
    obtain ⟨i, hi, e⟩ := List.mem_iff_getElem.1 hx
    have h1 := band_pegs hg i hi
    rw [vx_pt hi] at h1
    have h2 := pt_get hi
    rw [List.getElem?_eq_getElem hi] at h2
    injection h2 with h2
    rw [← e, h2]
    exact h1
  have KT := Lib.hid (fun X cap ml sd W (hml : (band l).length = ml) (hcc : ml ≤ cap) (hcm : cap ≤ 9223372036854775807) (hs : sd = 1 ∨ sd = -1) (h : Rd W W.heap.size X (band l)) => bdTangent_any X cap ml (band l) p1 p2 sd W hml (by omega) (by omega) hcc hcm hmem hp hs h)
  have H3 := Lib.hid h3
  clear hg hp hR hin hsep hmem
  generalize tanF (band l) (p1, p2) = TF at *
  generalize band l = m at *
  generalize hml : m.length = ml at *
  go_enter Try.func46, Try.ntmps46
  go_wp2_with fail
  obtain ⟨W1, hW1⟩ : ∃ W1, W1 = (((w.alloc (.cells #[.int .i64 p1, .int .i64 p2] 38)).alloc (.cells #[.int .i64 0, .int .i64 0] 38)).alloc (.cells #[.int .i64 0, .int .i64 0] 38)) := ⟨_, rfl⟩
  rw [← hW1]
  have yW10_0 : W1.cell? ⟨w.heap.size, 0, none⟩ = some (.int .i64 p1) := by rw [hW1]; go_simp
  have yW10_1 : W1.cell? ⟨w.heap.size, 1, none⟩ = some (.int .i64 p2) := by rw [hW1]; go_simp
  have fW10 : ∀ o, W1.frozen? ⟨w.heap.size, o, none⟩ = false := by intro o; rw [hW1]; (repeat rw [frozen?_alloc_cells]); simp [World.frozen?]
  have zW10 : w.heap.size < W1.heap.size := by rw [hW1]; simp <;> omega
  have yW11_0 : W1.cell? ⟨w.heap.size + 1, 0, none⟩ = some (.int .i64 0) := by rw [hW1]; go_simp
  have yW11_1 : W1.cell? ⟨w.heap.size + 1, 1, none⟩ = some (.int .i64 0) := by rw [hW1]; go_simp
  have fW11 : ∀ o, W1.frozen? ⟨w.heap.size + 1, o, none⟩ = false := by intro o; rw [hW1]; (repeat rw [frozen?_alloc_cells]); simp [World.frozen?]
  have zW11 : w.heap.size + 1 < W1.heap.size := by rw [hW1]; simp <;> omega
  have yW12_0 : W1.cell? ⟨w.heap.size + 2, 0, none⟩ = some (.int .i64 0) := by rw [hW1]; go_simp
  have yW12_1 : W1.cell? ⟨w.heap.size + 2, 1, none⟩ = some (.int .i64 0) := by rw [hW1]; go_simp
  have fW12 : ∀ o, W1.frozen? ⟨w.heap.size + 2, o, none⟩ = false := by intro o; rw [hW1]; (repeat rw [frozen?_alloc_cells]); simp [World.frozen?]
  have zW12 : w.heap.size + 2 < W1.heap.size := by rw [hW1]; simp <;> omega
  have BW1 : Below w.heap.size w W1 := by rw [hW1]; exact (Below.alloc (Below.alloc (Below.alloc (Below.refl _ _) (by simp <;> omega) _) (by simp <;> omega) _) (by simp <;> omega) _)
  have eW1 : Hid (W1.heap.size = w.heap.size + 3) := Lib.hid (by rw [hW1]; simp)
  clear hW1
  have S1 : TgS w W1 p1 p2 := ⟨BW1, zW12, yW10_0, yW10_1, yW11_0, yW11_1, yW12_0, yW12_1, fW11, fW12⟩
  clear yW10_0 yW10_1 fW10 zW10 yW11_0 yW11_1 fW11 zW11 yW12_0 yW12_1 fW12 zW12 eW1
  refine (K.out W1 BW1).mono ?_; rintro e w2 ⟨rfl, hb2⟩
  have S2 := S1.up hb2
  have s2a := S2.c30
  have s2b := S2.c31
  have s2z : w.heap.size < w2.heap.size := by have := S2.size; omega
  go_wp2_with fail
  refine (KP.out _).mono ?_; rintro e w3 ⟨rfl, hb3⟩
  have S3 := S2.up hb3
  clear S1 BW1 hb2 hb3 K KP S2
  clear s2a s2b s2z
  go_wp2_with fail
  refine (K2.out w3 S3.bel).mono ?_; rintro e w4 ⟨⟨v, rfl, ho⟩, hb4⟩
  have S4 := S3.up hb4
  obtain ⟨g, cap, rfl, q1, q2, hRR⟩ := rd_own (m := m) (by rw [hml]; exact ho) (by rw [hml]; exact hpos)
  have HR4 := Lib.hid hRR
  unfold maxLen at q2
  have s4a := S4.c30
  have s4b := S4.c31
  have s4z : w.heap.size < w4.heap.size := by have := S4.size; omega
  clear S3 ho hRR hb4 K2
  rw [hml] at q1
  try rw [hml]
  go_wp2_with fail
  refine (KB.out _ _ _ HR4.out).mono ?_; rintro e w5 ⟨rfl, hb5⟩
  have S5 := S4.up hb5
  have HR5 := Lib.hid (rd_more (rd_below HR4.out hb5 (Nat.le_refl _)) hb5.size)
  clear s4a s4b s4z
  have nml : ¬ ((ml : Int) < 3) := by omega
  have KT1 := Lib.hid (fun W (h : Rd W W.heap.size (some ⟨g, 0, none⟩) m) => KT.out (some ⟨g, 0, none⟩) cap ml 1 W rfl q1 (by omega) (Or.inl rfl) h)
  have KT2 := Lib.hid (fun W (h : Rd W W.heap.size (some ⟨g, 0, none⟩) m) => (show Calls Try.prog 72 #[.slice (some ⟨g, 0, none⟩) ml cap, .agg #[.int .i64 p1, .int .i64 p2], .int .i64 1] W fun e w' => e = .returned (.agg #[.int .i64 (TF (-1) (ml - 1)).1, .int .i64 (TF (-1) (ml - 1)).2]) ∧ Below W.heap.size W w' from KT.out (some ⟨g, 0, none⟩) cap ml (-1) W rfl q1 (by omega) (Or.inr rfl) h))
  obtain ⟨⟨t1, t2⟩, ht⟩ : ∃ t : Int × Int, TF 1 (ml - 1) = t := ⟨_, rfl⟩
  obtain ⟨⟨t3, t4⟩, ht'⟩ : ∃ t : Int × Int, TF (-1) (ml - 1) = t := ⟨_, rfl⟩
  rw [ht] at KT1
  rw [ht'] at KT2
  have HT1 := Lib.hid ht
  have HT2 := Lib.hid ht'
  clear S4 hb5 KB HR4 KT ht ht'
  have s5a := S5.c30
  have s5b := S5.c31
  have s5z : w.heap.size < w5.heap.size := by have := S5.size; omega
  have HS5 := Lib.hid S5
  clear S5
  go_upto_region 6 with fail
  go_cut [6] from 30 to 35 (fun p wx => p = .bool true ∧ Below w.heap.size w wx ∧ w.heap.size + 2 < wx.heap.size ∧ wx.cell? ⟨w.heap.size + 1, 0, none⟩ = some (.int .i64 t1) ∧ wx.cell? ⟨w.heap.size + 1, 1, none⟩ = some (.int .i64 t2) ∧ wx.cell? ⟨w.heap.size + 2, 0, none⟩ = some (.int .i64 t3) ∧ wx.cell? ⟨w.heap.size + 2, 1, none⟩ = some (.int .i64 t4))
  case first =>
    go_region_with
      (first
       | (go_at_call 72; with_reducible refine (KT1.out _ (rd_more (rd_below HR5.out (Below.refl _ _).drew (Nat.le_refl _)) (Nat.le_refl _))).mono ?_; rintro e w6 ⟨rfl, hb6⟩;
          have hb6' : Below w5.heap.size w5 w6 := (Below.refl w5.heap.size w5).drew.trans (hb6.mono (Nat.le_refl _));
          have S6 := HS5.out.up hb6';
          have HR6 := Lib.hid (rd_more (rd_below HR5.out hb6' (Nat.le_refl _)) hb6'.size);
          have s6a := S6.c30;
          have s6b := S6.c31;
          have s6z : w.heap.size < w6.heap.size := Nat.lt_of_lt_of_le s5z hb6'.size;
          have HS6 := Lib.hid S6;
          have x40 := S6.c40;
          have x41 := S6.c41;
          have xf4 := S6.f4;
          have xz1 : w.heap.size + 1 < w6.heap.size := Nat.lt_of_succ_lt S6.size;
          clear S6 hb6 hb6')
       | (go_at_call 72; go_must (with_reducible refine (KT2.out _ HR6.out).mono ?_); rintro e w7 ⟨rfl, hb7⟩;
          have S7 := HS6.out.up hb7;
          have y40 := S7.c40;
          have y41 := S7.c41;
          have y50 := S7.c50;
          have y51 := S7.c51;
          have yf4 := S7.f4;
          have yf5 := S7.f5;
          have yz2 := S7.size;
          have yz1 : w.heap.size + 1 < w7.heap.size := Nat.lt_of_succ_lt yz2;
          have yB := S7.bel;
          clear S7 hb7))
    all_goals
      go_wp2_with fail
      go_meet
      case rel => exact ⟨rfl, by repeat (first | with_reducible assumption | with_reducible exact Below.refl _ _ | with_reducible apply Below.drew | ((with_reducible refine Below.setCell ?_ ?_ _); rotate_left; (first | exact Nat.le_refl _ | omega | (simp <;> omega))) | ((with_reducible refine Below.alloc ?_ ?_ _); rotate_left; (first | omega | (simp <;> omega)))), by simp [World.setCell]; omega, by go_simp, by go_simp, by go_simp, by go_simp⟩
  case rest =>
    obtain ⟨rfl, BB, r2, c40, c41, c50, c51⟩ := hcut
    have r1 : w.heap.size + 1 < wc.heap.size := by omega
    go_wp2_with fail
    refine bodyPost_ret (v := .tuple #[.agg #[.int .i64 t1, .int .i64 t2], .agg #[.int .i64 t3, .int .i64 t4], .bool true]) (by simp [results, Try.results46, go_sem, r1, r2, c40, c41, c50, c51]) rfl ⟨by rw [HT1.out, HT2.out], BB⟩
theorem seenFromE_any (f1 f2 sd : Int) (w : World) :
    Calls Try.prog 74 #[.agg #[.int .i64 f1, .int .i64 f2], .int .i64 sd] w fun e w' => ∃ gs gf : Nat, e = .returned (.func (.func 92) #[] #[.pointer (some ⟨gs, 0, none⟩), .pointer (some ⟨gf, 0, none⟩)]) ∧ Below w.heap.size w w' ∧ gs < w'.heap.size ∧ gf < w'.heap.size ∧ w'.cell? ⟨gs, 0, none⟩ = some (.int .i64 sd) ∧ w'.cell? ⟨gf, 0, none⟩ = some (.int .i64 f1) ∧ w'.cell? ⟨gf, 1, none⟩ = some (.int .i64 f2) := by
  refine (seenFrom_any f1 f2 sd w).mono ?_
  rintro e w' ⟨rfl, h1, h2, h3, h4, h5⟩
  exact ⟨_, _, rfl, h1, h2, by omega, h3, h4, h5⟩
set_option maxHeartbeats 8000000 in
theorem implTangents_yes (A : Option Addr) (c : Nat) (l : List (Int × Int)) (p1 p2 : Int) (w : World) (hn : l.length ≤ 1048576) (hcap : l.length ≤ c) (hc2 : c ≤ 9223372036854775807) (hg : Dif l) (hp : isPegB p1 p2 = true) (h3 : 3 ≤ (band l).length) (hin : inHB (band l) (p1, p2) = false) (hR : Rd w w.heap.size A l) :
    Calls Try.prog 47 #[.slice A l.length c, .agg #[.int .i64 p1, .int .i64 p2]] w fun e w' => e = .returned (.tuple #[.agg #[.int .i64 (tanF (band l) (p1, p2) 1 ((band l).length - 1)).1, .int .i64 (tanF (band l) (p1, p2) 1 ((band l).length - 1)).2], .agg #[.int .i64 (tanF (band l) (p1, p2) (-1) ((band l).length - 1)).1, .int .i64 (tanF (band l) (p1, p2) (-1) ((band l).length - 1)).2], .bool true]) ∧ Below w.heap.size w w' := by
  have K0 := Lib.hid (fun W (hb : Below w.heap.size w W) => implBandOf_any A c l W hn hcap hc2 (rd_more (rd_below hR hb (Nat.le_refl _)) hb.size))
  rw [difB_true hg] at K0
  have K : Hid (∀ W, Below w.heap.size w W → Calls Try.prog 21 #[.slice A l.length c] W (RetL W (band l) true)) := Lib.hid K0.out
  clear K0
  have KP := Lib.hid (fun W => implIsPeg_any p1 p2 W)
  rw [hp] at KP
  have hpos := band_pos hg
  have hfew := band_few hg
  have KB := Lib.hid (fun X cap W (h : Rd W W.heap.size X (band l)) => placeIn_any X cap (band l) (p1, p2) W hpos hfew (band_pegs hg) hp h)
  have hpl := place_in hg (p1, p2)
  rw [hin] at hpl
  have hsep := sep_band hg h3 hin
  have hmem : ∀ x ∈ band l, isPg x = true := fun x hx => by
    obtain ⟨i, hi, e⟩ := List.mem_iff_getElem.1 hx
    have h1 := band_pegs hg i hi
    rw [vx_pt hi] at h1
    have h2 := pt_get hi
    rw [List.getElem?_eq_getElem hi] at h2
    injection h2 with h2
    rw [← e, h2]
    exact h1
  have KO := Lib.hid (fun sd (hs : sd = 1 ∨ sd = -1) X cX gs gf W c1 c2 c3 z1 z2 (h : Rd W W.heap.size X (band l)) => firstOf_any X cX (band l).length (band l) gs gf p1 p2 sd (tanF (band l) (p1, p2) sd ((band l).length - 1)).1 (tanF (band l) (p1, p2) sd ((band l).length - 1)).2 W rfl hpos hfew hmem hp hs c1 c2 c3 z1 z2 (tan_some hs hsep hpos) (fun i hi hno => tan_only hs hsep hpos hi hno) h)
  have KF := Lib.hid (fun sd W => seenFromE_any p1 p2 sd W)
  clear hg hp hR hin hsep hmem
  generalize placeI (band l) (p1, p2) = pl at *
  generalize tanF (band l) (p1, p2) = TF at *
  generalize band l = m at *
  have hpl2 : ¬ 0 ≤ pl := of_decide_eq_false hpl.symm
  clear hpl
  obtain ⟨⟨t1, t2⟩, ht⟩ : ∃ t : Int × Int, TF 1 (m.length - 1) = t := ⟨_, rfl⟩
  obtain ⟨⟨t3, t4⟩, ht'⟩ : ∃ t : Int × Int, TF (-1) (m.length - 1) = t := ⟨_, rfl⟩
  have KO1' := KO.out 1 (Or.inl rfl)
  have KO2' := KO.out (-1) (Or.inr rfl)
  rw [ht] at KO1'
  rw [ht'] at KO2'
  have HT1 := Lib.hid ht
  have HT2 := Lib.hid ht'
  clear ht ht' KO
  rw [show (fun e w' => e = Ending.returned (.tuple #[.agg #[.int .i64 (TF 1 (m.length - 1)).1, .int .i64 (TF 1 (m.length - 1)).2], .agg #[.int .i64 (TF (-1) (m.length - 1)).1, .int .i64 (TF (-1) (m.length - 1)).2], .bool true]) ∧ Below w.heap.size w w') = fun e w' => e = Ending.returned (.tuple #[.agg #[.int .i64 t1, .int .i64 t2], .agg #[.int .i64 t3, .int .i64 t4], .bool true]) ∧ Below w.heap.size w w' from by rw [HT1.out, HT2.out]]
  generalize hml : m.length = ml at *
  go_enter Try.func47, Try.ntmps47
  go_wp2_with fail
  obtain ⟨W1, hW1⟩ : ∃ W1, W1 = (((w.alloc (.cells #[.int .i64 p1, .int .i64 p2] 38)).alloc (.cells #[.int .i64 0, .int .i64 0] 38)).alloc (.cells #[.int .i64 0, .int .i64 0] 38)) := ⟨_, rfl⟩
  rw [← hW1]
  have yW10_0 : W1.cell? ⟨w.heap.size, 0, none⟩ = some (.int .i64 p1) := by rw [hW1]; go_simp
  have yW10_1 : W1.cell? ⟨w.heap.size, 1, none⟩ = some (.int .i64 p2) := by rw [hW1]; go_simp
  have fW10 : ∀ o, W1.frozen? ⟨w.heap.size, o, none⟩ = false := by intro o; rw [hW1]; (repeat rw [frozen?_alloc_cells]); simp [World.frozen?]
  have zW10 : w.heap.size < W1.heap.size := by rw [hW1]; simp <;> omega
  have yW11_0 : W1.cell? ⟨w.heap.size + 1, 0, none⟩ = some (.int .i64 0) := by rw [hW1]; go_simp
  have yW11_1 : W1.cell? ⟨w.heap.size + 1, 1, none⟩ = some (.int .i64 0) := by rw [hW1]; go_simp
  have fW11 : ∀ o, W1.frozen? ⟨w.heap.size + 1, o, none⟩ = false := by intro o; rw [hW1]; (repeat rw [frozen?_alloc_cells]); simp [World.frozen?]
  have zW11 : w.heap.size + 1 < W1.heap.size := by rw [hW1]; simp <;> omega
  have yW12_0 : W1.cell? ⟨w.heap.size + 2, 0, none⟩ = some (.int .i64 0) := by rw [hW1]; go_simp
  have yW12_1 : W1.cell? ⟨w.heap.size + 2, 1, none⟩ = some (.int .i64 0) := by rw [hW1]; go_simp
  have fW12 : ∀ o, W1.frozen? ⟨w.heap.size + 2, o, none⟩ = false := by intro o; rw [hW1]; (repeat rw [frozen?_alloc_cells]); simp [World.frozen?]
  have zW12 : w.heap.size + 2 < W1.heap.size := by rw [hW1]; simp <;> omega
  have BW1 : Below w.heap.size w W1 := by rw [hW1]; exact (Below.alloc (Below.alloc (Below.alloc (Below.refl _ _) (by simp <;> omega) _) (by simp <;> omega) _) (by simp <;> omega) _)
  have eW1 : Hid (W1.heap.size = w.heap.size + 3) := Lib.hid (by rw [hW1]; simp)
  clear hW1
  have S1 : TgS w W1 p1 p2 := ⟨BW1, zW12, yW10_0, yW10_1, yW11_0, yW11_1, yW12_0, yW12_1, fW11, fW12⟩
  clear yW10_0 yW10_1 fW10 zW10 yW11_0 yW11_1 fW11 zW11 yW12_0 yW12_1 fW12 zW12 eW1
  refine (K.out W1 BW1).mono ?_; rintro e w2 ⟨X, cX, rfl, q1, q2, hb2, q3⟩
  have S2 := S1.up hb2
  have HR2 := Lib.hid (rd_more (rw_rd q3) (Nat.le_refl _))
  unfold maxLen at q2
  clear q3
  have s2a := S2.c30
  have s2b := S2.c31
  have s2z : w.heap.size < w2.heap.size := by have := S2.size; omega
  go_wp2_with fail
  refine (KP.out _).mono ?_; rintro e w3 ⟨rfl, hb3⟩
  have S3 := S2.up hb3
  clear S1 BW1 hb2 K KP S2
  clear s2a s2b s2z
  have HR3 := Lib.hid (rd_more (rd_below HR2.out hb3 (Nat.le_refl _)) hb3.size)
  have s3a := S3.c30
  have s3b := S3.c31
  have s3z : w.heap.size < w3.heap.size := by have := S3.size; omega
  clear HR2 hb3
  go_wp2_with fail
  refine (KB.out _ _ _ HR3.out).mono ?_; rintro e w4 ⟨rfl, hb4⟩
  have S4 := S3.up hb4
  have HR4 := Lib.hid (rd_more (rd_below HR3.out hb4 (Nat.le_refl _)) hb4.size)
  clear s3a s3b s3z
  have KO1 := Lib.hid (KO1' X cX)
  have KO2 := Lib.hid (KO2' X cX)
  have s4a := S4.c30
  have s4b := S4.c31
  have s4z : w.heap.size < w4.heap.size := by have := S4.size; omega
  have HS4 := Lib.hid S4
  clear S3 hb4 KB HR3 S4 KO1' KO2'
  have hml3 : ¬ ((ml : Int) < 3) := by omega
  go_upto_region 4 with fail
  go_cut [6] from 34 to 41 (fun p wx => p = .bool true ∧ Below w.heap.size w wx ∧ w.heap.size + 2 < wx.heap.size ∧ wx.cell? ⟨w.heap.size + 1, 0, none⟩ = some (.int .i64 t1) ∧ wx.cell? ⟨w.heap.size + 1, 1, none⟩ = some (.int .i64 t2) ∧ wx.cell? ⟨w.heap.size + 2, 0, none⟩ = some (.int .i64 t3) ∧ wx.cell? ⟨w.heap.size + 2, 1, none⟩ = some (.int .i64 t4))
  case first =>
    go_region_with
      (first
       | (go_at_call 73; with_reducible refine (KO2.out _ _ _ aC1 aC2 aC3 aC4 aC5 HRC.out).mono ?_; rintro e wD ⟨rfl, hbD⟩;
          have SD := HSC.out.up hbD;
          have y40 := SD.c40;
          have y41 := SD.c41;
          have y50 := SD.c50;
          have y51 := SD.c51;
          have yf4 := SD.f4;
          have yf5 := SD.f5;
          have yz2 := SD.size;
          have yz1 : w.heap.size + 1 < wD.heap.size := Nat.lt_of_succ_lt yz2;
          have yB := SD.bel;
          clear SD hbD)
       | (go_at_call 74; have hpast := HSB; with_reducible refine (KF.out _ _).mono ?_; rintro e wC ⟨gsC, gfC, rfl, hbC, aC4, aC5, aC1, aC2, aC3⟩;
          have SC := HSB.out.up hbC;
          have HRC := Lib.hid (rd_more (rd_below HRB.out hbC (Nat.le_refl _)) (Below.size hbC));
          have sCa := SC.c30;
          have sCb := SC.c31;
          have sCz : w.heap.size < wC.heap.size := Nat.lt_of_succ_lt (Nat.lt_of_succ_lt SC.size);
          have HSC := Lib.hid SC;
          
          clear SC hbC hpast)
       | (go_at_call 73; with_reducible refine (KO1.out _ _ _ aA1 aA2 aA3 aA4 aA5 HRA.out).mono ?_; rintro e wB ⟨rfl, hbB⟩;
          have SB := HSA.out.up hbB;
          have HRB := Lib.hid (rd_more (rd_below HRA.out hbB (Nat.le_refl _)) (Below.size hbB));
          have sBa := SB.c30;
          have sBb := SB.c31;
          have sBz : w.heap.size < wB.heap.size := Nat.lt_of_succ_lt (Nat.lt_of_succ_lt SB.size);
          have HSB := Lib.hid SB;
          
          have x40 := SB.c40;
          have x41 := SB.c41;
          have xf4 := SB.f4;
          have xz1 : w.heap.size + 1 < wB.heap.size := Nat.lt_of_succ_lt SB.size;
          clear SB hbB)
       | (go_at_call 74; with_reducible refine (KF.out _ _).mono ?_; rintro e wA ⟨gsA, gfA, rfl, hbA, aA4, aA5, aA1, aA2, aA3⟩;
          have hbA' : Below w4.heap.size w4 wA := (Below.refl w4.heap.size w4).drew.trans (hbA.mono (Nat.le_refl _));
          have SA := HS4.out.up hbA';
          have HRA := Lib.hid (rd_more (rd_below HR4.out hbA' (Nat.le_refl _)) (Below.size hbA'));
          have sAa := SA.c30;
          have sAb := SA.c31;
          have sAz : w.heap.size < wA.heap.size := Nat.lt_of_succ_lt (Nat.lt_of_succ_lt SA.size);
          have HSA := Lib.hid SA;
          
          clear SA hbA hbA'))
    all_goals
      go_wp2_with fail
      go_meet
      case rel => exact ⟨rfl, by repeat (first | with_reducible assumption | with_reducible exact Below.refl _ _ | with_reducible apply Below.drew | ((with_reducible refine Below.setCell ?_ ?_ _); rotate_left; (first | exact Nat.le_refl _ | omega | (simp <;> omega))) | ((with_reducible refine Below.alloc ?_ ?_ _); rotate_left; (first | omega | (simp <;> omega)))), by simp [World.setCell]; omega, by go_simp, by go_simp, by go_simp, by go_simp⟩
  case rest =>
    obtain ⟨rfl, BB, r2, c40, c41, c50, c51⟩ := hcut
    have r1 : w.heap.size + 1 < wc.heap.size := by omega
    go_wp2_with fail
    refine bodyPost_ret (v := .tuple #[.agg #[.int .i64 t1, .int .i64 t2], .agg #[.int .i64 t3, .int .i64 t4], .bool true]) (by simp [results, Try.results47, go_sem, r1, r2, c40, c41, c50, c51]) rfl ⟨rfl, BB⟩
noncomputable def tzS (l : List (Int × Int)) (p1 p2 : Int) (i : Nat) : Int := if i = 0 then (tzV l (p1, p2) 1).1 else if i = 1 then (tzV l (p1, p2) 1).2 else if i = 2 then (tzV l (p1, p2) (-1)).1 else (tzV l (p1, p2) (-1)).2
noncomputable def tzO (l : List (Int × Int)) (p1 p2 : Int) : Bool := tzB l (p1, p2)
theorem specTangentsFrom_any (A : Option Addr) (c : Nat) (l : List (Int × Int)) (p1 p2 : Int) (w : World) (hn : l.length ≤ 1048576) (hcap : l.length ≤ c) (hc2 : c ≤ 9223372036854775807) (hR : Rd w w.heap.size A l) :
    Calls Try.prog 46 #[.slice A l.length c, .agg #[.int .i64 p1, .int .i64 p2]] w fun e w' => e = .returned (.tuple #[.agg #[.int .i64 (tzS l p1 p2 0), .int .i64 (tzS l p1 p2 1)], .agg #[.int .i64 (tzS l p1 p2 2), .int .i64 (tzS l p1 p2 3)], .bool (tzO l p1 p2)]) ∧ Below w.heap.size w w' := by
  by_cases hd : Dif l
  · by_cases hp : isPegB p1 p2 = true
    · by_cases h3 : 3 ≤ (band l).length
      · by_cases hin : inHB (band l) (p1, p2) = true
        · have hB : tzB l (p1, p2) = false := by unfold tzB; rw [hin]; simp
          have := specTangents_no4 A c l p1 p2 w hn hcap hc2 hd hp h3 hin hR
          unfold tzS tzO tzV
          rw [hB]
          exact this
        · have hin' : inHB (band l) (p1, p2) = false := by simpa using hin
          have hB : tzB l (p1, p2) = true := by unfold tzB; rw [hin', difB_true hd, show isPg (p1, p2) = true from hp]; simpa using h3
          have := specTangents_yes A c l p1 p2 w hn hcap hc2 hd hp h3 hin' hR
          unfold tzS tzO tzV
          rw [hB]
          exact this
      · have hB : tzB l (p1, p2) = false := by unfold tzB; rw [decide_eq_false h3]; simp
        have := specTangents_no3 A c l p1 p2 w hn hcap hc2 hd hp (by omega) hR
        unfold tzS tzO tzV
        rw [hB]
        exact this
    · have hp' : isPegB p1 p2 = false := by simpa using hp
      have hB : tzB l (p1, p2) = false := by unfold tzB; rw [show isPg (p1, p2) = false from hp']; simp
      have := specTangents_no2 A c l p1 p2 w hn hcap hc2 hd hp' hR
      unfold tzS tzO tzV
      rw [hB]
      exact this
  · have hB : tzB l (p1, p2) = false := by unfold tzB; rw [difB_false hd]; rfl
    have := specTangents_no1 A c l p1 p2 w hn hcap hc2 hd hR
    unfold tzS tzO tzV
    rw [hB]
    exact this
theorem implTangentsFrom_any (A : Option Addr) (c : Nat) (l : List (Int × Int)) (p1 p2 : Int) (w : World) (hn : l.length ≤ 1048576) (hcap : l.length ≤ c) (hc2 : c ≤ 9223372036854775807) (hR : Rd w w.heap.size A l) :
    Calls Try.prog 47 #[.slice A l.length c, .agg #[.int .i64 p1, .int .i64 p2]] w fun e w' => e = .returned (.tuple #[.agg #[.int .i64 (tzS l p1 p2 0), .int .i64 (tzS l p1 p2 1)], .agg #[.int .i64 (tzS l p1 p2 2), .int .i64 (tzS l p1 p2 3)], .bool (tzO l p1 p2)]) ∧ Below w.heap.size w w' := by
  by_cases hd : Dif l
  · by_cases hp : isPegB p1 p2 = true
    · by_cases h3 : 3 ≤ (band l).length
      · by_cases hin : inHB (band l) (p1, p2) = true
        · have hB : tzB l (p1, p2) = false := by unfold tzB; rw [hin]; simp
          have := implTangents_no4 A c l p1 p2 w hn hcap hc2 hd hp h3 hin hR
          unfold tzS tzO tzV
          rw [hB]
          exact this
        · have hin' : inHB (band l) (p1, p2) = false := by simpa using hin
          have hB : tzB l (p1, p2) = true := by unfold tzB; rw [hin', difB_true hd, show isPg (p1, p2) = true from hp]; simpa using h3
          have := implTangents_yes A c l p1 p2 w hn hcap hc2 hd hp h3 hin' hR
          unfold tzS tzO tzV
          rw [hB]
          exact this
      · have hB : tzB l (p1, p2) = false := by unfold tzB; rw [decide_eq_false h3]; simp
        have := implTangents_no3 A c l p1 p2 w hn hcap hc2 hd hp (by omega) hR
        unfold tzS tzO tzV
        rw [hB]
        exact this
    · have hp' : isPegB p1 p2 = false := by simpa using hp
      have hB : tzB l (p1, p2) = false := by unfold tzB; rw [show isPg (p1, p2) = false from hp']; simp
      have := implTangents_no2 A c l p1 p2 w hn hcap hc2 hd hp' hR
      unfold tzS tzO tzV
      rw [hB]
      exact this
  · have hB : tzB l (p1, p2) = false := by unfold tzB; rw [difB_false hd]; rfl
    have := implTangents_no1 A c l p1 p2 w hn hcap hc2 hd hR
    unfold tzS tzO tzV
    rw [hB]
    exact this
end Go.Proofs.Ythpbnfmfedggjaa
