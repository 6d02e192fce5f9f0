/- plain: a point and a band, layers; rows of one's own -/
import Derived.Test.YtheddoinnakneaaBe
import Derived.Test.YtheddoinnakneaaBh
import Derived.Test.YtheddoinnakneaaBf0
import Derived.Test.YtheddoinnakneaaBi
import Derived.Test.YtheddoinnakneaaBm0
import Derived.Laws.OwnMore
import Derived.Test.YtheddoinnakneaaBn
namespace Go.Proofs.Ytheddoinnakneaa
open Go.ChangeShapes Go.WideShapes Go.ChangeAt Go.RowKit Go.Joins
set_option linter.unusedVariables false
set_option linter.unusedSimpArgs false
set_option maxRecDepth 4000
theorem band_pegs {l : List (Int × Int)} (h : Dif l) : ∀ i, i < (band l).length → isPg (vx (band l) i) = true := by
  intro i hi
  obtain ⟨h0, ha⟩ := around_of (dif_nodup h) h.few.1 (Nat.le_trans h.few.2 (by decide))
  have e1 := ha.same i hi
  have e2 := ha.mem i (by unfold band at hi; omega)
  have e3 : vx (band l) i = pt (MH.hull (srt l)) i := by
    have a := vx_get hi
    have b := pt_get hi
    rw [a] at b
    injection b with b
  rw [e3, ← e1]
  exact dif_pegs h _ e2
theorem band_pos {l : List (Int × Int)} (h : Dif l) : 0 < (band l).length := by
  obtain ⟨h0, ha⟩ := around_of (dif_nodup h) h.few.1 (Nat.le_trans h.few.2 (by decide))
  exact ha.pos
/-- two rows in order with the same points are one -/
theorem sorted_same : ∀ (a b : List (Int × Int)), a.Pairwise lxP → b.Pairwise lxP → (∀ x, x ∈ a ↔ x ∈ b) → a = b
  | [], [], _, _, _ => rfl
  | [], y :: b, _, _, h => absurd ((h y).2 (by simp)) (by simp)
  | x :: a, [], _, _, h => absurd ((h x).1 (by simp)) (by simp)
  | x :: a, y :: b, ha, hb, h => by
    have ha' := List.pairwise_cons.1 ha
    have hb' := List.pairwise_cons.1 hb
    have ir : ∀ z : Int × Int, ¬ lxP z z := fun z => by unfold lxP; omega
    have tr : ∀ p q r : Int × Int, lxP p q → lxP q r → lxP p r := fun p q r => by unfold lxP; omega
    have e : x = y := by
      have h1 := (h x).1 (by simp)
      have h2 := (h y).2 (by simp)
      rw [List.mem_cons] at h1 h2
      rcases h1 with h1 | h1
      · exact h1
      · rcases h2 with h2 | h2
        · exact h2.symm
        · exact absurd (tr _ _ _ (ha'.1 y h2) (hb'.1 x h1)) (ir x)
    subst e
    congr 1
    refine sorted_same a b ha'.2 hb'.2 fun z => ?_
    have hz := h z
    rw [List.mem_cons, List.mem_cons] at hz
    constructor
    · intro hm
      rcases hz.1 (Or.inr hm) with g | g
      · subst g; exact absurd (ha'.1 z hm) (ir z)
      · exact g
    · intro hm
      rcases hz.2 (Or.inr hm) with g | g
      · subst g; exact absurd (hb'.1 z hm) (ir z)
      · exact g
theorem srt_self {s : List (Int × Int)} (h : s.Pairwise lxP) : srt s = s := by
  refine sorted_same _ _ (srt_sorted ?_) h (fun x => srt_mem)
  rw [List.nodup_iff_pairwise_ne]
  refine h.imp fun {a b} hab e => ?_
  subst e
  unfold lxP at hab; omega
theorem dif_list {l : List (Int × Int)} (hn : l.Nodup) (hp : ∀ x ∈ l, isPg x = true) (h1 : 1 ≤ l.length) (h2 : l.length ≤ 30) : Dif l := by
  refine ⟨⟨h1, h2⟩, fun i hi => ⟨hp _ (List.mem_of_getElem? (vx_get hi)), fun j hj e => ?_⟩⟩
  rw [List.nodup_iff_pairwise_ne, List.pairwise_iff_getElem] at hn
  have := hn j i (by omega) hi hj
  have e1 := vx_get hi
  have e2 := vx_get (l := l) (i := j) (by omega)
  rw [List.getElem?_eq_getElem hi] at e1
  rw [List.getElem?_eq_getElem (show j < l.length by omega)] at e2
  injection e1 with e1
  injection e2 with e2
  exact this (by rw [e1, e2, e])
namespace MP
abbrev V := Int × Int
/-- p is on the line from a to b -/
def On (a b p : V) : Prop := MH.tw a b p = 0 ∧ min a.1 b.1 ≤ p.1 ∧ p.1 ≤ max a.1 b.1 ∧ min a.2 b.2 ≤ p.2 ∧ p.2 ≤ max a.2 b.2
def up (c n p : V) : Int := if c.2 ≤ p.2 ∧ p.2 < n.2 ∧ 0 < MH.tw c n p then 1 else 0
def dn (c n p : V) : Int := if n.2 ≤ p.2 ∧ p.2 < c.2 ∧ MH.tw c n p < 0 then 1 else 0
/-- how often the lines go around p -/
def ron (P : Nat → V) (p : V) : Nat → Int
  | 0 => 0
  | k + 1 => ron P p k + up (P k) (P (k + 1)) p - dn (P k) (P (k + 1)) p
theorem key_y (c n a b p : V) : (b.2 - a.2) * MH.tw c n p = (b.2 - p.2) * MH.tw c n a + (p.2 - a.2) * MH.tw c n b + (n.2 - c.2) * MH.tw a b p := by unfold MH.tw; grind
theorem key_x (c n a b p : V) : (b.1 - a.1) * MH.tw c n p = (b.1 - p.1) * MH.tw c n a + (p.1 - a.1) * MH.tw c n b + (n.1 - c.1) * MH.tw a b p := by unfold MH.tw; grind
theorem pos_l {k x : Int} (hk : 0 < k) (h : 0 < k * x) : 0 < x := by
  by_cases hx : 0 < x
  · exact hx
  · exfalso
    have := Int.mul_nonneg (Int.le_of_lt hk) (show 0 ≤ -x by omega)
    rw [Int.mul_neg] at this
    omega
theorem nn_l {k x : Int} (hk : 0 < k) (h : 0 ≤ k * x) : 0 ≤ x := by
  by_cases hx : 0 ≤ x
  · exact hx
  · exfalso
    have := Int.mul_pos hk (show 0 < -x by omega)
    rw [Int.mul_neg] at this
    omega
/-- up with side not greater than 0, another up with side greater than 0: cannot be -/
theorem two_up {c n a b p : V} (hca : 0 ≤ MH.tw c n a) (hcb : 0 ≤ MH.tw c n b) (h1 : c.2 < n.2) (h2 : a.2 ≤ p.2) (h3 : p.2 < b.2) (h4 : 0 < MH.tw a b p) : 0 < MH.tw c n p := by
  have e := key_y c n a b p
  have m1 := Int.mul_nonneg (show 0 ≤ b.2 - p.2 by omega) hca
  have m2 := Int.mul_nonneg (show 0 ≤ p.2 - a.2 by omega) hcb
  have m3 := Int.mul_pos (show 0 < n.2 - c.2 by omega) h4
  exact pos_l (show 0 < b.2 - a.2 by omega) (by omega)
/-- down with side less than 0: any up has side greater than 0 -/
theorem dn_up {c n a b p : V} (hca : 0 ≤ MH.tw c n a) (hcb : 0 ≤ MH.tw c n b) (h1 : c.2 < n.2) (h2 : b.2 ≤ p.2) (h3 : p.2 < a.2) (h4 : MH.tw a b p < 0) : 0 < MH.tw c n p := by
  have e := key_y c n a b p
  have m1 := Int.mul_nonneg (show 0 ≤ p.2 - b.2 by omega) hca
  have m2 := Int.mul_nonneg (show 0 ≤ a.2 - p.2 by omega) hcb
  have m3 := Int.mul_pos (show 0 < n.2 - c.2 by omega) (show 0 < - MH.tw a b p by omega)
  have m4 : (p.2 - b.2) * MH.tw c n a = - ((b.2 - p.2) * MH.tw c n a) := by grind
  have m5 : (a.2 - p.2) * MH.tw c n b = - ((p.2 - a.2) * MH.tw c n b) := by grind
  rw [Int.mul_neg] at m3
  have m6 : (a.2 - b.2) * MH.tw c n p = - ((b.2 - a.2) * MH.tw c n p) := by grind
  exact pos_l (show 0 < a.2 - b.2 by omega) (by omega)
/-- an up with side greater than 0, a down with side not less than 0: p is in -/
theorem both_in {c n a b a' b' p : V} (h1a : 0 ≤ MH.tw c n a) (h1b : 0 ≤ MH.tw c n b) (h2a : 0 ≤ MH.tw c n a') (h2b : 0 ≤ MH.tw c n b') (h2 : a.2 ≤ p.2) (h3 : p.2 < b.2) (h4 : 0 < MH.tw a b p) (g2 : b'.2 ≤ p.2) (g3 : p.2 < a'.2) (g4 : 0 ≤ MH.tw a' b' p) : 0 ≤ MH.tw c n p := by
  by_cases hd : 0 ≤ n.2 - c.2
  · have e := key_y c n a b p
    have m1 := Int.mul_nonneg (show 0 ≤ b.2 - p.2 by omega) h1a
    have m2 := Int.mul_nonneg (show 0 ≤ p.2 - a.2 by omega) h1b
    have m3 := Int.mul_nonneg hd (Int.le_of_lt h4)
    exact nn_l (show 0 < b.2 - a.2 by omega) (by omega)
  · have e := key_y c n a' b' p
    have m1 := Int.mul_nonneg (show 0 ≤ p.2 - b'.2 by omega) h2a
    have m2 := Int.mul_nonneg (show 0 ≤ a'.2 - p.2 by omega) h2b
    have m3 := Int.mul_nonneg (show 0 ≤ c.2 - n.2 by omega) g4
    have m4 : (p.2 - b'.2) * MH.tw c n a' = - ((b'.2 - p.2) * MH.tw c n a') := by grind
    have m5 : (a'.2 - p.2) * MH.tw c n b' = - ((p.2 - a'.2) * MH.tw c n b') := by grind
    have m6 : (a'.2 - b'.2) * MH.tw c n p = - ((b'.2 - a'.2) * MH.tw c n p) := by grind
    have m7 : (c.2 - n.2) * MH.tw a' b' p = - ((n.2 - c.2) * MH.tw a' b' p) := by grind
    exact nn_l (show 0 < a'.2 - b'.2 by omega) (by omega)
def le0 (v p : V) : Int := if v.2 ≤ p.2 then 1 else 0
theorem ron_all {P : Nat → V} {p : V} : ∀ k, (∀ i, i < k → (P i).2 ≤ p.2 → p.2 < (P (i + 1)).2 → 0 < MH.tw (P i) (P (i + 1)) p) → (∀ i, i < k → (P (i + 1)).2 ≤ p.2 → p.2 < (P i).2 → MH.tw (P i) (P (i + 1)) p < 0) → ron P p k = le0 (P 0) p - le0 (P k) p
  | 0, _, _ => by unfold ron; omega
  | k + 1, h1, h2 => by
    have ih := ron_all k (fun i hi => h1 i (by omega)) (fun i hi => h2 i (by omega))
    have a1 := h1 k (by omega)
    have a2 := h2 k (by omega)
    unfold ron
    rw [ih]
    unfold up dn le0
    by_cases x1 : (P k).2 ≤ p.2
    · by_cases x2 : (P (k + 1)).2 ≤ p.2
      · rw [if_neg (c := _ ∧ _) (by omega), if_neg (c := _ ∧ _) (by omega)]; simp only [x1, x2, if_true]; omega
      · have := a1 x1 (by omega)
        rw [if_pos (c := _ ∧ _) ⟨x1, by omega, this⟩, if_neg (c := _ ∧ _) (by omega)]; simp only [x1, x2, if_true, if_false]; omega
    · by_cases x2 : (P (k + 1)).2 ≤ p.2
      · have := a2 x2 (by omega)
        rw [if_neg (c := _ ∧ _) (by omega), if_pos (c := _ ∧ _) ⟨x2, by omega, this⟩]; simp only [x1, x2, if_true, if_false]; omega
      · rw [if_neg (c := _ ∧ _) (by omega), if_neg (c := _ ∧ _) (by omega)]; simp only [x1, x2, if_false]; omega
theorem ron_nil {P : Nat → V} {p : V} : ∀ k, (∀ i, i < k → up (P i) (P (i + 1)) p = 0) → (∀ i, i < k → dn (P i) (P (i + 1)) p = 0) → ron P p k = 0
  | 0, _, _ => rfl
  | k + 1, h1, h2 => by
    unfold ron
    rw [ron_nil k (fun i hi => h1 i (by omega)) (fun i hi => h2 i (by omega)), h1 k (by omega), h2 k (by omega)]
    rfl
theorem up_cases (c n p : V) : up c n p = 0 ∨ (up c n p = 1 ∧ c.2 ≤ p.2 ∧ p.2 < n.2 ∧ 0 < MH.tw c n p) := by
  unfold up; split
  · rename_i h; exact Or.inr ⟨rfl, h⟩
  · exact Or.inl rfl
theorem dn_cases (c n p : V) : dn c n p = 0 ∨ (dn c n p = 1 ∧ n.2 ≤ p.2 ∧ p.2 < c.2 ∧ MH.tw c n p < 0) := by
  unfold dn; split
  · rename_i h; exact Or.inr ⟨rfl, h⟩
  · exact Or.inl rfl
theorem ron_pos {P : Nat → V} {p : V} : ∀ k, (∀ i, i < k → dn (P i) (P (i + 1)) p = 0) → 0 ≤ ron P p k ∧ ((∃ i, i < k ∧ up (P i) (P (i + 1)) p = 1) → 0 < ron P p k)
  | 0, _ => ⟨Int.le_refl _, fun ⟨i, h, _⟩ => absurd h (Nat.not_lt_zero _)⟩
  | k + 1, h => by
    obtain ⟨a1, a2⟩ := ron_pos k (fun i hi => h i (by omega))
    have b := h k (by omega)
    have c := up_cases (P k) (P (k + 1)) p
    unfold ron
    rw [b]
    refine ⟨by omega, fun ⟨i, hi, e⟩ => ?_⟩
    by_cases hk : i = k
    · subst hk; omega
    · have := a2 ⟨i, by omega, e⟩; omega
/-- outside: the lines go around it not at all -/
theorem ron_out {P : Nat → V} {p : V} {m : Nat} (hper : P m = P 0) (hl : ∀ i j, i < m → j ≤ m → 0 ≤ MH.tw (P i) (P (i + 1)) (P j)) (hout : ∃ j, j < m ∧ MH.tw (P j) (P (j + 1)) p < 0) : ron P p m = 0 := by
  obtain ⟨j, hj, hneg⟩ := hout
  by_cases hU : ∃ i, i < m ∧ (P i).2 ≤ p.2 ∧ p.2 < (P (i + 1)).2 ∧ 0 < MH.tw (P i) (P (i + 1)) p
  · obtain ⟨i, hi, x1, x2, x3⟩ := hU
    have h := ron_all (P := P) (p := p) m
      (fun k hk y1 y2 => two_up (hl k i hk (by omega)) (hl k (i + 1) hk (by omega)) (by omega) x1 x2 x3)
      (fun k hk y1 y2 => by
        by_cases hz : MH.tw (P k) (P (k + 1)) p < 0
        · exact hz
        · have := both_in (p := p) (hl j i hj (by omega)) (hl j (i + 1) hj (by omega)) (hl j k hj (by omega)) (hl j (k + 1) hj (by omega)) x1 x2 x3 y1 y2 (by omega)
          omega)
    rw [h, hper]; omega
  · have hD : ¬ ∃ i, i < m ∧ (P (i + 1)).2 ≤ p.2 ∧ p.2 < (P i).2 ∧ MH.tw (P i) (P (i + 1)) p < 0 := by
      rintro ⟨i, hi, x1, x2, x3⟩
      have hnu : ∀ k, k < m → ¬ ((P k).2 ≤ p.2 ∧ p.2 < (P (k + 1)).2) := fun k hk ⟨y1, y2⟩ => hU ⟨k, hk, y1, y2, dn_up (hl k i hk (by omega)) (hl k (i + 1) hk (by omega)) (by omega) x1 x2 x3⟩
      have h1 : ∀ k, k ≤ m - (i + 1) → (P (i + 1 + k)).2 ≤ p.2 := by
        intro k
        induction k with
        | zero => intro _; exact x1
        | succ k ih =>
          intro hk
          have := hnu (i + 1 + k) (by omega)
          have := ih (by omega)
          rw [show i + 1 + (k + 1) = i + 1 + k + 1 by omega]
          omega
      have h2 := h1 (m - (i + 1)) (Nat.le_refl _)
      rw [show i + 1 + (m - (i + 1)) = m by omega, hper] at h2
      have h3 : ∀ k, k ≤ i → (P k).2 ≤ p.2 := by
        intro k
        induction k with
        | zero => intro _; exact h2
        | succ k ih =>
          intro hk
          have := hnu k (by omega)
          have := ih (by omega)
          omega
      have := h3 i (Nat.le_refl _)
      omega
    refine ron_nil m (fun i hi => ?_) (fun i hi => ?_)
    · rcases up_cases (P i) (P (i + 1)) p with h | ⟨_, h⟩
      · exact h
      · exact absurd ⟨i, hi, h⟩ hU
    · rcases dn_cases (P i) (P (i + 1)) p with h | ⟨_, h⟩
      · exact h
      · exact absurd ⟨i, hi, h⟩ hD
/-- a least one -/
theorem least_of {le : V → V → Prop} (tot : ∀ a b, le a b ∨ le b a) (tr : ∀ a b c, le a b → le b c → le a c) (P : Nat → V) : ∀ m, 0 < m → ∃ k, k < m ∧ ∀ j, j < m → le (P k) (P j)
  | 0, h => absurd h (Nat.lt_irrefl _)
  | 1, _ => ⟨0, by omega, fun j hj => by
      have : j = 0 := by omega
      subst this
      rcases tot (P 0) (P 0) with h | h <;> exact h⟩
  | m + 2, _ => by
    obtain ⟨k, hk, h⟩ := least_of tot tr P (m + 1) (by omega)
    rcases tot (P k) (P (m + 1)) with g | g
    · exact ⟨k, by omega, fun j hj => by
        by_cases e : j = m + 1
        · subst e; exact g
        · exact h j (by omega)⟩
    · exact ⟨m + 1, by omega, fun j hj => by
        by_cases e : j = m + 1
        · subst e; rcases tot (P (m + 1)) (P (m + 1)) with h | h <;> exact h
        · exact tr _ _ _ g (h j (by omega))⟩
theorem step_up {P : Nat → V} {y : Int} : ∀ (n a : Nat), (P a).2 ≤ y → y < (P (a + n)).2 → ∃ i, a ≤ i ∧ i < a + n ∧ (P i).2 ≤ y ∧ y < (P (i + 1)).2
  | 0, a, h1, h2 => by rw [Nat.add_zero] at h2; omega
  | n + 1, a, h1, h2 => by
    by_cases h : (P (a + n)).2 ≤ y
    · exact ⟨a + n, by omega, by omega, h, h2⟩
    · obtain ⟨i, g1, g2, g3⟩ := step_up n a h1 (by omega)
      exact ⟨i, g1, by omega, g3⟩
/-- a polygon that turns left at each corner, told around and around -/
structure Cvx (P : Nat → V) (m : Nat) : Prop where
  pos : 0 < m
  per : ∀ i, P (i + m) = P i
  left : ∀ i j, 0 ≤ MH.tw (P i) (P (i + 1)) (P j)
  turn : ∀ i, 0 < MH.tw (P i) (P (i + 1)) (P (i + 2))
theorem Cvx.red {P : Nat → V} {m : Nat} (h : Cvx P m) : ∀ (n : Nat) (i : Nat), i < n → ∃ j, j < m ∧ P i = P j ∧ P (i + 1) = P (j + 1)
  | 0, i, hi => absurd hi (Nat.not_lt_zero _)
  | n + 1, i, hi => by
    by_cases g : i < m
    · exact ⟨i, g, rfl, rfl⟩
    · have := h.pos
      obtain ⟨j, hj, e1, e2⟩ := h.red n (i - m) (by omega)
      have p1 := h.per (i - m)
      have p2 := h.per (i - m + 1)
      rw [show i - m + m = i by omega] at p1
      rw [show i - m + 1 + m = i + 1 by omega] at p2
      exact ⟨j, hj, p1.trans e1, p2.trans e2⟩
theorem vec (u v w p : V) : MH.tw u v w * (p.2 - v.2) = MH.tw u v p * (w.2 - v.2) - MH.tw v w p * (v.2 - u.2) := by unfold MH.tw; grind
/-- inside and on no line: some line goes up past it -/
theorem some_up {P : Nat → V} {p : V} {m : Nat} (h : Cvx P m) (hin : ∀ i, 0 ≤ MH.tw (P i) (P (i + 1)) p) (hno : ∀ i, ¬ On (P i) (P (i + 1)) p) : ∃ i, (P i).2 ≤ p.2 ∧ p.2 < (P (i + 1)).2 := by
  have hm := h.pos
  by_cases hlow : ∃ a, (P a).2 ≤ p.2
  · obtain ⟨a, ha⟩ := hlow
    by_cases hhi : ∃ b, p.2 < (P b).2
    · obtain ⟨b, hb⟩ := hhi
      obtain ⟨c, hc, hcb⟩ : ∃ c, a ≤ c ∧ P c = P b := by
        have : ∀ n, P (b + n * m) = P b := by
          intro n
          induction n with
          | zero => rw [Nat.zero_mul, Nat.add_zero]
          | succ n ih => rw [Nat.succ_mul, ← Nat.add_assoc, h.per, ih]
        refine ⟨b + a * m, ?_, this a⟩
        have := Nat.le_mul_of_pos_right a hm
        omega
      obtain ⟨i, _, _, g⟩ := step_up (P := P) (c - a) a ha (by rw [show a + (c - a) = c by omega, hcb]; exact hb)
      exact ⟨i, g⟩
    · exfalso
      obtain ⟨k, hk, hle⟩ := least_of (le := fun u v => v.2 < u.2 ∨ (v.2 = u.2 ∧ v.1 ≤ u.1)) (fun a b => by omega) (fun a b c => by omega) P m hm
      have hle2 : ∀ j, (P j).2 < (P k).2 ∨ ((P j).2 = (P k).2 ∧ (P j).1 ≤ (P k).1) := fun j => by
        obtain ⟨j', hj', e, _⟩ := h.red (j + 1) j (by omega)
        rw [e]; exact hle j' hj'
      obtain ⟨i, hi⟩ : ∃ i, P (i + 1) = P k := ⟨k + m - 1, by rw [show k + m - 1 + 1 = k + m by omega, h.per]⟩
      have hpk : (P k).2 ≤ p.2 := Int.not_lt.1 fun g => hhi ⟨k, g⟩
      rw [← hi] at hle2 hpk
      have t := h.turn i
      have t2 := h.turn (i + 1)
      have a1 := hin i
      have a2 := hin (i + 1)
      have a3 := hin (i + 2)
      have n1 := hno i
      have n2 := hno (i + 1)
      have l1 := hle2 i
      have l2 := hle2 (i + 2)
      have l3 := hle2 (i + 3)
      rw [show i + 1 + 1 = i + 2 by omega] at a2 n2 t2
      rw [show i + 1 + 2 = i + 3 by omega] at t2
      rw [show i + 2 + 1 = i + 3 by omega] at a3
      generalize P i = u at *
      generalize P (i + 1) = v at *
      generalize P (i + 2) = w at *
      generalize P (i + 3) = x at *
      have e := vec u v w p
      have m1 := Int.mul_nonneg a1 (show 0 ≤ v.2 - w.2 by omega)
      have m2 := Int.mul_nonneg a2 (show 0 ≤ v.2 - u.2 by omega)
      have m3 : MH.tw u v p * (w.2 - v.2) = - (MH.tw u v p * (v.2 - w.2)) := by grind
      have hq : p.2 = v.2 := by
        by_cases hq : p.2 = v.2
        · exact hq
        · have := Int.mul_pos t (show 0 < p.2 - v.2 by omega)
          omega
      have hq0 : p.2 - v.2 = 0 := by omega
      rw [hq0, Int.mul_zero] at e
      have hb0 : MH.tw v w p * (v.2 - u.2) = 0 := by omega
      have hd1 : 0 < v.2 - u.2 := by
        by_cases g : 0 < v.2 - u.2
        · exact g
        · exfalso
          have g2 : v.2 - u.2 = 0 := by omega
          unfold MH.tw at t
          rw [g2, Int.zero_mul] at t
          have e2 : u.2 = v.2 := by omega
          rw [e2] at t
          have := Int.mul_nonneg (show 0 ≤ v.1 - u.1 by omega) (show 0 ≤ v.2 - w.2 by omega)
          have e3 : (v.1 - u.1) * (w.2 - v.2) = - ((v.1 - u.1) * (v.2 - w.2)) := by grind
          omega
      have hb : MH.tw v w p = 0 := by
        rcases Int.mul_eq_zero.1 hb0 with g | g
        · exact g
        · omega
      have hqx : p.1 ≤ v.1 := by
        have e4 : MH.tw u v p = (v.2 - u.2) * (v.1 - p.1) := by unfold MH.tw; rw [hq]; grind
        rw [e4] at a1
        have := nn_l hd1 a1
        omega
      have e5 : MH.tw v w p = (v.2 - w.2) * (p.1 - v.1) := by unfold MH.tw; rw [hq]; grind
      rw [e5] at hb
      rcases Int.mul_eq_zero.1 hb with g | g
      · have hx3 : x.2 < w.2 := by
          have e6 : MH.tw v w x = (v.1 - w.1) * (w.2 - x.2) := by unfold MH.tw; have : v.2 = w.2 := by omega
                                                                  rw [this]; grind
          rw [e6] at t2
          by_cases g3 : x.2 < w.2
          · exact g3
          · exfalso
            have := Int.mul_nonneg (show 0 ≤ v.1 - w.1 by omega) (show 0 ≤ x.2 - w.2 by omega)
            have e7 : (v.1 - w.1) * (x.2 - w.2) = - ((v.1 - w.1) * (w.2 - x.2)) := by grind
            omega
        have e8 : MH.tw w x p = (w.2 - x.2) * (p.1 - w.1) := by unfold MH.tw; have : p.2 = w.2 := by omega
                                                                rw [this]; grind
        rw [e8] at a3
        have := nn_l (show 0 < w.2 - x.2 by omega) a3
        exact n2 ⟨by rw [e5]; exact hb, by omega, by omega, by omega, by omega⟩
      · refine n1 ⟨?_, by omega, by omega, by omega, by omega⟩
        have e4 : MH.tw u v p = (v.2 - u.2) * (v.1 - p.1) := by unfold MH.tw; rw [hq]; grind
        rw [e4, show v.1 - p.1 = 0 by omega, Int.mul_zero]
  · exfalso
    obtain ⟨k, hk, hle⟩ := least_of (le := fun u v => u.2 ≤ v.2) (fun a b => by omega) (fun a b c => by omega) P m hm
    have hle2 : ∀ j, (P k).2 ≤ (P j).2 := fun j => by
      obtain ⟨j', hj', e, _⟩ := h.red (j + 1) j (by omega)
      rw [e]; exact hle j' hj'
    obtain ⟨i, hi⟩ : ∃ i, P (i + 1) = P k := ⟨k + m - 1, by rw [show k + m - 1 + 1 = k + m by omega, h.per]⟩
    have hpk : p.2 < (P k).2 := Int.not_le.1 fun g => hlow ⟨k, g⟩
    rw [← hi] at hle2 hpk
    have t := h.turn i
    have a1 := hin i
    have a2 := hin (i + 1)
    have l1 := hle2 i
    have l2 := hle2 (i + 2)
    rw [show i + 1 + 1 = i + 2 by omega] at a2
    have e := vec (P i) (P (i + 1)) (P (i + 2)) p
    have m1 := Int.mul_nonneg a1 (show 0 ≤ (P (i + 2)).2 - (P (i + 1)).2 by omega)
    have m2 := Int.mul_nonneg a2 (show 0 ≤ (P i).2 - (P (i + 1)).2 by omega)
    have m3 : MH.tw (P (i + 1)) (P (i + 2)) p * ((P (i + 1)).2 - (P i).2) = - (MH.tw (P (i + 1)) (P (i + 2)) p * ((P i).2 - (P (i + 1)).2)) := by grind
    have m4 := Int.mul_pos t (show 0 < (P (i + 1)).2 - p.2 by omega)
    have m5 : MH.tw (P i) (P (i + 1)) (P (i + 2)) * (p.2 - (P (i + 1)).2) = - (MH.tw (P i) (P (i + 1)) (P (i + 2)) * ((P (i + 1)).2 - p.2)) := by grind
    omega
theorem on_of {a b p : V} (h1 : a.2 ≤ p.2) (h2 : p.2 < b.2) (h : MH.tw a b p = 0) : On a b p := by
  refine ⟨h, ?_, ?_, by omega, by omega⟩
  · have e1 : (b.2 - a.2) * (p.1 - a.1) = (b.1 - a.1) * (p.2 - a.2) := by unfold MH.tw at h; grind
    have e2 : (b.2 - a.2) * (b.1 - p.1) = (b.1 - a.1) * (b.2 - p.2) := by unfold MH.tw at h; grind
    by_cases g : 0 ≤ b.1 - a.1
    · have := nn_l (show 0 < b.2 - a.2 by omega) (by rw [e1]; exact Int.mul_nonneg g (by omega))
      omega
    · have m := Int.mul_nonneg (show 0 ≤ a.1 - b.1 by omega) (show 0 ≤ b.2 - p.2 by omega)
      have e3 : (b.2 - a.2) * (p.1 - b.1) = (a.1 - b.1) * (b.2 - p.2) := by grind
      have := nn_l (show 0 < b.2 - a.2 by omega) (by rw [e3]; exact m)
      omega
  · have e1 : (b.2 - a.2) * (p.1 - a.1) = (b.1 - a.1) * (p.2 - a.2) := by unfold MH.tw at h; grind
    have e2 : (b.2 - a.2) * (b.1 - p.1) = (b.1 - a.1) * (b.2 - p.2) := by unfold MH.tw at h; grind
    by_cases g : 0 ≤ b.1 - a.1
    · have := nn_l (show 0 < b.2 - a.2 by omega) (by rw [e2]; exact Int.mul_nonneg g (by omega))
      omega
    · have m := Int.mul_nonneg (show 0 ≤ a.1 - b.1 by omega) (show 0 ≤ p.2 - a.2 by omega)
      have e3 : (b.2 - a.2) * (a.1 - p.1) = (a.1 - b.1) * (p.2 - a.2) := by grind
      have := nn_l (show 0 < b.2 - a.2 by omega) (by rw [e3]; exact m)
      omega
/-- on a line of it: not outside -/
theorem on_in {c n a b p : V} (ha : 0 ≤ MH.tw c n a) (hb : 0 ≤ MH.tw c n b) (h : On a b p) : 0 ≤ MH.tw c n p := by
  obtain ⟨h0, h1, h2, h3, h4⟩ := h
  have ex := key_x c n a b p
  have ey := key_y c n a b p
  rw [h0, Int.mul_zero, Int.add_zero] at ex ey
  by_cases gx : a.1 = b.1
  · by_cases gy : a.2 = b.2
    · have : p = a := Prod.ext (by omega) (by omega)
      rw [this]; exact ha
    · by_cases g : a.2 < b.2
      · have m1 := Int.mul_nonneg (show 0 ≤ b.2 - p.2 by omega) ha
        have m2 := Int.mul_nonneg (show 0 ≤ p.2 - a.2 by omega) hb
        exact nn_l (show 0 < b.2 - a.2 by omega) (by omega)
      · have m1 := Int.mul_nonneg (show 0 ≤ p.2 - b.2 by omega) ha
        have m2 := Int.mul_nonneg (show 0 ≤ a.2 - p.2 by omega) hb
        have e1 : (p.2 - b.2) * MH.tw c n a = - ((b.2 - p.2) * MH.tw c n a) := by grind
        have e2 : (a.2 - p.2) * MH.tw c n b = - ((p.2 - a.2) * MH.tw c n b) := by grind
        have e3 : (a.2 - b.2) * MH.tw c n p = - ((b.2 - a.2) * MH.tw c n p) := by grind
        exact nn_l (show 0 < a.2 - b.2 by omega) (by omega)
  · by_cases g : a.1 < b.1
    · have m1 := Int.mul_nonneg (show 0 ≤ b.1 - p.1 by omega) ha
      have m2 := Int.mul_nonneg (show 0 ≤ p.1 - a.1 by omega) hb
      exact nn_l (show 0 < b.1 - a.1 by omega) (by omega)
    · have m1 := Int.mul_nonneg (show 0 ≤ p.1 - b.1 by omega) ha
      have m2 := Int.mul_nonneg (show 0 ≤ a.1 - p.1 by omega) hb
      have e1 : (p.1 - b.1) * MH.tw c n a = - ((b.1 - p.1) * MH.tw c n a) := by grind
      have e2 : (a.1 - p.1) * MH.tw c n b = - ((p.1 - a.1) * MH.tw c n b) := by grind
      have e3 : (a.1 - b.1) * MH.tw c n p = - ((b.1 - a.1) * MH.tw c n p) := by grind
      exact nn_l (show 0 < a.1 - b.1 by omega) (by omega)
/-- WHAT THE ROUNDS TELL, for a point on no line of the band -/
theorem ron_iff {P : Nat → V} {p : V} {m : Nat} (h : Cvx P m) (hno : ∀ i, i < m → ¬ On (P i) (P (i + 1)) p) : ron P p m ≠ 0 ↔ ∀ i, i < m → 0 ≤ MH.tw (P i) (P (i + 1)) p := by
  constructor
  · intro hr i hi
    by_cases g : 0 ≤ MH.tw (P i) (P (i + 1)) p
    · exact g
    · exfalso
      refine hr (ron_out ?_ (fun i j _ _ => h.left i j) ⟨i, hi, by omega⟩)
      have := h.per 0
      rwa [Nat.zero_add] at this
  · intro hin
    have hin2 : ∀ i, 0 ≤ MH.tw (P i) (P (i + 1)) p := fun i => by
      obtain ⟨j, hj, e1, e2⟩ := h.red (i + 1) i (by omega)
      rw [e1, e2]; exact hin j hj
    have hno2 : ∀ i, ¬ On (P i) (P (i + 1)) p := fun i => by
      obtain ⟨j, hj, e1, e2⟩ := h.red (i + 1) i (by omega)
      rw [e1, e2]; exact hno j hj
    obtain ⟨i0, g1, g2⟩ := some_up h hin2 hno2
    obtain ⟨i, hi, e1, e2⟩ := h.red (i0 + 1) i0 (by omega)
    rw [e1] at g1
    rw [e2] at g2
    have hp := (ron_pos (P := P) (p := p) m (fun k hk => by
      rcases dn_cases (P k) (P (k + 1)) p with g | ⟨_, _, _, g⟩
      · exact g
      · have := hin k hk; omega)).2 ⟨i, hi, by
        rcases up_cases (P i) (P (i + 1)) p with g | ⟨g, _⟩
        · exfalso
          have t := hin i hi
          have t0 : MH.tw (P i) (P (i + 1)) p ≠ 0 := fun z => hno i hi (on_of g1 g2 z)
          unfold up at g
          rw [if_pos ⟨g1, g2, by omega⟩] at g
          omega
        · exact g⟩
    omega
end MP
namespace MP
theorem nxt_one {s : List V} {f b b' : V} (h : MH.Nxt s f b) (h' : MH.Nxt s f b') : b = b' := by
  have x1 := h.2.2 b' h'.1
  have x2 := h'.2.2 b h.1
  have e : MH.tw f b' b = - MH.tw f b b' := by unfold MH.tw; grind
  unfold MH.Nx at x1 x2
  rcases x1 with x1 | ⟨y1, x1 | x1⟩
  · rcases x2 with x2 | ⟨y2, x2⟩ <;> omega
  · exact x1.symm
  · rcases x2 with x2 | ⟨y2, x2 | x2⟩
    · omega
    · exact x2
    · omega
theorem nx_nn {f b p : V} (h : MH.Nx f b p) : 0 ≤ MH.tw f b p := by unfold MH.Nx at h; omega
/-- of three on a line, told one after the other, the first one is not between both others -/
theorem no_mid {z a b c : V} (hab : a ≠ b) (hac : a ≠ c) (h1 : MH.tw a b c = 0) (h2 : MH.sq c a < MH.sq b a) (h3 : MH.sq a b < MH.sq c b) (n1 : MH.Nx z a b) (n2 : MH.Nx z a c) (hG : 0 < MH.sq c a) : False := by
  obtain ⟨D, hD⟩ : ∃ D, D = (b.1 - a.1) * (c.1 - a.1) + (b.2 - a.2) * (c.2 - a.2) := ⟨_, rfl⟩
  obtain ⟨G, hGe⟩ : ∃ G, G = MH.sq c a := ⟨_, rfl⟩
  obtain ⟨B, hBe⟩ : ∃ B, B = MH.sq b a := ⟨_, rfl⟩
  have e1 : MH.sq c b = G + B - 2 * D := by rw [hGe, hBe, hD]; unfold MH.sq; grind
  have e2 : MH.sq a b = B := by rw [hBe]; unfold MH.sq; grind
  have e3 : D * D = B * G := by rw [hGe, hBe, hD]; unfold MH.sq; unfold MH.tw at h1; grind
  have b1 : G * (b.1 - a.1) = D * (c.1 - a.1) := by rw [hGe, hD]; unfold MH.sq; unfold MH.tw at h1; grind
  have b2 : G * (b.2 - a.2) = D * (c.2 - a.2) := by rw [hGe, hD]; unfold MH.sq; unfold MH.tw at h1; grind
  rw [e1, e2] at h3
  rw [← hGe, ← hBe] at h2
  rw [← hGe] at hG
  have hDn : D < 0 := by
    by_cases g : D < 0
    · exact g
    · exfalso
      have m1 := Int.mul_le_mul (show 2 * D ≤ G by omega) (show 2 * D ≤ G by omega) (show 0 ≤ 2 * D by omega) (by omega)
      have m2 := Int.mul_pos hG (show 0 < B - G by omega)
      have e4 : 2 * D * (2 * D) = 4 * (D * D) := by grind
      have e5 : G * (B - G) = B * G - G * G := by grind
      have m3 := Int.mul_pos hG hG
      omega
  have t1 := nx_nn n1
  have t2 := nx_nn n2
  have e6 : G * MH.tw z a b + (-D) * MH.tw z a c = 0 := by
    have : G * MH.tw z a b + (-D) * MH.tw z a c = (a.1 - z.1) * (G * (b.2 - a.2) - D * (c.2 - a.2)) - (a.2 - z.2) * (G * (b.1 - a.1) - D * (c.1 - a.1)) := by unfold MH.tw; grind
    rw [this, b1, b2]; omega
  have m1 := Int.mul_nonneg (Int.le_of_lt hG) t1
  have m2 := Int.mul_nonneg (show 0 ≤ -D by omega) t2
  have z1 : MH.tw z a b = 0 := by
    rcases Int.mul_eq_zero.1 (show G * MH.tw z a b = 0 by omega) with g | g
    · omega
    · exact g
  have z2 : MH.tw z a c = 0 := by
    rcases Int.mul_eq_zero.1 (show (-D) * MH.tw z a c = 0 by omega) with g | g
    · omega
    · exact g
  have s1 : MH.sq b z < MH.sq a z := by
    rcases n1 with g | ⟨_, g | g⟩
    · omega
    · exact absurd g.symm hab
    · exact g
  have s2 : MH.sq c z < MH.sq a z := by
    rcases n2 with g | ⟨_, g | g⟩
    · omega
    · exact absurd g.symm hac
    · exact g
  have e7 : G * (MH.sq b z - MH.sq a z) + (-D) * (MH.sq c z - MH.sq a z) = G * B + (-D) * G := by
    have : G * (MH.sq b z - MH.sq a z) + (-D) * (MH.sq c z - MH.sq a z) = G * MH.sq b a + (-D) * MH.sq c a + 2 * (a.1 - z.1) * (G * (b.1 - a.1) - D * (c.1 - a.1)) + 2 * (a.2 - z.2) * (G * (b.2 - a.2) - D * (c.2 - a.2)) := by unfold MH.sq; grind
    rw [this, b1, b2, ← hGe, ← hBe]; grind
  have m3 := Int.mul_pos hG (show 0 < -(MH.sq b z - MH.sq a z) by omega)
  have m4 := Int.mul_pos (show 0 < -D by omega) (show 0 < -(MH.sq c z - MH.sq a z) by omega)
  have m5 := Int.mul_pos hG (show 0 < B by omega)
  have m6 := Int.mul_pos (show 0 < -D by omega) hG
  rw [Int.mul_neg] at m3 m4
  omega
theorem per_mul {P : Nat → V} {m : Nat} (hper : ∀ i, P (i + m) = P i) (i : Nat) : ∀ n, P (i + n * m) = P i
  | 0 => by rw [Nat.zero_mul, Nat.add_zero]
  | n + 1 => by rw [Nat.succ_mul, ← Nat.add_assoc, hper, per_mul hper i n]
theorem no_back {s : List V} {P : Nat → V} {m : Nat} (h3 : 3 ≤ m) (hper : ∀ i, P (i + m) = P i) (hn : ∀ i, MH.Nxt s (P i) (P (i + 1))) (h0 : P 2 ≠ P 0) (i : Nat) : P i ≠ P (i + 2) := by
  intro e
  have h : ∀ n, P (i + n) = P (i + n + 2) := by
    intro n
    induction n with
    | zero => exact e
    | succ n ih =>
      have x1 := hn (i + n)
      have x2 := hn (i + n + 2)
      rw [← ih] at x2
      have := nxt_one x1 x2
      rw [show i + (n + 1) = i + n + 1 by omega, show i + n + 1 + 2 = i + n + 2 + 1 by omega]
      exact this
  have hi := Nat.le_mul_of_pos_right i (show 0 < m by omega)
  have g := h (i * m - i)
  rw [show i + (i * m - i) = 0 + i * m by omega, per_mul hper, show 0 + i * m + 2 = 2 + i * m by omega, per_mul hper] at g
  exact h0 g.symm
theorem cvx_of {s : List V} {P : Nat → V} {m : Nat} (h3 : 3 ≤ m) (hper : ∀ i, P (i + m) = P i) (hn : ∀ i, MH.Nxt s (P i) (P (i + 1))) (hm : ∀ i, P i ∈ s) (h0 : P 2 ≠ P 0) : Cvx P m where
  pos := by omega
  per := hper
  left i j := nx_nn ((hn i).2.2 _ (hm j))
  turn i := by
    have t := nx_nn ((hn i).2.2 _ (hm (i + 2)))
    by_cases g : MH.tw (P i) (P (i + 1)) (P (i + 2)) = 0
    · exfalso
      have hac := no_back h3 hper hn h0 i
      have hbc := (hn (i + 1)).2.1
      have x1 := (hn i).2.2 _ (hm (i + 2))
      have x2 := (hn (i + 1)).2.2 _ (hm i)
      have e : MH.tw (P (i + 1)) (P (i + 1 + 1)) (P i) = MH.tw (P i) (P (i + 1)) (P (i + 2)) := by
        rw [show i + 1 + 1 = i + 2 by omega]; unfold MH.tw; grind
      rw [show i + 1 + 1 = i + 2 by omega] at hbc x2 e
      have y1 : MH.sq (P (i + 2)) (P i) < MH.sq (P (i + 1)) (P i) := by
        rcases x1 with x | ⟨_, x | x⟩
        · omega
        · exact absurd x.symm hbc
        · exact x
      have y2 : MH.sq (P i) (P (i + 1)) < MH.sq (P (i + 2)) (P (i + 1)) := by
        rcases x2 with x | ⟨_, x | x⟩
        · omega
        · exact absurd x hac
        · exact x
      have ez : P (i + m - 1 + 1) = P i := by rw [show i + m - 1 + 1 = i + m by omega, hper]
      have w := hn (i + m - 1)
      rw [ez] at w
      exact no_mid (hn i).2.1 hac g y1 y2 (w.2.2 _ (hm (i + 1))) (w.2.2 _ (hm (i + 2))) (MH.sq_pos hac)
    · omega
end MP
theorem rd_own {w : World} {base : Nat} {v : Value} {m : List (Int × Int)} (h : w.ownsRow base 56 2 v m.length (flat m)) (hm : 0 < m.length) : ∃ g cap, v = .slice (some ⟨g, 0, none⟩) m.length cap ∧ m.length ≤ cap ∧ cap ≤ maxLen ∧ Rd w w.heap.size (some ⟨g, 0, none⟩) m := by
  rcases own_val h with ⟨_, h0⟩ | ⟨g, cap, rfl, h1, h2, hg1, hg2⟩
  · omega
  · refine ⟨g, cap, rfl, h1, h2, fun _ => ⟨g, 0, rfl, hg2, fun i p hp => ?_⟩⟩
    have hi : i < m.length := (List.getElem?_eq_some_iff.1 hp).1
    have hq := own_pt h rfl i hi
    have e := pt_get hi
    rw [hp] at e
    injection e with e
    subst e
    rw [Nat.zero_add]
    exact hq
theorem vx_addn (l : List (Int × Int)) (i : Nat) : vx l (i + l.length) = vx l i := by unfold vx; rw [Nat.add_mod_right]
theorem vx_pt {l : List (Int × Int)} {i : Nat} (h : i < l.length) : vx l i = pt l i := by
  have a := vx_get h
  have b := pt_get h
  rw [a] at b
  injection b with b
/-- a band of three corners or more turns left -/
theorem band_cvx {l : List (Int × Int)} (hd : Dif l) (h3 : 3 ≤ (band l).length) : MP.Cvx (vx (band l)) (band l).length := by
  have hs := srt_sorted (dif_nodup hd)
  have hl := srt_len l
  obtain ⟨h0, h1, t, es⟩ : ∃ h0 h1 t, srt l = h0 :: h1 :: t := by
    cases h : srt l with
    | nil => rw [h] at hl; have := hd.few.1; simp at hl; omega
    | cons a t =>
      cases t with
      | nil =>
        exfalso
        unfold band at h3
        rw [h] at h3
        simp [MH.hull] at h3
      | cons b t => exact ⟨a, b, t, rfl⟩
  obtain ⟨R, eH, hR, hP⟩ := MH.hull_ok (s := srt l) (es ▸ hs) es
  have eB : band l = h0 :: R := eH
  generalize hm : (band l).length = m at *
  have hmR : R.length + 1 = m := by rw [← hm, eB]; rfl
  have hget : ∀ i, i ≤ m → (h0 :: R ++ [h0])[i]? = some (vx (band l) i) := by
    intro i hi
    by_cases h : i < m
    · rw [List.getElem?_append_left (by simp; omega), ← eB]
      exact vx_get (by omega)
    · have e : i = m := by omega
      subst e
      rw [List.getElem?_append_right (by simp; omega)]
      have e2 : vx (band l) i = vx (band l) 0 := by
        have := vx_addn (band l) 0
        rw [hm, Nat.zero_add] at this
        exact this
      rw [e2]
      have e3 := vx_get (l := band l) (i := 0) (by omega)
      rw [show i - (h0 :: R).length = 0 by simp; omega]
      have e4 : (h0 :: R)[0]? = some (vx (band l) 0) := by rw [← eB]; exact e3
      exact e4
  have hn0 : ∀ i, i < m → MH.Nxt (srt l) (vx (band l) i) (vx (band l) (i + 1)) := fun i hi => MH.path_get _ i _ _ hP (hget i (by omega)) (hget (i + 1) (by omega))
  have hper : ∀ i, vx (band l) (i % m) = vx (band l) i := fun i => by rw [← hm]; exact vx_per _ _
  have hper1 : ∀ i, vx (band l) (i % m + 1) = vx (band l) (i + 1) := fun i => by
    rw [← hper (i % m + 1), ← hper (i + 1), Nat.mod_add_mod]
  refine MP.cvx_of (s := srt l) h3 (fun i => by rw [← hm]; exact vx_addn _ _) (fun i => ?_) (fun i => ?_) ?_
  · rw [← hper i, ← hper1 i]; exact hn0 _ (Nat.mod_lt _ (by omega))
  · rw [← hper i]
    have hlt : i % m < m := Nat.mod_lt _ (by omega)
    have hin := List.mem_of_getElem? (vx_get (l := band l) (i := i % m) (by omega))
    rw [eB, List.mem_cons] at hin
    rw [eB]
    rcases hin with h | h
    · rw [h, es]; simp
    · exact (hR _ h).2
  · have g2 := vx_get (l := band l) (i := 2) (by omega)
    have g0 := vx_get (l := band l) (i := 0) (by omega)
    generalize vx (band l) 2 = x at *
    generalize vx (band l) 0 = y at *
    rw [eB] at g2 g0
    simp at g2 g0
    subst g0
    exact (MH.lx_ne (hR _ (List.mem_of_getElem? g2)).1).symm
def onP (a b p : Int × Int) : Bool := onB a.1 a.2 b.1 b.2 p.1 p.2
theorem onP_iff {a b p : Int × Int} : onP a b p = true ↔ MP.On a b p := by
  unfold onP MP.On
  rw [onB_eq]
  simp only [Bool.and_eq_true, decide_eq_true_eq]
  show (twI a.1 a.2 b.1 b.2 p.1 p.2 = 0 ∧ _) ∧ _ ↔ _
  have e : twI a.1 a.2 b.1 b.2 p.1 p.2 = MH.tw a b p := rfl
  rw [e]
  constructor
  · rintro ⟨⟨h1, h2, h3⟩, h4, h5⟩; exact ⟨h1, h2, h3, h4, h5⟩
  · rintro ⟨h1, h2, h3, h4, h5⟩; exact ⟨⟨h1, h2, h3⟩, h4, h5⟩
/-- on one of the lines -/
def OnH (H : List (Int × Int)) (p : Int × Int) : Prop := ∃ i, i < H.length ∧ onP (vx H i) (vx H (i + 1)) p = true
/-- to the left of all lines -/
def InH (H : List (Int × Int)) (p : Int × Int) : Prop := ∀ i, i < H.length → 0 ≤ MH.tw (vx H i) (vx H (i + 1)) p
noncomputable def onHB (H : List (Int × Int)) (p : Int × Int) : Bool := @decide (OnH H p) (Classical.propDecidable _)
theorem onHB_true {H : List (Int × Int)} {p : Int × Int} (h : OnH H p) : onHB H p = true := by unfold onHB; exact @decide_eq_true _ (Classical.propDecidable _) h
theorem onHB_false {H : List (Int × Int)} {p : Int × Int} (h : ¬ OnH H p) : onHB H p = false := by unfold onHB; exact @decide_eq_false _ (Classical.propDecidable _) h
theorem onHB_iff {H : List (Int × Int)} {p : Int × Int} : onHB H p = true ↔ OnH H p := by
  by_cases h : OnH H p
  · simp [onHB_true h, h]
  · simp [onHB_false h, h]
/-- what the program tells: 0 on a line, else 1 or -1 -/
noncomputable def placeI (H : List (Int × Int)) (p : Int × Int) : Int := if onHB H p = true then 0 else if MP.ron (vx H) p H.length = 0 then -1 else 1
/-- what the model tells -/
noncomputable def inHB (H : List (Int × Int)) (p : Int × Int) : Bool := if H.length < 3 then onHB H p else @decide (InH H p) (Classical.propDecidable _)
theorem onP_end (a b : Int × Int) : onP a b a = true := by
  rw [onP_iff]
  refine ⟨by unfold MH.tw; grind, ?_, ?_, ?_, ?_⟩ <;> omega
theorem ron_few {H : List (Int × Int)} {p : Int × Int} (h1 : 0 < H.length) (h : H.length < 3) : MP.ron (vx H) p H.length = 0 := by
  have hp := vx_addn H 0
  rw [Nat.zero_add] at hp
  rcases (by omega : H.length = 1 ∨ H.length = 2) with e | e
  · rw [e] at hp ⊢
    unfold MP.ron MP.ron
    have : MP.up (vx H 0) (vx H (0 + 1)) p = 0 := by rw [Nat.zero_add, hp]; unfold MP.up; rw [if_neg (by omega)]
    have : MP.dn (vx H 0) (vx H (0 + 1)) p = 0 := by rw [Nat.zero_add, hp]; unfold MP.dn; rw [if_neg (by omega)]
    omega
  · rw [e] at hp ⊢
    unfold MP.ron MP.ron MP.ron
    simp only [Nat.zero_add, Nat.reduceAdd]
    rw [hp]
    have s : MH.tw (vx H 1) (vx H 0) p = - MH.tw (vx H 0) (vx H 1) p := by unfold MH.tw; grind
    unfold MP.up MP.dn
    rw [s]
    by_cases c1 : (vx H 0).2 ≤ p.2 ∧ p.2 < (vx H 1).2 ∧ 0 < MH.tw (vx H 0) (vx H 1) p
    · rw [if_pos c1, if_neg (c := _ ∧ _) (by omega), if_neg (c := _ ∧ _) (by omega), if_pos (c := _ ∧ _) (by omega)]; rfl
    · by_cases c2 : (vx H 1).2 ≤ p.2 ∧ p.2 < (vx H 0).2 ∧ MH.tw (vx H 0) (vx H 1) p < 0
      · rw [if_neg c1, if_pos c2, if_pos (c := _ ∧ _) (by omega), if_neg (c := _ ∧ _) (by omega)]; rfl
      · rw [if_neg c1, if_neg c2, if_neg (c := _ ∧ _) (by omega), if_neg (c := _ ∧ _) (by omega)]; rfl
/-- THE PROGRAM'S PLACE AND THE MODEL'S ARE ONE, in a band -/
theorem place_in {l : List (Int × Int)} (hd : Dif l) (p : Int × Int) : inHB (band l) p = decide (0 ≤ placeI (band l) p) := by
  have hpos := band_pos hd
  unfold placeI inHB
  by_cases h3 : (band l).length < 3
  · rw [if_pos h3, ron_few hpos h3]
    by_cases h : onHB (band l) p = true
    · rw [if_pos h, h]; rfl
    · rw [if_neg h, if_pos rfl]
      have : onHB (band l) p = false := by simpa using h
      rw [this]; rfl
  · rw [if_neg h3]
    have hc := band_cvx hd (by omega)
    by_cases h : onHB (band l) p = true
    · rw [if_pos h]
      obtain ⟨j, hj, ho⟩ := onHB_iff.1 h
      have : InH (band l) p := fun i hi => MP.on_in (hc.left i j) (hc.left i (j + 1)) (onP_iff.1 ho)
      rw [@decide_eq_true _ (Classical.propDecidable _) this]; rfl
    · rw [if_neg h]
      have hno : ∀ i, i < (band l).length → ¬ MP.On (vx (band l) i) (vx (band l) (i + 1)) p := fun i hi ho => h (onHB_true ⟨i, hi, onP_iff.2 ho⟩)
      have key := MP.ron_iff hc hno
      by_cases hr : MP.ron (vx (band l)) p (band l).length = 0
      · rw [if_pos hr]
        have : ¬ InH (band l) p := fun hin => key.2 hin hr
        rw [@decide_eq_false _ (Classical.propDecidable _) this]; rfl
      · rw [if_neg hr]
        have : InH (band l) p := key.1 hr
        rw [@decide_eq_true _ (Classical.propDecidable _) this]; rfl
/-- .. and on it -/
theorem place_on (H : List (Int × Int)) (p : Int × Int) : (placeI H p = 0) ↔ OnH H p := by
  unfold placeI
  by_cases h : onHB H p = true
  · rw [if_pos h]; simp [onHB_iff.1 h]
  · rw [if_neg h]
    have : ¬ OnH H p := fun x => h (onHB_true x)
    simp only [this, iff_false]
    split <;> decide
theorem place_three (H : List (Int × Int)) (p : Int × Int) : placeI H p = 0 ∨ placeI H p = 1 ∨ placeI H p = -1 := by
  unfold placeI
  split
  · exact Or.inl rfl
  · split
    · exact Or.inr (Or.inr rfl)
    · exact Or.inr (Or.inl rfl)
/-- the first k of a list that are chosen -/
def pick (f : Int × Int → Bool) (s : List (Int × Int)) (k : Nat) : List (Int × Int) := (s.take k).filter f
theorem pick_zero (f : Int × Int → Bool) (s : List (Int × Int)) : pick f s 0 = [] := by unfold pick; simp
theorem pick_yes {f : Int × Int → Bool} {s : List (Int × Int)} {k : Nat} (hk : k < s.length) (h : f (pt s k) = true) : pick f s (k + 1) = pick f s k ++ [pt s k] := by
  unfold pick
  rw [List.take_add_one, pt_get hk]
  simp [h]
theorem pick_no {f : Int × Int → Bool} {s : List (Int × Int)} {k : Nat} (hk : k < s.length) (h : f (pt s k) = false) : pick f s (k + 1) = pick f s k := by
  unfold pick
  rw [List.take_add_one, pt_get hk]
  simp [h]
theorem pick_len (f : Int × Int → Bool) (s : List (Int × Int)) (k : Nat) : (pick f s k).length ≤ k := by
  unfold pick
  have := List.length_filter_le f (s.take k)
  rw [List.length_take] at this
  omega
theorem pick_all (f : Int × Int → Bool) (s : List (Int × Int)) {n : Nat} (h : s.length ≤ n) : pick f s n = s.filter f := by unfold pick; rw [List.take_of_length_le h]
noncomputable def onF (H : List (Int × Int)) (p : Int × Int) : Bool := onHB H p
noncomputable def offF (H : List (Int × Int)) (p : Int × Int) : Bool := !onHB H p
noncomputable def atF (H : List (Int × Int)) (q : Int) (p : Int × Int) : Bool := decide (placeI H p = q)
/-- the points on the band, and the others, in order -/
noncomputable def onL (l : List (Int × Int)) : List (Int × Int) := (srt l).filter (onF (band l))
noncomputable def offL (l : List (Int × Int)) : List (Int × Int) := (srt l).filter (offF (band l))
theorem on_of_nx {a b p : Int × Int} (hab : a ≠ b) (h1 : MH.Nx a b p) (h2 : MH.Nx b a p) : MP.On a b p := by
  have t1 := MP.nx_nn h1
  have t2 := MP.nx_nn h2
  have e : MH.tw b a p = - MH.tw a b p := by unfold MH.tw; grind
  have t0 : MH.tw a b p = 0 := by omega
  have hB := MH.sq_pos hab
  have s1 : MH.sq p a ≤ MH.sq b a := by
    rcases h1 with g | ⟨_, g | g⟩
    · omega
    · rw [g]; omega
    · omega
  have s2 : MH.sq p b ≤ MH.sq b a := by
    have e2 : MH.sq a b = MH.sq b a := by unfold MH.sq; grind
    rcases h2 with g | ⟨_, g | g⟩
    · omega
    · rw [g]; omega
    · omega
  obtain ⟨D, hD⟩ : ∃ D, D = (p.1 - a.1) * (b.1 - a.1) + (p.2 - a.2) * (b.2 - a.2) := ⟨_, rfl⟩
  obtain ⟨B, hBe⟩ : ∃ B, B = MH.sq b a := ⟨_, rfl⟩
  obtain ⟨G, hGe⟩ : ∃ G, G = MH.sq p a := ⟨_, rfl⟩
  have e1 : MH.sq p b = G - 2 * D + B := by rw [hGe, hBe, hD]; unfold MH.sq; grind
  have e3 : D * D = B * G := by rw [hGe, hBe, hD]; unfold MH.sq; unfold MH.tw at t0; grind
  have b1 : B * (p.1 - a.1) = D * (b.1 - a.1) := by rw [hBe, hD]; unfold MH.sq; unfold MH.tw at t0; grind
  have b2 : B * (p.2 - a.2) = D * (b.2 - a.2) := by rw [hBe, hD]; unfold MH.sq; unfold MH.tw at t0; grind
  rw [e1, ← hBe] at s2
  rw [← hGe, ← hBe] at s1
  rw [← hBe] at hB
  have hG0 : 0 ≤ G := by
    rw [hGe]; unfold MH.sq
    have := MH.mul_self_nn (p.1 - a.1)
    have := MH.mul_self_nn (p.2 - a.2)
    omega
  have hD0 : 0 ≤ D := by omega
  have hDB : D ≤ B := by
    by_cases g : D ≤ B
    · exact g
    · exfalso
      have m1 := MH.sq_lt (show 0 ≤ B by omega) (show B < D by omega)
      have m2 := Int.mul_le_mul_of_nonneg_left s1 (show 0 ≤ B by omega)
      omega
  have bt : ∀ x y : Int, B * x = D * y → (0 ≤ y → 0 ≤ x ∧ x ≤ y) ∧ (y ≤ 0 → y ≤ x ∧ x ≤ 0) := by
    intro x y h
    constructor
    · intro hy
      have m1 := Int.mul_nonneg hD0 hy
      have m2 := Int.mul_nonneg (show 0 ≤ B - D by omega) hy
      have e4 : B * (y - x) = (B - D) * y := by grind
      exact ⟨MP.nn_l hB (by omega), by have := MP.nn_l hB (show 0 ≤ B * (y - x) by omega); omega⟩
    · intro hy
      have m1 := Int.mul_nonneg hD0 (show 0 ≤ -y by omega)
      have m2 := Int.mul_nonneg (show 0 ≤ B - D by omega) (show 0 ≤ -y by omega)
      have e4 : B * (x - y) = (B - D) * (-y) := by grind
      have e5 : B * (-x) = D * (-y) := by grind
      exact ⟨by have := MP.nn_l hB (show 0 ≤ B * (x - y) by omega); omega, by have := MP.nn_l hB (show 0 ≤ B * (-x) by omega); omega⟩
  obtain ⟨x1, x2⟩ := bt _ _ b1
  obtain ⟨y1, y2⟩ := bt _ _ b2
  refine ⟨t0, ?_, ?_, ?_, ?_⟩
  · by_cases g : 0 ≤ b.1 - a.1
    · have := x1 g; omega
    · have := x2 (by omega); omega
  · by_cases g : 0 ≤ b.1 - a.1
    · have := x1 g; omega
    · have := x2 (by omega); omega
  · by_cases g : 0 ≤ b.2 - a.2
    · have := y1 g; omega
    · have := y2 (by omega); omega
  · by_cases g : 0 ≤ b.2 - a.2
    · have := y1 g; omega
    · have := y2 (by omega); omega
/-- each point of the list is in the band -/
theorem own_in {l : List (Int × Int)} (hd : Dif l) {p : Int × Int} (hp : p ∈ l) : inHB (band l) p = true := by
  have hs := srt_sorted (dif_nodup hd)
  have hl := srt_len l
  have hps : p ∈ srt l := srt_mem.2 hp
  unfold inHB
  by_cases h3 : (band l).length < 3
  · rw [if_pos h3]
    refine onHB_true ?_
    cases h : srt l with
    | nil => rw [h] at hps; simp at hps
    | cons a t =>
      cases t with
      | nil =>
        have eB : band l = [a] := by unfold band; rw [h]; simp [MH.hull]
        rw [h] at hps
        simp at hps
        subst hps
        refine ⟨0, by rw [eB]; simp, ?_⟩
        have : vx (band l) 0 = p := by rw [eB]; rfl
        rw [this]
        exact onP_end _ _
      | cons b t =>
        obtain ⟨R, eH, hR, hP⟩ := MH.hull_ok (s := srt l) (h ▸ hs) h
        have eB : band l = a :: R := eH
        cases R with
        | nil =>
          exfalso
          have := hP.1
          exact this.2.1 rfl
        | cons y R2 =>
          cases R2 with
          | nil =>
            have n1 : MH.Nxt (srt l) a y := hP.1
            have n2 : MH.Nxt (srt l) y a := hP.2.1
            refine ⟨0, by rw [eB]; simp, ?_⟩
            have e0 : vx (band l) 0 = a := by rw [eB]; rfl
            have e1 : vx (band l) (0 + 1) = y := by rw [eB]; rfl
            rw [e0, e1, onP_iff]
            exact on_of_nx n1.2.1 (n1.2.2 p hps) (n2.2.2 p hps)
          | cons z R3 =>
            rw [eB] at h3
            simp at h3
            omega
  · rw [if_neg h3]
    refine @decide_eq_true _ (Classical.propDecidable _) (fun i hi => ?_)
    obtain ⟨a, b, t, h⟩ : ∃ a b t, srt l = a :: b :: t := by
      cases h : srt l with
      | nil => rw [h] at hps; simp at hps
      | cons a t =>
        cases t with
        | nil => exfalso; apply h3; unfold band; rw [h]; simp [MH.hull]
        | cons b t => exact ⟨a, b, t, rfl⟩
    obtain ⟨R, eH, hR, hP⟩ := MH.hull_ok (s := srt l) (h ▸ hs) h
    have eB : band l = a :: R := eH
    have g1 : (a :: R ++ [a])[i]? = some (vx (band l) i) := by
      rw [List.getElem?_append_left (by rw [eB] at hi; exact hi), ← eB]
      exact vx_get hi
    have g2 : (a :: R ++ [a])[i + 1]? = some (vx (band l) (i + 1)) := by
      by_cases hlt : i + 1 < (band l).length
      · rw [List.getElem?_append_left (by rw [eB] at hlt; exact hlt), ← eB]
        exact vx_get hlt
      · have e : i + 1 = (band l).length := by omega
        have e2 : vx (band l) (i + 1) = vx (band l) 0 := by
          have := vx_addn (band l) 0
          rw [Nat.zero_add, ← e] at this
          exact this
        rw [e2, e, eB, List.getElem?_append_right (by simp)]
        simp
        rfl
    exact MP.nx_nn ((MH.path_get _ i _ _ hP g1 g2).2.2 p hps)
theorem at_zero (H : List (Int × Int)) (p : Int × Int) : atF H 0 p = onF H p := by
  unfold atF onF
  by_cases h : OnH H p
  · rw [onHB_true h, decide_eq_true ((place_on H p).2 h)]
  · rw [onHB_false h, decide_eq_false (fun e => h ((place_on H p).1 e))]
theorem at_one {l : List (Int × Int)} (hd : Dif l) {p : Int × Int} (hp : p ∈ l) : atF (band l) 1 p = offF (band l) p := by
  have h1 := place_in hd p
  rw [own_in hd hp] at h1
  have h2 : 0 ≤ placeI (band l) p := by simpa using h1.symm
  unfold atF offF
  by_cases h : OnH (band l) p
  · rw [onHB_true h, (place_on _ _).2 h]; rfl
  · rw [onHB_false h]
    have h3 : placeI (band l) p ≠ 0 := fun e => h ((place_on _ _).1 e)
    have h4 := place_three (band l) p
    rw [decide_eq_true (show placeI (band l) p = 1 by omega)]; rfl
theorem filter_at_zero (l : List (Int × Int)) : (srt l).filter (atF (band l) 0) = onL l := by
  unfold onL
  congr 1
  funext p
  exact at_zero _ _
theorem filter_at_one {l : List (Int × Int)} (hd : Dif l) : (srt l).filter (atF (band l) 1) = offL l := by
  unfold offL
  exact List.filter_congr fun p hp => at_one hd (srt_mem.1 hp)
noncomputable def layF : Nat → List (Int × Int) → List (List (Int × Int))
  | 0, _ => []
  | f + 1, l => if l = [] then [] else onL l :: layF f (offL l)
noncomputable def layers (l : List (Int × Int)) : List (List (Int × Int)) := layF l.length l
theorem layF_nil : ∀ f, layF f [] = []
  | 0 => rfl
  | f + 1 => by unfold layF; rw [if_pos rfl]
theorem layF_cons {f : Nat} {l : List (Int × Int)} (h : l ≠ []) : layF (f + 1) l = onL l :: layF f (offL l) := by
  rw [layF, if_neg h]
theorem off_mem {l : List (Int × Int)} {x : Int × Int} (h : x ∈ offL l) : x ∈ l := srt_mem.1 (List.mem_filter.1 h).1
theorem on_mem {l : List (Int × Int)} {x : Int × Int} (h : x ∈ onL l) : x ∈ l := srt_mem.1 (List.mem_filter.1 h).1
theorem off_sorted {l : List (Int × Int)} (hd : l.Nodup) : (offL l).Pairwise lxP := (srt_sorted hd).sublist List.filter_sublist
theorem sorted_nodup {s : List (Int × Int)} (h : s.Pairwise lxP) : s.Nodup := by
  rw [List.nodup_iff_pairwise_ne]
  refine h.imp fun {a b} hab e => ?_
  subst e
  unfold lxP at hab; omega
theorem two_parts (f : Int × Int → Bool) : ∀ s : List (Int × Int), (s.filter f).length + (s.filter fun x => !f x).length = s.length
  | [] => rfl
  | a :: s => by
    have ih := two_parts f s
    rw [List.filter_cons, List.filter_cons]
    cases h : f a <;> simp <;> omega
theorem on_pos {l : List (Int × Int)} (hd : Dif l) : 0 < (onL l).length := by
  have hpos := band_pos hd
  obtain ⟨h0, ha⟩ := around_of (dif_nodup hd) hd.few.1 (Nat.le_trans hd.few.2 (by decide))
  have hm := ha.mem 0 (by omega)
  have he := ha.same 0 hpos
  have hx : vx (band l) 0 ∈ l := by
    rw [vx_pt hpos]
    have : pt (band l) 0 = pt (MH.hull (srt l)) 0 := rfl
    rw [this, ← he]; exact hm
  have : vx (band l) 0 ∈ onL l := by
    unfold onL
    rw [List.mem_filter]
    exact ⟨srt_mem.2 hx, onHB_true ⟨0, hpos, onP_end _ _⟩⟩
  exact List.length_pos_of_mem this
theorem off_lt {l : List (Int × Int)} (hd : Dif l) : (offL l).length < l.length := by
  have h1 := on_pos hd
  have h2 := two_parts (onF (band l)) (srt l)
  rw [srt_len] at h2
  unfold onL at h1
  have e : (offL l) = (srt l).filter fun x => !onF (band l) x := rfl
  rw [e]
  omega
/-- what is left is a list of different pegs, if there is any -/
theorem off_dif {l : List (Int × Int)} (hd : Dif l) (h : 0 < (offL l).length) : Dif (offL l) := by
  have := off_lt hd
  have := hd.few
  exact dif_list (sorted_nodup (off_sorted (dif_nodup hd))) (fun x hx => dif_pegs hd x (off_mem hx)) h (by omega)
theorem band_srt {l : List (Int × Int)} (hd : Dif l) : band (srt l) = band l := by
  unfold band
  rw [srt_self (srt_sorted (dif_nodup hd))]
theorem on_srt {l : List (Int × Int)} (hd : Dif l) : onL (srt l) = onL l := by
  unfold onL
  rw [band_srt hd, srt_self (srt_sorted (dif_nodup hd))]
theorem off_srt {l : List (Int × Int)} (hd : Dif l) : offL (srt l) = offL l := by
  unfold offL
  rw [band_srt hd, srt_self (srt_sorted (dif_nodup hd))]
theorem srt_dif {l : List (Int × Int)} (hd : Dif l) : Dif (srt l) := by
  have := srt_len l
  have := hd.few
  exact dif_list (sorted_nodup (srt_sorted (dif_nodup hd))) (fun x hx => dif_pegs hd x (srt_mem.1 hx)) (by omega) (by omega)
theorem lay_srt {l : List (Int × Int)} (hd : Dif l) (f : Nat) : layF (f + 1) (srt l) = layF (f + 1) l := by
  have h1 : l ≠ [] := by intro e; have := hd.few.1; rw [e] at this; simp at this
  have h2 : srt l ≠ [] := by intro e; have := srt_len l; have := hd.few.1; rw [e] at *; simp at *; omega
  rw [layF_cons h1, layF_cons h2, on_srt hd, off_srt hd]
theorem lay_mem : ∀ (f : Nat) (l m : List (Int × Int)), m ∈ layF f l → ∀ x ∈ m, x ∈ l
  | 0, l, m, h => by simp [layF] at h
  | f + 1, l, m, h => by
    rw [layF] at h
    split at h
    · simp at h
    · intro x hx
      rw [List.mem_cons] at h
      rcases h with h | h
      · subst h; exact on_mem hx
      · exact off_mem (lay_mem f (offL l) m h x hx)
/-- the first layer that has a point -/
def lopF (p : Int × Int) : List (List (Int × Int)) → Nat → Int × Bool
  | [], _ => (0, false)
  | m :: t, i => if p ∈ m then ((i : Int) + 1, true) else lopF p t (i + 1)
theorem lop_none {p : Int × Int} : ∀ (LL : List (List (Int × Int))) (i : Nat), (∀ m ∈ LL, p ∉ m) → lopF p LL i = (0, false)
  | [], _, _ => rfl
  | m :: t, i, h => by
    rw [lopF, if_neg (h m (by simp))]
    exact lop_none t (i + 1) fun x hx => h x (List.mem_cons_of_mem _ hx)
theorem lop_at {p : Int × Int} {LL : List (List (Int × Int))} {k : Nat} {m : List (Int × Int)} (h : LL[k]? = some m) : lopF p (LL.drop k) k = if p ∈ m then ((k : Int) + 1, true) else lopF p (LL.drop (k + 1)) (k + 1) := by
  obtain ⟨hk, e⟩ := List.getElem?_eq_some_iff.1 h
  rw [List.drop_eq_getElem_cons hk, e, lopF]
theorem lop_end {p : Int × Int} {LL : List (List (Int × Int))} : lopF p (LL.drop LL.length) LL.length = (0, false) := by
  rw [List.drop_length]; rfl
theorem lay_few : ∀ (f : Nat) (l : List (Int × Int)), (layF f l).length ≤ f
  | 0, _ => by simp [layF]
  | f + 1, l => by
    rw [layF]
    split
    · simp
    · have := lay_few f (offL l)
      simp; omega
theorem lay_len : ∀ (f : Nat) (l m : List (Int × Int)), m ∈ layF f l → m.length ≤ l.length
  | 0, l, m, h => by simp [layF] at h
  | f + 1, l, m, h => by
    rw [layF] at h
    split at h
    · simp at h
    · rw [List.mem_cons] at h
      have hs := srt_len l
      rcases h with h | h
      · subst h
        unfold onL
        have := List.length_filter_le (onF (band l)) (srt l)
        omega
      · have h1 := lay_len f (offL l) m h
        have : (offL l).length ≤ (srt l).length := by unfold offL; exact List.length_filter_le _ _
        omega
theorem lay_ne : ∀ (f : Nat) (l : List (Int × Int)), (0 < l.length → Dif l) → ∀ m ∈ layF f l, 0 < m.length
  | 0, l, _, m, h => by simp [layF] at h
  | f + 1, l, hd, m, h => by
    rw [layF] at h
    split at h
    · simp at h
    · rename_i hne
      have hd := hd (List.length_pos_iff.2 hne)
      rw [List.mem_cons] at h
      rcases h with h | h
      · subst h; exact on_pos hd
      · exact lay_ne f (offL l) (off_dif hd) m h
theorem lay_pos {l : List (Int × Int)} (hd : Dif l) : 0 < (layers l).length := by
  have h1 := hd.few.1
  obtain ⟨f, hf⟩ : ∃ f, l.length = f + 1 := ⟨l.length - 1, by omega⟩
  unfold layers
  rw [hf, layF_cons (by intro e; rw [e] at h1; simp at h1)]
  simp
noncomputable def lvI (l : List (Int × Int)) (p1 p2 : Int) : Int := if difB l = true then (lopF (p1, p2) (layers l) 0).1 else 0
noncomputable def lvB (l : List (Int × Int)) (p1 p2 : Int) : Bool := if difB l = true then (lopF (p1, p2) (layers l) 0).2 else false
theorem lop_out {l : List (Int × Int)} {p : Int × Int} (h : p ∉ l) : lopF p (layers l) 0 = (0, false) := lop_none _ _ fun m hm hp => h (lay_mem _ _ _ hm p hp)
theorem pegs_info : (Try.prog.info? 26).map (fun i => (i.zero, i.size, i.bytes)) = some (some (.slice none 0 0), 1, 24) := by kernel_rfl
theorem info_parts3 {i : Option TypeInfo} {z : Value} {s b : Nat} (h : i.map (fun i => (i.zero, i.size, i.bytes)) = some (some z, s, b)) : ∃ i0, i = some i0 ∧ i0.zero = some z ∧ i0.size = s ∧ i0.bytes = b := by
  cases i with
  | none => simp at h
  | some i0 =>
    simp at h
    exact ⟨i0, rfl, h.1, h.2.1, h.2.2⟩
/-- the row v of slices, number i of them the points of LL's list i, in a row of its own -/
def RowsL (w : World) (base : Nat) (v : Value) (LL : List (List (Int × Int))) (cs : List Value) : Prop :=
  w.ownsRow base 26 1 v LL.length cs ∧ (∀ (i : Nat) (m : List (Int × Int)), LL[i]? = some m → ∃ u, cs[i]? = some u ∧ w.ownsRow base 56 2 u m.length (flat m)) ∧ cs.Pairwise fun u u' => ∀ b b', u.ownBlock = some b → u'.ownBlock = some b' → b < b'
theorem rowsL_nil (w : World) (base : Nat) : RowsL w base (.slice none 0 0) [] [] :=
  ⟨World.ownsRow_nil _ _ _ _, fun i m h => by simp at h, List.Pairwise.nil⟩
theorem rowsL_below {w W : World} {base B : Nat} {v : Value} {LL : List (List (Int × Int))} {cs : List Value} (h : RowsL w base v LL cs) (hb : Below B w W) (hB : w.heap.size ≤ B) : RowsL W base v LL cs :=
  ⟨ownB h.1 hb hB, fun i m hi => by
    obtain ⟨u, h1, h2⟩ := h.2.1 i m hi
    exact ⟨u, h1, ownB h2 hb hB⟩, h.2.2⟩
theorem rowsL_alloc {w : World} {base : Nat} {v : Value} {LL : List (List (Int × Int))} {cs : List Value} (h : RowsL w base v LL cs) (o : Obj) : RowsL (w.alloc o) base v LL cs :=
  ⟨h.1.alloc o, fun i m hi => by
    obtain ⟨u, h1, h2⟩ := h.2.1 i m hi
    exact ⟨u, h1, h2.alloc o⟩, h.2.2⟩
theorem rowsL_base {w : World} {base base' : Nat} {v : Value} {LL : List (List (Int × Int))} {cs : List Value} (h : RowsL w base v LL cs) (hB : base' ≤ base) : RowsL w base' v LL cs :=
  ⟨own_base h.1 hB, fun i m hi => by
    obtain ⟨u, h1, h2⟩ := h.2.1 i m hi
    exact ⟨u, h1, own_base h2 hB⟩, h.2.2⟩
theorem rowsL_lt {w : World} {base : Nat} {v : Value} {LL : List (List (Int × Int))} {cs : List Value} (h : RowsL w base v LL cs) : ∀ u ∈ cs, ∀ b, u.ownBlock = some b → b < w.heap.size := by
  intro u hu b hb
  obtain ⟨i, hi, e⟩ := List.mem_iff_getElem.1 hu
  have hlen : cs.length = LL.length := by have := h.1.1; omega
  obtain ⟨u', h1, h2⟩ := h.2.1 i (LL[i]'(by omega)) (List.getElem?_eq_getElem (by omega))
  rw [List.getElem?_eq_getElem hi, e] at h1
  injection h1 with h1
  subst h1
  exact (World.ownsRow.lt h2 b hb).2
/-- rows of different kinds lie in different blocks -/
theorem own_diff {w : World} {b1 b2 s1 s2 n1 n2 : Nat} {e1 e2 : TypeId} {v1 v2 : Value} {x1 x2 : List Value} (h1 : w.ownsRow b1 e1 s1 v1 n1 x1) (h2 : w.ownsRow b2 e2 s2 v2 n2 x2) (hne : e1 ≠ e2) : v1.ownBlock = none ∨ v1.ownBlock ≠ v2.ownBlock := by
  rcases h1.2 with ⟨rfl, _⟩ | ⟨g, cap, cur, rfl, _, hg, _⟩
  · exact Or.inl rfl
  · rcases h2.2 with ⟨rfl, _⟩ | ⟨g', cap', cur', rfl, _, hg', _⟩
    · exact Or.inr (by simp [Value.ownBlock])
    · refine Or.inr (fun e => ?_)
      simp only [Value.ownBlock, Option.some.injEq] at e
      subst e
      rw [hg] at hg'
      injection hg' with hg'
      injection hg' with _ h _
      exact hne h
theorem rowsL_push {W w' : World} {base : Nat} {v v' u : Value} {LL : List (List (Int × Int))} {m : List (Int × Int)} {cs : List Value} (h : RowsL W base v LL cs) (hu : W.ownsRow base 56 2 u m.length (flat m))
    (hown : w'.ownsRow base 26 1 v' (LL.length + 1) (cs ++ [u])) (hg : W.grownBy w' v.ownBlock) (b0 : Nat) (hlo : ∀ u' ∈ cs, ∀ b, u'.ownBlock = some b → b < b0) (hup : ∀ b, u.ownBlock = some b → b0 ≤ b) : RowsL w' base v' (LL ++ [m]) (cs ++ [u]) := by
  have hlen : cs.length = LL.length := by have := h.1.1; omega
  refine ⟨by rw [List.length_append]; exact hown, fun i m' hi => ?_, List.pairwise_append.2 ⟨h.2.2, List.pairwise_singleton _ _, fun x hx y hy b b' e e' => ?_⟩⟩
  rotate_left
  · rw [List.mem_singleton] at hy
    subst hy
    exact Nat.lt_of_lt_of_le (hlo x hx b e) (hup b' e')
  by_cases hlt : i < LL.length
  · rw [List.getElem?_append_left hlt] at hi
    obtain ⟨u', h1, h2⟩ := h.2.1 i m' hi
    exact ⟨u', by rw [List.getElem?_append_left (by omega)]; exact h1, h2.kept hg (own_diff h2 h.1 (by decide))⟩
  · rw [List.getElem?_append_right (by omega)] at hi
    have h0 : i - LL.length = 0 := by
      rcases Nat.eq_zero_or_pos (i - LL.length) with h | h
      · exact h
      · rw [List.getElem?_eq_none (by simp; omega)] at hi; cases hi
    rw [h0] at hi
    simp at hi
    subst hi
    exact ⟨u, by rw [List.getElem?_append_right (by omega), hlen, h0]; rfl, hu.kept hg (own_diff hu h.1 (by decide))⟩
theorem one_cells {w : World} {g : Nat} {x : Value} (h1 : w.cell? ⟨g, 0, none⟩ = some x) : ∀ j u, [x][j]? = some u → w.cell? ((⟨g, 0, none⟩ : Addr).add j) = some u := by
  intro j u hj
  match j, hj with
  | 0, hj => simp at hj; subst hj; exact h1
theorem one_slice (A : Option Addr) (n c : Nat) : ∀ u ∈ [Value.slice A n c], u.oneCell' = true := by
  intro u hu; simp at hu; subst hu; rfl
/-- layer i, read -/
theorem rowsL_read {w : World} {base g n cap : Nat} {LL : List (List (Int × Int))} {cs : List Value} (h : RowsL w base (.slice (some ⟨g, 0, none⟩) n cap) LL cs) (hn : LL.length = n) (hne : ∀ m ∈ LL, 0 < m.length) (i : Nat) (hi : i < n) :
    ∃ m gi ci, LL[i]? = some m ∧ w.cell? ⟨g, i, none⟩ = some (.slice (some ⟨gi, 0, none⟩) m.length ci) ∧ Rd w w.heap.size (some ⟨gi, 0, none⟩) m ∧ g < w.heap.size := by
  obtain ⟨m, hm⟩ : ∃ m, LL[i]? = some m := ⟨_, List.getElem?_eq_getElem (by omega)⟩
  obtain ⟨u, h1, h2⟩ := h.2.1 i m hm
  obtain ⟨gi, ci, rfl, _, _, hr⟩ := rd_own h2 (hne m (List.mem_of_getElem? hm))
  rw [← hn] at h
  refine ⟨m, gi, ci, hm, ?_, hr, (World.ownsRow.lt h.1 g rfl).2⟩
  rw [World.ownsRow.cellAt h.1 i (by omega)]
  exact h1
end Go.Proofs.Ytheddoinnakneaa
