/- joined: MA La1 Ws0 Wm1 Twx Tyb U2 Sa El Gm -/
import Derived.Test.YtheddoinnakneaaZFlatPolygon3
import Derived.Laws.OwnMore
import Derived.BigRegion
import Derived.OwnWalk
import Derived.Laws.Cover1
/- plain: a point and a band, layers; rows of one's own -/
namespace Go.Proofs.Ytheddoinnakneaa
open Go.ChangeShapes Go.WideShapes Go.ChangeAt Go.RowKit Go.Joins
set_option linter.unusedVariables false
set_option linter.unusedSimpArgs false
set_option maxRecDepth 4000
theorem band_pegs {l : List (Int × Int)} (h : Dif l) : ∀ i, i < (band l).length → isPg (vx (band l) i) = true := by
  intro i hi
  obtain ⟨h0, ha⟩ := around_of (dif_nodup h) h.few.1 (Nat.le_trans h.few.2 (by decide))
  have e1 := ha.same i hi
  have e2 := ha.mem i (by unfold band at hi; omega)
  have e3 : vx (band l) i = pt (MH.hull (srt l)) i := by
    have a := vx_get hi
    have b := pt_get hi
    rw [a] at b
    injection b with b
  rw [e3, ← e1]
  exact dif_pegs h _ e2
theorem band_pos {l : List (Int × Int)} (h : Dif l) : 0 < (band l).length := by
  obtain ⟨h0, ha⟩ := around_of (dif_nodup h) h.few.1 (Nat.le_trans h.few.2 (by decide))
  exact ha.pos
/-- two rows in order with the same points are one -/
theorem sorted_same : ∀ (a b : List (Int × Int)), a.Pairwise lxP → b.Pairwise lxP → (∀ x, x ∈ a ↔ x ∈ b) → a = b
  | [], [], _, _, _ => rfl
  | [], y :: b, _, _, h => absurd ((h y).2 (by simp)) (by simp)
  | x :: a, [], _, _, h => absurd ((h x).1 (by simp)) (by simp)
  | x :: a, y :: b, ha, hb, h => by
    have ha' := List.pairwise_cons.1 ha
    have hb' := List.pairwise_cons.1 hb
    have ir : ∀ z : Int × Int, ¬ lxP z z := fun z => by unfold lxP; omega
    have tr : ∀ p q r : Int × Int, lxP p q → lxP q r → lxP p r := fun p q r => by unfold lxP; omega
    have e : x = y := by
      have h1 := (h x).1 (by simp)
      have h2 := (h y).2 (by simp)
      rw [List.mem_cons] at h1 h2
      rcases h1 with h1 | h1
      · exact h1
      · rcases h2 with h2 | h2
        · exact h2.symm
        · exact absurd (tr _ _ _ (ha'.1 y h2) (hb'.1 x h1)) (ir x)
    subst e
    congr 1
    refine sorted_same a b ha'.2 hb'.2 fun z => ?_
    have hz := h z
    rw [List.mem_cons, List.mem_cons] at hz
    constructor
    · intro hm
      rcases hz.1 (Or.inr hm) with g | g
      · subst g; exact absurd (ha'.1 z hm) (ir z)
      · exact g
    · intro hm
      rcases hz.2 (Or.inr hm) with g | g
      · subst g; exact absurd (hb'.1 z hm) (ir z)
      · exact g
theorem srt_self {s : List (Int × Int)} (h : s.Pairwise lxP) : srt s = s := by
  refine sorted_same _ _ (srt_sorted ?_) h (fun x => srt_mem)
  rw [List.nodup_iff_pairwise_ne]
  refine h.imp fun {a b} hab e => ?_
  subst e
  unfold lxP at hab; omega
theorem dif_list {l : List (Int × Int)} (hn : l.Nodup) (hp : ∀ x ∈ l, isPg x = true) (h1 : 1 ≤ l.length) (h2 : l.length ≤ 30) : Dif l := by
  refine ⟨⟨h1, h2⟩, fun i hi => ⟨hp _ (List.mem_of_getElem? (vx_get hi)), fun j hj e => ?_⟩⟩
  rw [List.nodup_iff_pairwise_ne, List.pairwise_iff_getElem] at hn
  have := hn j i (by omega) hi hj
  have e1 := vx_get hi
  have e2 := vx_get (l := l) (i := j) (by omega)
  rw [List.getElem?_eq_getElem hi] at e1
  rw [List.getElem?_eq_getElem (show j < l.length by omega)] at e2
  injection e1 with e1
  injection e2 with e2
  exact this (by rw [e1, e2, e])
namespace MP
abbrev V := Int × Int
/-- p is on the line from a to b -/
def On (a b p : V) : Prop := MH.tw a b p = 0 ∧ min a.1 b.1 ≤ p.1 ∧ p.1 ≤ max a.1 b.1 ∧ min a.2 b.2 ≤ p.2 ∧ p.2 ≤ max a.2 b.2
def up (c n p : V) : Int := if c.2 ≤ p.2 ∧ p.2 < n.2 ∧ 0 < MH.tw c n p then 1 else 0
def dn (c n p : V) : Int := if n.2 ≤ p.2 ∧ p.2 < c.2 ∧ MH.tw c n p < 0 then 1 else 0
/-- how often the lines go around p -/
def ron (P : Nat → V) (p : V) : Nat → Int
  | 0 => 0
  | k + 1 => ron P p k + up (P k) (P (k + 1)) p - dn (P k) (P (k + 1)) p
theorem key_y (c n a b p : V) : (b.2 - a.2) * MH.tw c n p = (b.2 - p.2) * MH.tw c n a + (p.2 - a.2) * MH.tw c n b + (n.2 - c.2) * MH.tw a b p := by unfold MH.tw; grind
theorem key_x (c n a b p : V) : (b.1 - a.1) * MH.tw c n p = (b.1 - p.1) * MH.tw c n a + (p.1 - a.1) * MH.tw c n b + (n.1 - c.1) * MH.tw a b p := by unfold MH.tw; grind
theorem pos_l {k x : Int} (hk : 0 < k) (h : 0 < k * x) : 0 < x := by
  by_cases hx : 0 < x
  · exact hx
  · exfalso
    have := Int.mul_nonneg (Int.le_of_lt hk) (show 0 ≤ -x by omega)
    rw [Int.mul_neg] at this
    omega
theorem nn_l {k x : Int} (hk : 0 < k) (h : 0 ≤ k * x) : 0 ≤ x := by
  by_cases hx : 0 ≤ x
  · exact hx
  · exfalso
    have := Int.mul_pos hk (show 0 < -x by omega)
    rw [Int.mul_neg] at this
    omega
/-- up with side not greater than 0, another up with side greater than 0: cannot be -/
theorem two_up {c n a b p : V} (hca : 0 ≤ MH.tw c n a) (hcb : 0 ≤ MH.tw c n b) (h1 : c.2 < n.2) (h2 : a.2 ≤ p.2) (h3 : p.2 < b.2) (h4 : 0 < MH.tw a b p) : 0 < MH.tw c n p := by
  have e := key_y c n a b p
  have m1 := Int.mul_nonneg (show 0 ≤ b.2 - p.2 by omega) hca
  have m2 := Int.mul_nonneg (show 0 ≤ p.2 - a.2 by omega) hcb
  have m3 := Int.mul_pos (show 0 < n.2 - c.2 by omega) h4
  exact pos_l (show 0 < b.2 - a.2 by omega) (by omega)
/-- down with side less than 0: any up has side greater than 0 -/
theorem dn_up {c n a b p : V} (hca : 0 ≤ MH.tw c n a) (hcb : 0 ≤ MH.tw c n b) (h1 : c.2 < n.2) (h2 : b.2 ≤ p.2) (h3 : p.2 < a.2) (h4 : MH.tw a b p < 0) : 0 < MH.tw c n p := by
  have e := key_y c n a b p
  have m1 := Int.mul_nonneg (show 0 ≤ p.2 - b.2 by omega) hca
  have m2 := Int.mul_nonneg (show 0 ≤ a.2 - p.2 by omega) hcb
  have m3 := Int.mul_pos (show 0 < n.2 - c.2 by omega) (show 0 < - MH.tw a b p by omega)
  have m4 : (p.2 - b.2) * MH.tw c n a = - ((b.2 - p.2) * MH.tw c n a) := by grind
  have m5 : (a.2 - p.2) * MH.tw c n b = - ((p.2 - a.2) * MH.tw c n b) := by grind
  rw [Int.mul_neg] at m3
  have m6 : (a.2 - b.2) * MH.tw c n p = - ((b.2 - a.2) * MH.tw c n p) := by grind
  exact pos_l (show 0 < a.2 - b.2 by omega) (by omega)
/-- an up with side greater than 0, a down with side not less than 0: p is in -/
theorem both_in {c n a b a' b' p : V} (h1a : 0 ≤ MH.tw c n a) (h1b : 0 ≤ MH.tw c n b) (h2a : 0 ≤ MH.tw c n a') (h2b : 0 ≤ MH.tw c n b') (h2 : a.2 ≤ p.2) (h3 : p.2 < b.2) (h4 : 0 < MH.tw a b p) (g2 : b'.2 ≤ p.2) (g3 : p.2 < a'.2) (g4 : 0 ≤ MH.tw a' b' p) : 0 ≤ MH.tw c n p := by
  by_cases hd : 0 ≤ n.2 - c.2
  · have e := key_y c n a b p
    have m1 := Int.mul_nonneg (show 0 ≤ b.2 - p.2 by omega) h1a
    have m2 := Int.mul_nonneg (show 0 ≤ p.2 - a.2 by omega) h1b
    have m3 := Int.mul_nonneg hd (Int.le_of_lt h4)
    exact nn_l (show 0 < b.2 - a.2 by omega) (by omega)
  · have e := key_y c n a' b' p
    have m1 := Int.mul_nonneg (show 0 ≤ p.2 - b'.2 by omega) h2a
    have m2 := Int.mul_nonneg (show 0 ≤ a'.2 - p.2 by omega) h2b
    have m3 := Int.mul_nonneg (show 0 ≤ c.2 - n.2 by omega) g4
    have m4 : (p.2 - b'.2) * MH.tw c n a' = - ((b'.2 - p.2) * MH.tw c n a') := by grind
    have m5 : (a'.2 - p.2) * MH.tw c n b' = - ((p.2 - a'.2) * MH.tw c n b') := by grind
    have m6 : (a'.2 - b'.2) * MH.tw c n p = - ((b'.2 - a'.2) * MH.tw c n p) := by grind
    have m7 : (c.2 - n.2) * MH.tw a' b' p = - ((n.2 - c.2) * MH.tw a' b' p) := by grind
    exact nn_l (show 0 < a'.2 - b'.2 by omega) (by omega)
def le0 (v p : V) : Int := if v.2 ≤ p.2 then 1 else 0
theorem ron_all {P : Nat → V} {p : V} : ∀ k, (∀ i, i < k → (P i).2 ≤ p.2 → p.2 < (P (i + 1)).2 → 0 < MH.tw (P i) (P (i + 1)) p) → (∀ i, i < k → (P (i + 1)).2 ≤ p.2 → p.2 < (P i).2 → MH.tw (P i) (P (i + 1)) p < 0) → ron P p k = le0 (P 0) p - le0 (P k) p
  | 0, _, _ => by unfold ron; omega
  | k + 1, h1, h2 => by
    have ih := ron_all k (fun i hi => h1 i (by omega)) (fun i hi => h2 i (by omega))
    have a1 := h1 k (by omega)
    have a2 := h2 k (by omega)
    unfold ron
    rw [ih]
    unfold up dn le0
    by_cases x1 : (P k).2 ≤ p.2
    · by_cases x2 : (P (k + 1)).2 ≤ p.2
      · rw [if_neg (c := _ ∧ _) (by omega), if_neg (c := _ ∧ _) (by omega)]; simp only [x1, x2, if_true]; omega
      · have := a1 x1 (by omega)
        rw [if_pos (c := _ ∧ _) ⟨x1, by omega, this⟩, if_neg (c := _ ∧ _) (by omega)]; simp only [x1, x2, if_true, if_false]; omega
    · by_cases x2 : (P (k + 1)).2 ≤ p.2
      · have := a2 x2 (by omega)
        rw [if_neg (c := _ ∧ _) (by omega), if_pos (c := _ ∧ _) ⟨x2, by omega, this⟩]; simp only [x1, x2, if_true, if_false]; omega
      · rw [if_neg (c := _ ∧ _) (by omega), if_neg (c := _ ∧ _) (by omega)]; simp only [x1, x2, if_false]; omega
theorem ron_nil {P : Nat → V} {p : V} : ∀ k, (∀ i, i < k → up (P i) (P (i + 1)) p = 0) → (∀ i, i < k → dn (P i) (P (i + 1)) p = 0) → ron P p k = 0
  | 0, _, _ => rfl
  | k + 1, h1, h2 => by
    unfold ron
    rw [ron_nil k (fun i hi => h1 i (by omega)) (fun i hi => h2 i (by omega)), h1 k (by omega), h2 k (by omega)]
    rfl
theorem up_cases (c n p : V) : up c n p = 0 ∨ (up c n p = 1 ∧ c.2 ≤ p.2 ∧ p.2 < n.2 ∧ 0 < MH.tw c n p) := by
  unfold up; split
  · rename_i h; exact Or.inr ⟨rfl, h⟩
  · exact Or.inl rfl
theorem dn_cases (c n p : V) : dn c n p = 0 ∨ (dn c n p = 1 ∧ n.2 ≤ p.2 ∧ p.2 < c.2 ∧ MH.tw c n p < 0) := by
  unfold dn; split
  · rename_i h; exact Or.inr ⟨rfl, h⟩
  · exact Or.inl rfl
theorem ron_pos {P : Nat → V} {p : V} : ∀ k, (∀ i, i < k → dn (P i) (P (i + 1)) p = 0) → 0 ≤ ron P p k ∧ ((∃ i, i < k ∧ up (P i) (P (i + 1)) p = 1) → 0 < ron P p k)
  | 0, _ => ⟨Int.le_refl _, fun ⟨i, h, _⟩ => absurd h (Nat.not_lt_zero _)⟩
  | k + 1, h => by
    obtain ⟨a1, a2⟩ := ron_pos k (fun i hi => h i (by omega))
    have b := h k (by omega)
    have c := up_cases (P k) (P (k + 1)) p
    unfold ron
    rw [b]
    refine ⟨by omega, fun ⟨i, hi, e⟩ => ?_⟩
    by_cases hk : i = k
    · subst hk; omega
    · have := a2 ⟨i, by omega, e⟩; omega
/-- outside: the lines go around it not at all -/
theorem ron_out {P : Nat → V} {p : V} {m : Nat} (hper : P m = P 0) (hl : ∀ i j, i < m → j ≤ m → 0 ≤ MH.tw (P i) (P (i + 1)) (P j)) (hout : ∃ j, j < m ∧ MH.tw (P j) (P (j + 1)) p < 0) : ron P p m = 0 := by
  obtain ⟨j, hj, hneg⟩ := hout
  by_cases hU : ∃ i, i < m ∧ (P i).2 ≤ p.2 ∧ p.2 < (P (i + 1)).2 ∧ 0 < MH.tw (P i) (P (i + 1)) p
  · obtain ⟨i, hi, x1, x2, x3⟩ := hU
    have h := ron_all (P := P) (p := p) m
      (fun k hk y1 y2 => two_up (hl k i hk (by omega)) (hl k (i + 1) hk (by omega)) (by omega) x1 x2 x3)
      (fun k hk y1 y2 => by
        by_cases hz : MH.tw (P k) (P (k + 1)) p < 0
        · exact hz
        · have := both_in (p := p) (hl j i hj (by omega)) (hl j (i + 1) hj (by omega)) (hl j k hj (by omega)) (hl j (k + 1) hj (by omega)) x1 x2 x3 y1 y2 (by omega)
          omega)
    rw [h, hper]; omega
  · have hD : ¬ ∃ i, i < m ∧ (P (i + 1)).2 ≤ p.2 ∧ p.2 < (P i).2 ∧ MH.tw (P i) (P (i + 1)) p < 0 := by
      rintro ⟨i, hi, x1, x2, x3⟩
      have hnu : ∀ k, k < m → ¬ ((P k).2 ≤ p.2 ∧ p.2 < (P (k + 1)).2) := fun k hk ⟨y1, y2⟩ => hU ⟨k, hk, y1, y2, dn_up (hl k i hk (by omega)) (hl k (i + 1) hk (by omega)) (by omega) x1 x2 x3⟩
      have h1 : ∀ k, k ≤ m - (i + 1) → (P (i + 1 + k)).2 ≤ p.2 := by
        intro k
        induction k with
        | zero => intro _; exact x1
        | succ k ih =>
          intro hk
          have := hnu (i + 1 + k) (by omega)
          have := ih (by omega)
          rw [show i + 1 + (k + 1) = i + 1 + k + 1 by omega]
          omega
      have h2 := h1 (m - (i + 1)) (Nat.le_refl _)
      rw [show i + 1 + (m - (i + 1)) = m by omega, hper] at h2
      have h3 : ∀ k, k ≤ i → (P k).2 ≤ p.2 := by
        intro k
        induction k with
        | zero => intro _; exact h2
        | succ k ih =>
          intro hk
          have := hnu k (by omega)
          have := ih (by omega)
          omega
      have := h3 i (Nat.le_refl _)
      omega
    refine ron_nil m (fun i hi => ?_) (fun i hi => ?_)
    · rcases up_cases (P i) (P (i + 1)) p with h | ⟨_, h⟩
      · exact h
      · exact absurd ⟨i, hi, h⟩ hU
    · rcases dn_cases (P i) (P (i + 1)) p with h | ⟨_, h⟩
      · exact h
      · exact absurd ⟨i, hi, h⟩ hD
/-- a least one -/
theorem least_of {le : V → V → Prop} (tot : ∀ a b, le a b ∨ le b a) (tr : ∀ a b c, le a b → le b c → le a c) (P : Nat → V) : ∀ m, 0 < m → ∃ k, k < m ∧ ∀ j, j < m → le (P k) (P j)
  | 0, h => absurd h (Nat.lt_irrefl _)
  | 1, _ => ⟨0, by omega, fun j hj => by
      have : j = 0 := by omega
      subst this
      rcases tot (P 0) (P 0) with h | h <;> exact h⟩
  | m + 2, _ => by
    obtain ⟨k, hk, h⟩ := least_of tot tr P (m + 1) (by omega)
    rcases tot (P k) (P (m + 1)) with g | g
    · exact ⟨k, by omega, fun j hj => by
        by_cases e : j = m + 1
        · subst e; exact g
        · exact h j (by omega)⟩
    · exact ⟨m + 1, by omega, fun j hj => by
        by_cases e : j = m + 1
        · subst e; rcases tot (P (m + 1)) (P (m + 1)) with h | h <;> exact h
        · exact tr _ _ _ g (h j (by omega))⟩
theorem step_up {P : Nat → V} {y : Int} : ∀ (n a : Nat), (P a).2 ≤ y → y < (P (a + n)).2 → ∃ i, a ≤ i ∧ i < a + n ∧ (P i).2 ≤ y ∧ y < (P (i + 1)).2
  | 0, a, h1, h2 => by rw [Nat.add_zero] at h2; omega
  | n + 1, a, h1, h2 => by
    by_cases h : (P (a + n)).2 ≤ y
    · exact ⟨a + n, by omega, by omega, h, h2⟩
    · obtain ⟨i, g1, g2, g3⟩ := step_up n a h1 (by omega)
      exact ⟨i, g1, by omega, g3⟩
/-- a polygon that turns left at each corner, told around and around -/
structure Cvx (P : Nat → V) (m : Nat) : Prop where
  pos : 0 < m
  per : ∀ i, P (i + m) = P i
  left : ∀ i j, 0 ≤ MH.tw (P i) (P (i + 1)) (P j)
  turn : ∀ i, 0 < MH.tw (P i) (P (i + 1)) (P (i + 2))
theorem Cvx.red {P : Nat → V} {m : Nat} (h : Cvx P m) : ∀ (n : Nat) (i : Nat), i < n → ∃ j, j < m ∧ P i = P j ∧ P (i + 1) = P (j + 1)
  | 0, i, hi => absurd hi (Nat.not_lt_zero _)
  | n + 1, i, hi => by
    by_cases g : i < m
    · exact ⟨i, g, rfl, rfl⟩
    · have := h.pos
      obtain ⟨j, hj, e1, e2⟩ := h.red n (i - m) (by omega)
      have p1 := h.per (i - m)
      have p2 := h.per (i - m + 1)
      rw [show i - m + m = i by omega] at p1
      rw [show i - m + 1 + m = i + 1 by omega] at p2
      exact ⟨j, hj, p1.trans e1, p2.trans e2⟩
theorem vec (u v w p : V) : MH.tw u v w * (p.2 - v.2) = MH.tw u v p * (w.2 - v.2) - MH.tw v w p * (v.2 - u.2) := by unfold MH.tw; grind
/-- inside and on no line: some line goes up past it -/
theorem some_up {P : Nat → V} {p : V} {m : Nat} (h : Cvx P m) (hin : ∀ i, 0 ≤ MH.tw (P i) (P (i + 1)) p) (hno : ∀ i, ¬ On (P i) (P (i + 1)) p) : ∃ i, (P i).2 ≤ p.2 ∧ p.2 < (P (i + 1)).2 := by
  have hm := h.pos
  by_cases hlow : ∃ a, (P a).2 ≤ p.2
  · obtain ⟨a, ha⟩ := hlow
    by_cases hhi : ∃ b, p.2 < (P b).2
    · obtain ⟨b, hb⟩ := hhi
      obtain ⟨c, hc, hcb⟩ : ∃ c, a ≤ c ∧ P c = P b := by
        have : ∀ n, P (b + n * m) = P b := by
          intro n
          induction n with
          | zero => rw [Nat.zero_mul, Nat.add_zero]
          | succ n ih => rw [Nat.succ_mul, ← Nat.add_assoc, h.per, ih]
        refine ⟨b + a * m, ?_, this a⟩
        have := Nat.le_mul_of_pos_right a hm
        omega
      obtain ⟨i, _, _, g⟩ := step_up (P := P) (c - a) a ha (by rw [show a + (c - a) = c by omega, hcb]; exact hb)
      exact ⟨i, g⟩
    · exfalso
      obtain ⟨k, hk, hle⟩ := least_of (le := fun u v => v.2 < u.2 ∨ (v.2 = u.2 ∧ v.1 ≤ u.1)) (fun a b => by omega) (fun a b c => by omega) P m hm
      have hle2 : ∀ j, (P j).2 < (P k).2 ∨ ((P j).2 = (P k).2 ∧ (P j).1 ≤ (P k).1) := fun j => by
        obtain ⟨j', hj', e, _⟩ := h.red (j + 1) j (by omega)
        rw [e]; exact hle j' hj'
      obtain ⟨i, hi⟩ : ∃ i, P (i + 1) = P k := ⟨k + m - 1, by rw [show k + m - 1 + 1 = k + m by omega, h.per]⟩
      have hpk : (P k).2 ≤ p.2 := Int.not_lt.1 fun g => hhi ⟨k, g⟩
      rw [← hi] at hle2 hpk
      have t := h.turn i
      have t2 := h.turn (i + 1)
      have a1 := hin i
      have a2 := hin (i + 1)
      have a3 := hin (i + 2)
      have n1 := hno i
      have n2 := hno (i + 1)
      have l1 := hle2 i
      have l2 := hle2 (i + 2)
      have l3 := hle2 (i + 3)
      rw [show i + 1 + 1 = i + 2 by omega] at a2 n2 t2
      rw [show i + 1 + 2 = i + 3 by omega] at t2
      rw [show i + 2 + 1 = i + 3 by omega] at a3
      generalize P i = u at *
      generalize P (i + 1) = v at *
      generalize P (i + 2) = w at *
      generalize P (i + 3) = x at *
      have e := vec u v w p
      have m1 := Int.mul_nonneg a1 (show 0 ≤ v.2 - w.2 by omega)
      have m2 := Int.mul_nonneg a2 (show 0 ≤ v.2 - u.2 by omega)
      have m3 : MH.tw u v p * (w.2 - v.2) = - (MH.tw u v p * (v.2 - w.2)) := by grind
      have hq : p.2 = v.2 := by
        by_cases hq : p.2 = v.2
        · exact hq
        · have := Int.mul_pos t (show 0 < p.2 - v.2 by omega)
          omega
      have hq0 : p.2 - v.2 = 0 := by omega
      rw [hq0, Int.mul_zero] at e
      have hb0 : MH.tw v w p * (v.2 - u.2) = 0 := by omega
      have hd1 : 0 < v.2 - u.2 := by
        by_cases g : 0 < v.2 - u.2
        · exact g
        · exfalso
          have g2 : v.2 - u.2 = 0 := by omega
          unfold MH.tw at t
          rw [g2, Int.zero_mul] at t
          have e2 : u.2 = v.2 := by omega
          rw [e2] at t
          have := Int.mul_nonneg (show 0 ≤ v.1 - u.1 by omega) (show 0 ≤ v.2 - w.2 by omega)
          have e3 : (v.1 - u.1) * (w.2 - v.2) = - ((v.1 - u.1) * (v.2 - w.2)) := by grind
          omega
      have hb : MH.tw v w p = 0 := by
        rcases Int.mul_eq_zero.1 hb0 with g | g
        · exact g
        · omega
      have hqx : p.1 ≤ v.1 := by
        have e4 : MH.tw u v p = (v.2 - u.2) * (v.1 - p.1) := by unfold MH.tw; rw [hq]; grind
        rw [e4] at a1
        have := nn_l hd1 a1
        omega
      have e5 : MH.tw v w p = (v.2 - w.2) * (p.1 - v.1) := by unfold MH.tw; rw [hq]; grind
      rw [e5] at hb
      rcases Int.mul_eq_zero.1 hb with g | g
      · have hx3 : x.2 < w.2 := by
          have e6 : MH.tw v w x = (v.1 - w.1) * (w.2 - x.2) := by unfold MH.tw; have : v.2 = w.2 := by omega
                                                                  rw [this]; grind
          rw [e6] at t2
          by_cases g3 : x.2 < w.2
          · exact g3
          · exfalso
            have := Int.mul_nonneg (show 0 ≤ v.1 - w.1 by omega) (show 0 ≤ x.2 - w.2 by omega)
            have e7 : (v.1 - w.1) * (x.2 - w.2) = - ((v.1 - w.1) * (w.2 - x.2)) := by grind
            omega
        have e8 : MH.tw w x p = (w.2 - x.2) * (p.1 - w.1) := by unfold MH.tw; have : p.2 = w.2 := by omega
                                                                rw [this]; grind
        rw [e8] at a3
        have := nn_l (show 0 < w.2 - x.2 by omega) a3
        exact n2 ⟨by rw [e5]; exact hb, by omega, by omega, by omega, by omega⟩
      · refine n1 ⟨?_, by omega, by omega, by omega, by omega⟩
        have e4 : MH.tw u v p = (v.2 - u.2) * (v.1 - p.1) := by unfold MH.tw; rw [hq]; grind
        rw [e4, show v.1 - p.1 = 0 by omega, Int.mul_zero]
  · exfalso
    obtain ⟨k, hk, hle⟩ := least_of (le := fun u v => u.2 ≤ v.2) (fun a b => by omega) (fun a b c => by omega) P m hm
    have hle2 : ∀ j, (P k).2 ≤ (P j).2 := fun j => by
      obtain ⟨j', hj', e, _⟩ := h.red (j + 1) j (by omega)
      rw [e]; exact hle j' hj'
    obtain ⟨i, hi⟩ : ∃ i, P (i + 1) = P k := ⟨k + m - 1, by rw [show k + m - 1 + 1 = k + m by omega, h.per]⟩
    have hpk : p.2 < (P k).2 := Int.not_le.1 fun g => hlow ⟨k, g⟩
    rw [← hi] at hle2 hpk
    have t := h.turn i
    have a1 := hin i
    have a2 := hin (i + 1)
    have l1 := hle2 i
    have l2 := hle2 (i + 2)
    rw [show i + 1 + 1 = i + 2 by omega] at a2
    have e := vec (P i) (P (i + 1)) (P (i + 2)) p
    have m1 := Int.mul_nonneg a1 (show 0 ≤ (P (i + 2)).2 - (P (i + 1)).2 by omega)
    have m2 := Int.mul_nonneg a2 (show 0 ≤ (P i).2 - (P (i + 1)).2 by omega)
    have m3 : MH.tw (P (i + 1)) (P (i + 2)) p * ((P (i + 1)).2 - (P i).2) = - (MH.tw (P (i + 1)) (P (i + 2)) p * ((P i).2 - (P (i + 1)).2)) := by grind
    have m4 := Int.mul_pos t (show 0 < (P (i + 1)).2 - p.2 by omega)
    have m5 : MH.tw (P i) (P (i + 1)) (P (i + 2)) * (p.2 - (P (i + 1)).2) = - (MH.tw (P i) (P (i + 1)) (P (i + 2)) * ((P (i + 1)).2 - p.2)) := by grind
    omega
theorem on_of {a b p : V} (h1 : a.2 ≤ p.2) (h2 : p.2 < b.2) (h : MH.tw a b p = 0) : On a b p := by
  refine ⟨h, ?_, ?_, by omega, by omega⟩
  · have e1 : (b.2 - a.2) * (p.1 - a.1) = (b.1 - a.1) * (p.2 - a.2) := by unfold MH.tw at h; grind
    have e2 : (b.2 - a.2) * (b.1 - p.1) = (b.1 - a.1) * (b.2 - p.2) := by unfold MH.tw at h; grind
    by_cases g : 0 ≤ b.1 - a.1
    · have := nn_l (show 0 < b.2 - a.2 by omega) (by rw [e1]; exact Int.mul_nonneg g (by omega))
      omega
    · have m := Int.mul_nonneg (show 0 ≤ a.1 - b.1 by omega) (show 0 ≤ b.2 - p.2 by omega)
      have e3 : (b.2 - a.2) * (p.1 - b.1) = (a.1 - b.1) * (b.2 - p.2) := by grind
      have := nn_l (show 0 < b.2 - a.2 by omega) (by rw [e3]; exact m)
      omega
  · have e1 : (b.2 - a.2) * (p.1 - a.1) = (b.1 - a.1) * (p.2 - a.2) := by unfold MH.tw at h; grind
    have e2 : (b.2 - a.2) * (b.1 - p.1) = (b.1 - a.1) * (b.2 - p.2) := by unfold MH.tw at h; grind
    by_cases g : 0 ≤ b.1 - a.1
    · have := nn_l (show 0 < b.2 - a.2 by omega) (by rw [e2]; exact Int.mul_nonneg g (by omega))
      omega
    · have m := Int.mul_nonneg (show 0 ≤ a.1 - b.1 by omega) (show 0 ≤ p.2 - a.2 by omega)
      have e3 : (b.2 - a.2) * (a.1 - p.1) = (a.1 - b.1) * (p.2 - a.2) := by grind
      have := nn_l (show 0 < b.2 - a.2 by omega) (by rw [e3]; exact m)
      omega
/-- on a line of it: not outside -/
theorem on_in {c n a b p : V} (ha : 0 ≤ MH.tw c n a) (hb : 0 ≤ MH.tw c n b) (h : On a b p) : 0 ≤ MH.tw c n p := by
  obtain ⟨h0, h1, h2, h3, h4⟩ := h
  have ex := key_x c n a b p
  have ey := key_y c n a b p
  rw [h0, Int.mul_zero, Int.add_zero] at ex ey
  by_cases gx : a.1 = b.1
  · by_cases gy : a.2 = b.2
    · have : p = a := Prod.ext (by omega) (by omega)
      rw [this]; exact ha
    · by_cases g : a.2 < b.2
      · have m1 := Int.mul_nonneg (show 0 ≤ b.2 - p.2 by omega) ha
        have m2 := Int.mul_nonneg (show 0 ≤ p.2 - a.2 by omega) hb
        exact nn_l (show 0 < b.2 - a.2 by omega) (by omega)
      · have m1 := Int.mul_nonneg (show 0 ≤ p.2 - b.2 by omega) ha
        have m2 := Int.mul_nonneg (show 0 ≤ a.2 - p.2 by omega) hb
        have e1 : (p.2 - b.2) * MH.tw c n a = - ((b.2 - p.2) * MH.tw c n a) := by grind
        have e2 : (a.2 - p.2) * MH.tw c n b = - ((p.2 - a.2) * MH.tw c n b) := by grind
        have e3 : (a.2 - b.2) * MH.tw c n p = - ((b.2 - a.2) * MH.tw c n p) := by grind
        exact nn_l (show 0 < a.2 - b.2 by omega) (by omega)
  · by_cases g : a.1 < b.1
    · have m1 := Int.mul_nonneg (show 0 ≤ b.1 - p.1 by omega) ha
      have m2 := Int.mul_nonneg (show 0 ≤ p.1 - a.1 by omega) hb
      exact nn_l (show 0 < b.1 - a.1 by omega) (by omega)
    · have m1 := Int.mul_nonneg (show 0 ≤ p.1 - b.1 by omega) ha
      have m2 := Int.mul_nonneg (show 0 ≤ a.1 - p.1 by omega) hb
      have e1 : (p.1 - b.1) * MH.tw c n a = - ((b.1 - p.1) * MH.tw c n a) := by grind
      have e2 : (a.1 - p.1) * MH.tw c n b = - ((p.1 - a.1) * MH.tw c n b) := by grind
      have e3 : (a.1 - b.1) * MH.tw c n p = - ((b.1 - a.1) * MH.tw c n p) := by grind
      exact nn_l (show 0 < a.1 - b.1 by omega) (by omega)
/-- WHAT THE ROUNDS TELL, for a point on no line of the band -/
theorem ron_iff {P : Nat → V} {p : V} {m : Nat} (h : Cvx P m) (hno : ∀ i, i < m → ¬ On (P i) (P (i + 1)) p) : ron P p m ≠ 0 ↔ ∀ i, i < m → 0 ≤ MH.tw (P i) (P (i + 1)) p := by
  constructor
  · intro hr i hi
    by_cases g : 0 ≤ MH.tw (P i) (P (i + 1)) p
    · exact g
    · exfalso
      refine hr (ron_out ?_ (fun i j _ _ => h.left i j) ⟨i, hi, by omega⟩)
      have := h.per 0
      rwa [Nat.zero_add] at this
  · intro hin
    have hin2 : ∀ i, 0 ≤ MH.tw (P i) (P (i + 1)) p := fun i => by
      obtain ⟨j, hj, e1, e2⟩ := h.red (i + 1) i (by omega)
      rw [e1, e2]; exact hin j hj
    have hno2 : ∀ i, ¬ On (P i) (P (i + 1)) p := fun i => by
      obtain ⟨j, hj, e1, e2⟩ := h.red (i + 1) i (by omega)
      rw [e1, e2]; exact hno j hj
    obtain ⟨i0, g1, g2⟩ := some_up h hin2 hno2
    obtain ⟨i, hi, e1, e2⟩ := h.red (i0 + 1) i0 (by omega)
    rw [e1] at g1
    rw [e2] at g2
    have hp := (ron_pos (P := P) (p := p) m (fun k hk => by
      rcases dn_cases (P k) (P (k + 1)) p with g | ⟨_, _, _, g⟩
      · exact g
      · have := hin k hk; omega)).2 ⟨i, hi, by
        rcases up_cases (P i) (P (i + 1)) p with g | ⟨g, _⟩
        · exfalso
          have t := hin i hi
          have t0 : MH.tw (P i) (P (i + 1)) p ≠ 0 := fun z => hno i hi (on_of g1 g2 z)
          unfold up at g
          rw [if_pos ⟨g1, g2, by omega⟩] at g
          omega
        · exact g⟩
    omega
end MP
namespace MP
theorem nxt_one {s : List V} {f b b' : V} (h : MH.Nxt s f b) (h' : MH.Nxt s f b') : b = b' := by
  have x1 := h.2.2 b' h'.1
  have x2 := h'.2.2 b h.1
  have e : MH.tw f b' b = - MH.tw f b b' := by unfold MH.tw; grind
  unfold MH.Nx at x1 x2
  rcases x1 with x1 | ⟨y1, x1 | x1⟩
  · rcases x2 with x2 | ⟨y2, x2⟩ <;> omega
  · exact x1.symm
  · rcases x2 with x2 | ⟨y2, x2 | x2⟩
    · omega
    · exact x2
    · omega
theorem nx_nn {f b p : V} (h : MH.Nx f b p) : 0 ≤ MH.tw f b p := by unfold MH.Nx at h; omega
/-- of three on a line, told one after the other, the first one is not between both others -/
theorem no_mid {z a b c : V} (hab : a ≠ b) (hac : a ≠ c) (h1 : MH.tw a b c = 0) (h2 : MH.sq c a < MH.sq b a) (h3 : MH.sq a b < MH.sq c b) (n1 : MH.Nx z a b) (n2 : MH.Nx z a c) (hG : 0 < MH.sq c a) : False := by
  obtain ⟨D, hD⟩ : ∃ D, D = (b.1 - a.1) * (c.1 - a.1) + (b.2 - a.2) * (c.2 - a.2) := ⟨_, rfl⟩
  obtain ⟨G, hGe⟩ : ∃ G, G = MH.sq c a := ⟨_, rfl⟩
  obtain ⟨B, hBe⟩ : ∃ B, B = MH.sq b a := ⟨_, rfl⟩
  have e1 : MH.sq c b = G + B - 2 * D := by rw [hGe, hBe, hD]; unfold MH.sq; grind
  have e2 : MH.sq a b = B := by rw [hBe]; unfold MH.sq; grind
  have e3 : D * D = B * G := by rw [hGe, hBe, hD]; unfold MH.sq; unfold MH.tw at h1; grind
  have b1 : G * (b.1 - a.1) = D * (c.1 - a.1) := by rw [hGe, hD]; unfold MH.sq; unfold MH.tw at h1; grind
  have b2 : G * (b.2 - a.2) = D * (c.2 - a.2) := by rw [hGe, hD]; unfold MH.sq; unfold MH.tw at h1; grind
  rw [e1, e2] at h3
  rw [← hGe, ← hBe] at h2
  rw [← hGe] at hG
  have hDn : D < 0 := by
    by_cases g : D < 0
    · exact g
    · exfalso
      have m1 := Int.mul_le_mul (show 2 * D ≤ G by omega) (show 2 * D ≤ G by omega) (show 0 ≤ 2 * D by omega) (by omega)
      have m2 := Int.mul_pos hG (show 0 < B - G by omega)
      have e4 : 2 * D * (2 * D) = 4 * (D * D) := by grind
      have e5 : G * (B - G) = B * G - G * G := by grind
      have m3 := Int.mul_pos hG hG
      omega
  have t1 := nx_nn n1
  have t2 := nx_nn n2
  have e6 : G * MH.tw z a b + (-D) * MH.tw z a c = 0 := by
    have : G * MH.tw z a b + (-D) * MH.tw z a c = (a.1 - z.1) * (G * (b.2 - a.2) - D * (c.2 - a.2)) - (a.2 - z.2) * (G * (b.1 - a.1) - D * (c.1 - a.1)) := by unfold MH.tw; grind
    rw [this, b1, b2]; omega
  have m1 := Int.mul_nonneg (Int.le_of_lt hG) t1
  have m2 := Int.mul_nonneg (show 0 ≤ -D by omega) t2
  have z1 : MH.tw z a b = 0 := by
    rcases Int.mul_eq_zero.1 (show G * MH.tw z a b = 0 by omega) with g | g
    · omega
    · exact g
  have z2 : MH.tw z a c = 0 := by
    rcases Int.mul_eq_zero.1 (show (-D) * MH.tw z a c = 0 by omega) with g | g
    · omega
    · exact g
  have s1 : MH.sq b z < MH.sq a z := by
    rcases n1 with g | ⟨_, g | g⟩
    · omega
    · exact absurd g.symm hab
    · exact g
  have s2 : MH.sq c z < MH.sq a z := by
    rcases n2 with g | ⟨_, g | g⟩
    · omega
    · exact absurd g.symm hac
    · exact g
  have e7 : G * (MH.sq b z - MH.sq a z) + (-D) * (MH.sq c z - MH.sq a z) = G * B + (-D) * G := by
    have : G * (MH.sq b z - MH.sq a z) + (-D) * (MH.sq c z - MH.sq a z) = G * MH.sq b a + (-D) * MH.sq c a + 2 * (a.1 - z.1) * (G * (b.1 - a.1) - D * (c.1 - a.1)) + 2 * (a.2 - z.2) * (G * (b.2 - a.2) - D * (c.2 - a.2)) := by unfold MH.sq; grind
    rw [this, b1, b2, ← hGe, ← hBe]; grind
  have m3 := Int.mul_pos hG (show 0 < -(MH.sq b z - MH.sq a z) by omega)
  have m4 := Int.mul_pos (show 0 < -D by omega) (show 0 < -(MH.sq c z - MH.sq a z) by omega)
  have m5 := Int.mul_pos hG (show 0 < B by omega)
  have m6 := Int.mul_pos (show 0 < -D by omega) hG
  rw [Int.mul_neg] at m3 m4
  omega
theorem per_mul {P : Nat → V} {m : Nat} (hper : ∀ i, P (i + m) = P i) (i : Nat) : ∀ n, P (i + n * m) = P i
  | 0 => by rw [Nat.zero_mul, Nat.add_zero]
  | n + 1 => by rw [Nat.succ_mul, ← Nat.add_assoc, hper, per_mul hper i n]
theorem no_back {s : List V} {P : Nat → V} {m : Nat} (h3 : 3 ≤ m) (hper : ∀ i, P (i + m) = P i) (hn : ∀ i, MH.Nxt s (P i) (P (i + 1))) (h0 : P 2 ≠ P 0) (i : Nat) : P i ≠ P (i + 2) := by
  intro e
  have h : ∀ n, P (i + n) = P (i + n + 2) := by
    intro n
    induction n with
    | zero => exact e
    | succ n ih =>
      have x1 := hn (i + n)
      have x2 := hn (i + n + 2)
      rw [← ih] at x2
      have := nxt_one x1 x2
      rw [show i + (n + 1) = i + n + 1 by omega, show i + n + 1 + 2 = i + n + 2 + 1 by omega]
      exact this
  have hi := Nat.le_mul_of_pos_right i (show 0 < m by omega)
  have g := h (i * m - i)
  rw [show i + (i * m - i) = 0 + i * m by omega, per_mul hper, show 0 + i * m + 2 = 2 + i * m by omega, per_mul hper] at g
  exact h0 g.symm
theorem cvx_of {s : List V} {P : Nat → V} {m : Nat} (h3 : 3 ≤ m) (hper : ∀ i, P (i + m) = P i) (hn : ∀ i, MH.Nxt s (P i) (P (i + 1))) (hm : ∀ i, P i ∈ s) (h0 : P 2 ≠ P 0) : Cvx P m where
  pos := by omega
  per := hper
  left i j := nx_nn ((hn i).2.2 _ (hm j))
  turn i := by
    have t := nx_nn ((hn i).2.2 _ (hm (i + 2)))
    by_cases g : MH.tw (P i) (P (i + 1)) (P (i + 2)) = 0
    · exfalso
      have hac := no_back h3 hper hn h0 i
      have hbc := (hn (i + 1)).2.1
      have x1 := (hn i).2.2 _ (hm (i + 2))
      have x2 := (hn (i + 1)).2.2 _ (hm i)
      have e : MH.tw (P (i + 1)) (P (i + 1 + 1)) (P i) = MH.tw (P i) (P (i + 1)) (P (i + 2)) := by
        rw [show i + 1 + 1 = i + 2 by omega]; unfold MH.tw; grind
      rw [show i + 1 + 1 = i + 2 by omega] at hbc x2 e
      have y1 : MH.sq (P (i + 2)) (P i) < MH.sq (P (i + 1)) (P i) := by
        rcases x1 with x | ⟨_, x | x⟩
        · omega
        · exact absurd x.symm hbc
        · exact x
      have y2 : MH.sq (P i) (P (i + 1)) < MH.sq (P (i + 2)) (P (i + 1)) := by
        rcases x2 with x | ⟨_, x | x⟩
        · omega
        · exact absurd x hac
        · exact x
      have ez : P (i + m - 1 + 1) = P i := by rw [show i + m - 1 + 1 = i + m by omega, hper]
      have w := hn (i + m - 1)
      rw [ez] at w
      exact no_mid (hn i).2.1 hac g y1 y2 (w.2.2 _ (hm (i + 1))) (w.2.2 _ (hm (i + 2))) (MH.sq_pos hac)
    · omega
end MP
theorem rd_own {w : World} {base : Nat} {v : Value} {m : List (Int × Int)} (h : w.ownsRow base 56 2 v m.length (flat m)) (hm : 0 < m.length) : ∃ g cap, v = .slice (some ⟨g, 0, none⟩) m.length cap ∧ m.length ≤ cap ∧ cap ≤ maxLen ∧ Rd w w.heap.size (some ⟨g, 0, none⟩) m := by
  rcases own_val h with ⟨_, h0⟩ | ⟨g, cap, rfl, h1, h2, hg1, hg2⟩
  · omega
  · refine ⟨g, cap, rfl, h1, h2, fun _ => ⟨g, 0, rfl, hg2, fun i p hp => ?_⟩⟩
    have hi : i < m.length := (List.getElem?_eq_some_iff.1 hp).1
    have hq := own_pt h rfl i hi
    have e := pt_get hi
    rw [hp] at e
    injection e with e
    subst e
    rw [Nat.zero_add]
    exact hq
theorem vx_addn (l : List (Int × Int)) (i : Nat) : vx l (i + l.length) = vx l i := by unfold vx; rw [Nat.add_mod_right]
theorem vx_pt {l : List (Int × Int)} {i : Nat} (h : i < l.length) : vx l i = pt l i := by
  have a := vx_get h
  have b := pt_get h
  rw [a] at b
  injection b with b
/-- a band of three corners or more turns left -/
theorem band_cvx {l : List (Int × Int)} (hd : Dif l) (h3 : 3 ≤ (band l).length) : MP.Cvx (vx (band l)) (band l).length := by
  have hs := srt_sorted (dif_nodup hd)
  have hl := srt_len l
  obtain ⟨h0, h1, t, es⟩ : ∃ h0 h1 t, srt l = h0 :: h1 :: t := by
    cases h : srt l with
    | nil => rw [h] at hl; have := hd.few.1; simp at hl; omega
    | cons a t =>
      cases t with
      | nil =>
        exfalso
        unfold band at h3
        rw [h] at h3
        simp [MH.hull] at h3
      | cons b t => exact ⟨a, b, t, rfl⟩
  obtain ⟨R, eH, hR, hP⟩ := MH.hull_ok (s := srt l) (es ▸ hs) es
  have eB : band l = h0 :: R := eH
  generalize hm : (band l).length = m at *
  have hmR : R.length + 1 = m := by rw [← hm, eB]; rfl
  have hget : ∀ i, i ≤ m → (h0 :: R ++ [h0])[i]? = some (vx (band l) i) := by
    intro i hi
    by_cases h : i < m
    · rw [List.getElem?_append_left (by simp; omega), ← eB]
      exact vx_get (by omega)
    · have e : i = m := by omega
      subst e
      rw [List.getElem?_append_right (by simp; omega)]
      have e2 : vx (band l) i = vx (band l) 0 := by
        have := vx_addn (band l) 0
        rw [hm, Nat.zero_add] at this
        exact this
      rw [e2]
      have e3 := vx_get (l := band l) (i := 0) (by omega)
      rw [show i - (h0 :: R).length = 0 by simp; omega]
      have e4 : (h0 :: R)[0]? = some (vx (band l) 0) := by rw [← eB]; exact e3
      exact e4
  have hn0 : ∀ i, i < m → MH.Nxt (srt l) (vx (band l) i) (vx (band l) (i + 1)) := fun i hi => MH.path_get _ i _ _ hP (hget i (by omega)) (hget (i + 1) (by omega))
  have hper : ∀ i, vx (band l) (i % m) = vx (band l) i := fun i => by rw [← hm]; exact vx_per _ _
  have hper1 : ∀ i, vx (band l) (i % m + 1) = vx (band l) (i + 1) := fun i => by
    rw [← hper (i % m + 1), ← hper (i + 1), Nat.mod_add_mod]
  refine MP.cvx_of (s := srt l) h3 (fun i => by rw [← hm]; exact vx_addn _ _) (fun i => ?_) (fun i => ?_) ?_
  · rw [← hper i, ← hper1 i]; exact hn0 _ (Nat.mod_lt _ (by omega))
  · rw [← hper i]
    have hlt : i % m < m := Nat.mod_lt _ (by omega)
    have hin := List.mem_of_getElem? (vx_get (l := band l) (i := i % m) (by omega))
    rw [eB, List.mem_cons] at hin
    rw [eB]
    rcases hin with h | h
    · rw [h, es]; simp
    · exact (hR _ h).2
  · have g2 := vx_get (l := band l) (i := 2) (by omega)
    have g0 := vx_get (l := band l) (i := 0) (by omega)
    generalize vx (band l) 2 = x at *
    generalize vx (band l) 0 = y at *
    rw [eB] at g2 g0
    simp at g2 g0
    subst g0
    exact (MH.lx_ne (hR _ (List.mem_of_getElem? g2)).1).symm
def onP (a b p : Int × Int) : Bool := onB a.1 a.2 b.1 b.2 p.1 p.2
theorem onP_iff {a b p : Int × Int} : onP a b p = true ↔ MP.On a b p := by
  unfold onP MP.On
  rw [onB_eq]
  simp only [Bool.and_eq_true, decide_eq_true_eq]
  show (twI a.1 a.2 b.1 b.2 p.1 p.2 = 0 ∧ _) ∧ _ ↔ _
  have e : twI a.1 a.2 b.1 b.2 p.1 p.2 = MH.tw a b p := rfl
  rw [e]
  constructor
  · rintro ⟨⟨h1, h2, h3⟩, h4, h5⟩; exact ⟨h1, h2, h3, h4, h5⟩
  · rintro ⟨h1, h2, h3, h4, h5⟩; exact ⟨⟨h1, h2, h3⟩, h4, h5⟩
/-- on one of the lines -/
def OnH (H : List (Int × Int)) (p : Int × Int) : Prop := ∃ i, i < H.length ∧ onP (vx H i) (vx H (i + 1)) p = true
/-- to the left of all lines -/
def InH (H : List (Int × Int)) (p : Int × Int) : Prop := ∀ i, i < H.length → 0 ≤ MH.tw (vx H i) (vx H (i + 1)) p
noncomputable def onHB (H : List (Int × Int)) (p : Int × Int) : Bool := @decide (OnH H p) (Classical.propDecidable _)
theorem onHB_true {H : List (Int × Int)} {p : Int × Int} (h : OnH H p) : onHB H p = true := by unfold onHB; exact @decide_eq_true _ (Classical.propDecidable _) h
theorem onHB_false {H : List (Int × Int)} {p : Int × Int} (h : ¬ OnH H p) : onHB H p = false := by unfold onHB; exact @decide_eq_false _ (Classical.propDecidable _) h
theorem onHB_iff {H : List (Int × Int)} {p : Int × Int} : onHB H p = true ↔ OnH H p := by
  by_cases h : OnH H p
  · simp [onHB_true h, h]
  · simp [onHB_false h, h]
/-- what the program tells: 0 on a line, else 1 or -1 -/
noncomputable def placeI (H : List (Int × Int)) (p : Int × Int) : Int := if onHB H p = true then 0 else if MP.ron (vx H) p H.length = 0 then -1 else 1
/-- what the model tells -/
noncomputable def inHB (H : List (Int × Int)) (p : Int × Int) : Bool := if H.length < 3 then onHB H p else @decide (InH H p) (Classical.propDecidable _)
theorem onP_end (a b : Int × Int) : onP a b a = true := by
  rw [onP_iff]
  refine ⟨by unfold MH.tw; grind, ?_, ?_, ?_, ?_⟩ <;> omega
theorem ron_few {H : List (Int × Int)} {p : Int × Int} (h1 : 0 < H.length) (h : H.length < 3) : MP.ron (vx H) p H.length = 0 := by
  have hp := vx_addn H 0
  rw [Nat.zero_add] at hp
  rcases (by omega : H.length = 1 ∨ H.length = 2) with e | e
  · rw [e] at hp ⊢
    unfold MP.ron MP.ron
    have : MP.up (vx H 0) (vx H (0 + 1)) p = 0 := by rw [Nat.zero_add, hp]; unfold MP.up; rw [if_neg (by omega)]
    have : MP.dn (vx H 0) (vx H (0 + 1)) p = 0 := by rw [Nat.zero_add, hp]; unfold MP.dn; rw [if_neg (by omega)]
    omega
  · rw [e] at hp ⊢
    unfold MP.ron MP.ron MP.ron
    simp only [Nat.zero_add, Nat.reduceAdd]
    rw [hp]
    have s : MH.tw (vx H 1) (vx H 0) p = - MH.tw (vx H 0) (vx H 1) p := by unfold MH.tw; grind
    unfold MP.up MP.dn
    rw [s]
    by_cases c1 : (vx H 0).2 ≤ p.2 ∧ p.2 < (vx H 1).2 ∧ 0 < MH.tw (vx H 0) (vx H 1) p
    · rw [if_pos c1, if_neg (c := _ ∧ _) (by omega), if_neg (c := _ ∧ _) (by omega), if_pos (c := _ ∧ _) (by omega)]; rfl
    · by_cases c2 : (vx H 1).2 ≤ p.2 ∧ p.2 < (vx H 0).2 ∧ MH.tw (vx H 0) (vx H 1) p < 0
      · rw [if_neg c1, if_pos c2, if_pos (c := _ ∧ _) (by omega), if_neg (c := _ ∧ _) (by omega)]; rfl
      · rw [if_neg c1, if_neg c2, if_neg (c := _ ∧ _) (by omega), if_neg (c := _ ∧ _) (by omega)]; rfl
/-- THE PROGRAM'S PLACE AND THE MODEL'S ARE ONE, in a band -/
theorem place_in {l : List (Int × Int)} (hd : Dif l) (p : Int × Int) : inHB (band l) p = decide (0 ≤ placeI (band l) p) := by
  have hpos := band_pos hd
  unfold placeI inHB
  by_cases h3 : (band l).length < 3
  · rw [if_pos h3, ron_few hpos h3]
    by_cases h : onHB (band l) p = true
    · rw [if_pos h, h]; rfl
    · rw [if_neg h, if_pos rfl]
      have : onHB (band l) p = false := by simpa using h
      rw [this]; rfl
  · rw [if_neg h3]
    have hc := band_cvx hd (by omega)
    by_cases h : onHB (band l) p = true
    · rw [if_pos h]
      obtain ⟨j, hj, ho⟩ := onHB_iff.1 h
      have : InH (band l) p := fun i hi => MP.on_in (hc.left i j) (hc.left i (j + 1)) (onP_iff.1 ho)
      rw [@decide_eq_true _ (Classical.propDecidable _) this]; rfl
    · rw [if_neg h]
      have hno : ∀ i, i < (band l).length → ¬ MP.On (vx (band l) i) (vx (band l) (i + 1)) p := fun i hi ho => h (onHB_true ⟨i, hi, onP_iff.2 ho⟩)
      have key := MP.ron_iff hc hno
      by_cases hr : MP.ron (vx (band l)) p (band l).length = 0
      · rw [if_pos hr]
        have : ¬ InH (band l) p := fun hin => key.2 hin hr
        rw [@decide_eq_false _ (Classical.propDecidable _) this]; rfl
      · rw [if_neg hr]
        have : InH (band l) p := key.1 hr
        rw [@decide_eq_true _ (Classical.propDecidable _) this]; rfl
/-- .. and on it -/
theorem place_on (H : List (Int × Int)) (p : Int × Int) : (placeI H p = 0) ↔ OnH H p := by
  unfold placeI
  by_cases h : onHB H p = true
  · rw [if_pos h]; simp [onHB_iff.1 h]
  · rw [if_neg h]
    have : ¬ OnH H p := fun x => h (onHB_true x)
    simp only [this, iff_false]
    split <;> decide
theorem place_three (H : List (Int × Int)) (p : Int × Int) : placeI H p = 0 ∨ placeI H p = 1 ∨ placeI H p = -1 := by
  unfold placeI
  split
  · exact Or.inl rfl
  · split
    · exact Or.inr (Or.inr rfl)
    · exact Or.inr (Or.inl rfl)
/-- the first k of a list that are chosen -/
def pick (f : Int × Int → Bool) (s : List (Int × Int)) (k : Nat) : List (Int × Int) := (s.take k).filter f
theorem pick_zero (f : Int × Int → Bool) (s : List (Int × Int)) : pick f s 0 = [] := by unfold pick; simp
theorem pick_yes {f : Int × Int → Bool} {s : List (Int × Int)} {k : Nat} (hk : k < s.length) (h : f (pt s k) = true) : pick f s (k + 1) = pick f s k ++ [pt s k] := by
  unfold pick
  rw [List.take_add_one, pt_get hk]
  simp [h]
theorem pick_no {f : Int × Int → Bool} {s : List (Int × Int)} {k : Nat} (hk : k < s.length) (h : f (pt s k) = false) : pick f s (k + 1) = pick f s k := by
  unfold pick
  rw [List.take_add_one, pt_get hk]
  simp [h]
theorem pick_len (f : Int × Int → Bool) (s : List (Int × Int)) (k : Nat) : (pick f s k).length ≤ k := by
  unfold pick
  have := List.length_filter_le f (s.take k)
  rw [List.length_take] at this
  omega
theorem pick_all (f : Int × Int → Bool) (s : List (Int × Int)) {n : Nat} (h : s.length ≤ n) : pick f s n = s.filter f := by unfold pick; rw [List.take_of_length_le h]
noncomputable def onF (H : List (Int × Int)) (p : Int × Int) : Bool := onHB H p
noncomputable def offF (H : List (Int × Int)) (p : Int × Int) : Bool := !onHB H p
noncomputable def atF (H : List (Int × Int)) (q : Int) (p : Int × Int) : Bool := decide (placeI H p = q)
/-- the points on the band, and the others, in order -/
noncomputable def onL (l : List (Int × Int)) : List (Int × Int) := (srt l).filter (onF (band l))
noncomputable def offL (l : List (Int × Int)) : List (Int × Int) := (srt l).filter (offF (band l))
theorem on_of_nx {a b p : Int × Int} (hab : a ≠ b) (h1 : MH.Nx a b p) (h2 : MH.Nx b a p) : MP.On a b p := by
  have t1 := MP.nx_nn h1
  have t2 := MP.nx_nn h2
  have e : MH.tw b a p = - MH.tw a b p := by unfold MH.tw; grind
  have t0 : MH.tw a b p = 0 := by omega
  have hB := MH.sq_pos hab
  have s1 : MH.sq p a ≤ MH.sq b a := by
    rcases h1 with g | ⟨_, g | g⟩
    · omega
    · rw [g]; omega
    · omega
  have s2 : MH.sq p b ≤ MH.sq b a := by
    have e2 : MH.sq a b = MH.sq b a := by unfold MH.sq; grind
    rcases h2 with g | ⟨_, g | g⟩
    · omega
    · rw [g]; omega
    · omega
  obtain ⟨D, hD⟩ : ∃ D, D = (p.1 - a.1) * (b.1 - a.1) + (p.2 - a.2) * (b.2 - a.2) := ⟨_, rfl⟩
  obtain ⟨B, hBe⟩ : ∃ B, B = MH.sq b a := ⟨_, rfl⟩
  obtain ⟨G, hGe⟩ : ∃ G, G = MH.sq p a := ⟨_, rfl⟩
  have e1 : MH.sq p b = G - 2 * D + B := by rw [hGe, hBe, hD]; unfold MH.sq; grind
  have e3 : D * D = B * G := by rw [hGe, hBe, hD]; unfold MH.sq; unfold MH.tw at t0; grind
  have b1 : B * (p.1 - a.1) = D * (b.1 - a.1) := by rw [hBe, hD]; unfold MH.sq; unfold MH.tw at t0; grind
  have b2 : B * (p.2 - a.2) = D * (b.2 - a.2) := by rw [hBe, hD]; unfold MH.sq; unfold MH.tw at t0; grind
  rw [e1, ← hBe] at s2
  rw [← hGe, ← hBe] at s1
  rw [← hBe] at hB
  have hG0 : 0 ≤ G := by
    rw [hGe]; unfold MH.sq
    have := MH.mul_self_nn (p.1 - a.1)
    have := MH.mul_self_nn (p.2 - a.2)
    omega
  have hD0 : 0 ≤ D := by omega
  have hDB : D ≤ B := by
    by_cases g : D ≤ B
    · exact g
    · exfalso
      have m1 := MH.sq_lt (show 0 ≤ B by omega) (show B < D by omega)
      have m2 := Int.mul_le_mul_of_nonneg_left s1 (show 0 ≤ B by omega)
      omega
  have bt : ∀ x y : Int, B * x = D * y → (0 ≤ y → 0 ≤ x ∧ x ≤ y) ∧ (y ≤ 0 → y ≤ x ∧ x ≤ 0) := by
    intro x y h
    constructor
    · intro hy
      have m1 := Int.mul_nonneg hD0 hy
      have m2 := Int.mul_nonneg (show 0 ≤ B - D by omega) hy
      have e4 : B * (y - x) = (B - D) * y := by grind
      exact ⟨MP.nn_l hB (by omega), by have := MP.nn_l hB (show 0 ≤ B * (y - x) by omega); omega⟩
    · intro hy
      have m1 := Int.mul_nonneg hD0 (show 0 ≤ -y by omega)
      have m2 := Int.mul_nonneg (show 0 ≤ B - D by omega) (show 0 ≤ -y by omega)
      have e4 : B * (x - y) = (B - D) * (-y) := by grind
      have e5 : B * (-x) = D * (-y) := by grind
      exact ⟨by have := MP.nn_l hB (show 0 ≤ B * (x - y) by omega); omega, by have := MP.nn_l hB (show 0 ≤ B * (-x) by omega); omega⟩
  obtain ⟨x1, x2⟩ := bt _ _ b1
  obtain ⟨y1, y2⟩ := bt _ _ b2
  refine ⟨t0, ?_, ?_, ?_, ?_⟩
  · by_cases g : 0 ≤ b.1 - a.1
    · have := x1 g; omega
    · have := x2 (by omega); omega
  · by_cases g : 0 ≤ b.1 - a.1
    · have := x1 g; omega
    · have := x2 (by omega); omega
  · by_cases g : 0 ≤ b.2 - a.2
    · have := y1 g; omega
    · have := y2 (by omega); omega
  · by_cases g : 0 ≤ b.2 - a.2
    · have := y1 g; omega
    · have := y2 (by omega); omega
/-- each point of the list is in the band -/
theorem own_in {l : List (Int × Int)} (hd : Dif l) {p : Int × Int} (hp : p ∈ l) : inHB (band l) p = true := by
  have hs := srt_sorted (dif_nodup hd)
  have hl := srt_len l
  have hps : p ∈ srt l := srt_mem.2 hp
  unfold inHB
  by_cases h3 : (band l).length < 3
  · rw [if_pos h3]
    refine onHB_true ?_
    cases h : srt l with
    | nil => rw [h] at hps; simp at hps
    | cons a t =>
      cases t with
      | nil =>
        have eB : band l = [a] := by unfold band; rw [h]; simp [MH.hull]
        rw [h] at hps
        simp at hps
        subst hps
        refine ⟨0, by rw [eB]; simp, ?_⟩
        have : vx (band l) 0 = p := by rw [eB]; rfl
        rw [this]
        exact onP_end _ _
      | cons b t =>
        obtain ⟨R, eH, hR, hP⟩ := MH.hull_ok (s := srt l) (h ▸ hs) h
        have eB : band l = a :: R := eH
        cases R with
        | nil =>
          exfalso
          have := hP.1
          exact this.2.1 rfl
        | cons y R2 =>
          cases R2 with
          | nil =>
            have n1 : MH.Nxt (srt l) a y := hP.1
            have n2 : MH.Nxt (srt l) y a := hP.2.1
            refine ⟨0, by rw [eB]; simp, ?_⟩
            have e0 : vx (band l) 0 = a := by rw [eB]; rfl
            have e1 : vx (band l) (0 + 1) = y := by rw [eB]; rfl
            rw [e0, e1, onP_iff]
            exact on_of_nx n1.2.1 (n1.2.2 p hps) (n2.2.2 p hps)
          | cons z R3 =>
            rw [eB] at h3
            simp at h3
            omega
  · rw [if_neg h3]
    refine @decide_eq_true _ (Classical.propDecidable _) (fun i hi => ?_)
    obtain ⟨a, b, t, h⟩ : ∃ a b t, srt l = a :: b :: t := by
      cases h : srt l with
      | nil => rw [h] at hps; simp at hps
      | cons a t =>
        cases t with
        | nil => exfalso; apply h3; unfold band; rw [h]; simp [MH.hull]
        | cons b t => exact ⟨a, b, t, rfl⟩
    obtain ⟨R, eH, hR, hP⟩ := MH.hull_ok (s := srt l) (h ▸ hs) h
    have eB : band l = a :: R := eH
    have g1 : (a :: R ++ [a])[i]? = some (vx (band l) i) := by
      rw [List.getElem?_append_left (by rw [eB] at hi; exact hi), ← eB]
      exact vx_get hi
    have g2 : (a :: R ++ [a])[i + 1]? = some (vx (band l) (i + 1)) := by
      by_cases hlt : i + 1 < (band l).length
      · rw [List.getElem?_append_left (by rw [eB] at hlt; exact hlt), ← eB]
        exact vx_get hlt
      · have e : i + 1 = (band l).length := by omega
        have e2 : vx (band l) (i + 1) = vx (band l) 0 := by
          have := vx_addn (band l) 0
          rw [Nat.zero_add, ← e] at this
          exact this
        rw [e2, e, eB, List.getElem?_append_right (by simp)]
        simp
        rfl
    exact MP.nx_nn ((MH.path_get _ i _ _ hP g1 g2).2.2 p hps)
theorem at_zero (H : List (Int × Int)) (p : Int × Int) : atF H 0 p = onF H p := by
  unfold atF onF
  by_cases h : OnH H p
  · rw [onHB_true h, decide_eq_true ((place_on H p).2 h)]
  · rw [onHB_false h, decide_eq_false (fun e => h ((place_on H p).1 e))]
theorem at_one {l : List (Int × Int)} (hd : Dif l) {p : Int × Int} (hp : p ∈ l) : atF (band l) 1 p = offF (band l) p := by
  have h1 := place_in hd p
  rw [own_in hd hp] at h1
  have h2 : 0 ≤ placeI (band l) p := by simpa using h1.symm
  unfold atF offF
  by_cases h : OnH (band l) p
  · rw [onHB_true h, (place_on _ _).2 h]; rfl
  · rw [onHB_false h]
    have h3 : placeI (band l) p ≠ 0 := fun e => h ((place_on _ _).1 e)
    have h4 := place_three (band l) p
    rw [decide_eq_true (show placeI (band l) p = 1 by omega)]; rfl
theorem filter_at_zero (l : List (Int × Int)) : (srt l).filter (atF (band l) 0) = onL l := by
  unfold onL
  congr 1
  funext p
  exact at_zero _ _
theorem filter_at_one {l : List (Int × Int)} (hd : Dif l) : (srt l).filter (atF (band l) 1) = offL l := by
  unfold offL
  exact List.filter_congr fun p hp => at_one hd (srt_mem.1 hp)
noncomputable def layF : Nat → List (Int × Int) → List (List (Int × Int))
  | 0, _ => []
  | f + 1, l => if l = [] then [] else onL l :: layF f (offL l)
noncomputable def layers (l : List (Int × Int)) : List (List (Int × Int)) := layF l.length l
theorem layF_nil : ∀ f, layF f [] = []
  | 0 => rfl
  | f + 1 => by unfold layF; rw [if_pos rfl]
theorem layF_cons {f : Nat} {l : List (Int × Int)} (h : l ≠ []) : layF (f + 1) l = onL l :: layF f (offL l) := by
  rw [layF, if_neg h]
theorem off_mem {l : List (Int × Int)} {x : Int × Int} (h : x ∈ offL l) : x ∈ l := srt_mem.1 (List.mem_filter.1 h).1
theorem on_mem {l : List (Int × Int)} {x : Int × Int} (h : x ∈ onL l) : x ∈ l := srt_mem.1 (List.mem_filter.1 h).1
theorem off_sorted {l : List (Int × Int)} (hd : l.Nodup) : (offL l).Pairwise lxP := (srt_sorted hd).sublist List.filter_sublist
theorem sorted_nodup {s : List (Int × Int)} (h : s.Pairwise lxP) : s.Nodup := by
  rw [List.nodup_iff_pairwise_ne]
  refine h.imp fun {a b} hab e => ?_
  subst e
  unfold lxP at hab; omega
theorem two_parts (f : Int × Int → Bool) : ∀ s : List (Int × Int), (s.filter f).length + (s.filter fun x => !f x).length = s.length
  | [] => rfl
  | a :: s => by
    have ih := two_parts f s
    rw [List.filter_cons, List.filter_cons]
    cases h : f a <;> simp <;> omega
theorem on_pos {l : List (Int × Int)} (hd : Dif l) : 0 < (onL l).length := by
  have hpos := band_pos hd
  obtain ⟨h0, ha⟩ := around_of (dif_nodup hd) hd.few.1 (Nat.le_trans hd.few.2 (by decide))
  have hm := ha.mem 0 (by omega)
  have he := ha.same 0 hpos
  have hx : vx (band l) 0 ∈ l := by
    rw [vx_pt hpos]
    have : pt (band l) 0 = pt (MH.hull (srt l)) 0 := rfl
    rw [this, ← he]; exact hm
  have : vx (band l) 0 ∈ onL l := by
    unfold onL
    rw [List.mem_filter]
    exact ⟨srt_mem.2 hx, onHB_true ⟨0, hpos, onP_end _ _⟩⟩
  exact List.length_pos_of_mem this
theorem off_lt {l : List (Int × Int)} (hd : Dif l) : (offL l).length < l.length := by
  have h1 := on_pos hd
  have h2 := two_parts (onF (band l)) (srt l)
  rw [srt_len] at h2
  unfold onL at h1
  have e : (offL l) = (srt l).filter fun x => !onF (band l) x := rfl
  rw [e]
  omega
/-- what is left is a list of different pegs, if there is any -/
theorem off_dif {l : List (Int × Int)} (hd : Dif l) (h : 0 < (offL l).length) : Dif (offL l) := by
  have := off_lt hd
  have := hd.few
  exact dif_list (sorted_nodup (off_sorted (dif_nodup hd))) (fun x hx => dif_pegs hd x (off_mem hx)) h (by omega)
theorem band_srt {l : List (Int × Int)} (hd : Dif l) : band (srt l) = band l := by
  unfold band
  rw [srt_self (srt_sorted (dif_nodup hd))]
theorem on_srt {l : List (Int × Int)} (hd : Dif l) : onL (srt l) = onL l := by
  unfold onL
  rw [band_srt hd, srt_self (srt_sorted (dif_nodup hd))]
theorem off_srt {l : List (Int × Int)} (hd : Dif l) : offL (srt l) = offL l := by
  unfold offL
  rw [band_srt hd, srt_self (srt_sorted (dif_nodup hd))]
theorem srt_dif {l : List (Int × Int)} (hd : Dif l) : Dif (srt l) := by
  have := srt_len l
  have := hd.few
  exact dif_list (sorted_nodup (srt_sorted (dif_nodup hd))) (fun x hx => dif_pegs hd x (srt_mem.1 hx)) (by omega) (by omega)
theorem lay_srt {l : List (Int × Int)} (hd : Dif l) (f : Nat) : layF (f + 1) (srt l) = layF (f + 1) l := by
  have h1 : l ≠ [] := by intro e; have := hd.few.1; rw [e] at this; simp at this
  have h2 : srt l ≠ [] := by intro e; have := srt_len l; have := hd.few.1; rw [e] at *; simp at *; omega
  rw [layF_cons h1, layF_cons h2, on_srt hd, off_srt hd]
theorem lay_mem : ∀ (f : Nat) (l m : List (Int × Int)), m ∈ layF f l → ∀ x ∈ m, x ∈ l
  | 0, l, m, h => by simp [layF] at h
  | f + 1, l, m, h => by
    rw [layF] at h
    split at h
    · simp at h
    · intro x hx
      rw [List.mem_cons] at h
      rcases h with h | h
      · subst h; exact on_mem hx
      · exact off_mem (lay_mem f (offL l) m h x hx)
/-- the first layer that has a point -/
def lopF (p : Int × Int) : List (List (Int × Int)) → Nat → Int × Bool
  | [], _ => (0, false)
  | m :: t, i => if p ∈ m then ((i : Int) + 1, true) else lopF p t (i + 1)
theorem lop_none {p : Int × Int} : ∀ (LL : List (List (Int × Int))) (i : Nat), (∀ m ∈ LL, p ∉ m) → lopF p LL i = (0, false)
  | [], _, _ => rfl
  | m :: t, i, h => by
    rw [lopF, if_neg (h m (by simp))]
    exact lop_none t (i + 1) fun x hx => h x (List.mem_cons_of_mem _ hx)
theorem lop_at {p : Int × Int} {LL : List (List (Int × Int))} {k : Nat} {m : List (Int × Int)} (h : LL[k]? = some m) : lopF p (LL.drop k) k = if p ∈ m then ((k : Int) + 1, true) else lopF p (LL.drop (k + 1)) (k + 1) := by
  obtain ⟨hk, e⟩ := List.getElem?_eq_some_iff.1 h
  rw [List.drop_eq_getElem_cons hk, e, lopF]
theorem lop_end {p : Int × Int} {LL : List (List (Int × Int))} : lopF p (LL.drop LL.length) LL.length = (0, false) := by
  rw [List.drop_length]; rfl
theorem lay_few : ∀ (f : Nat) (l : List (Int × Int)), (layF f l).length ≤ f
  | 0, _ => by simp [layF]
  | f + 1, l => by
    rw [layF]
    split
    · simp
    · have := lay_few f (offL l)
      simp; omega
theorem lay_len : ∀ (f : Nat) (l m : List (Int × Int)), m ∈ layF f l → m.length ≤ l.length
  | 0, l, m, h => by simp [layF] at h
  | f + 1, l, m, h => by
    rw [layF] at h
    split at h
    · simp at h
    · rw [List.mem_cons] at h
      have hs := srt_len l
      rcases h with h | h
      · subst h
        unfold onL
        have := List.length_filter_le (onF (band l)) (srt l)
        omega
      · have h1 := lay_len f (offL l) m h
        have : (offL l).length ≤ (srt l).length := by unfold offL; exact List.length_filter_le _ _
        omega
theorem lay_ne : ∀ (f : Nat) (l : List (Int × Int)), (0 < l.length → Dif l) → ∀ m ∈ layF f l, 0 < m.length
  | 0, l, _, m, h => by simp [layF] at h
  | f + 1, l, hd, m, h => by
    rw [layF] at h
    split at h
    · simp at h
    · rename_i hne
      have hd := hd (List.length_pos_iff.2 hne)
      rw [List.mem_cons] at h
      rcases h with h | h
      · subst h; exact on_pos hd
      · exact lay_ne f (offL l) (off_dif hd) m h
theorem lay_pos {l : List (Int × Int)} (hd : Dif l) : 0 < (layers l).length := by
  have h1 := hd.few.1
  obtain ⟨f, hf⟩ : ∃ f, l.length = f + 1 := ⟨l.length - 1, by omega⟩
  unfold layers
  rw [hf, layF_cons (by intro e; rw [e] at h1; simp at h1)]
  simp
noncomputable def lvI (l : List (Int × Int)) (p1 p2 : Int) : Int := if difB l = true then (lopF (p1, p2) (layers l) 0).1 else 0
noncomputable def lvB (l : List (Int × Int)) (p1 p2 : Int) : Bool := if difB l = true then (lopF (p1, p2) (layers l) 0).2 else false
theorem lop_out {l : List (Int × Int)} {p : Int × Int} (h : p ∉ l) : lopF p (layers l) 0 = (0, false) := lop_none _ _ fun m hm hp => h (lay_mem _ _ _ hm p hp)
theorem pegs_info : (Try.prog.info? 26).map (fun i => (i.zero, i.size, i.bytes)) = some (some (.slice none 0 0), 1, 24) := by kernel_rfl
theorem info_parts3 {i : Option TypeInfo} {z : Value} {s b : Nat} (h : i.map (fun i => (i.zero, i.size, i.bytes)) = some (some z, s, b)) : ∃ i0, i = some i0 ∧ i0.zero = some z ∧ i0.size = s ∧ i0.bytes = b := by
  cases i with
  | none => simp at h
  | some i0 =>
    simp at h
    exact ⟨i0, rfl, h.1, h.2.1, h.2.2⟩
/-- the row v of slices, number i of them the points of LL's list i, in a row of its own -/
def RowsL (w : World) (base : Nat) (v : Value) (LL : List (List (Int × Int))) (cs : List Value) : Prop :=
  w.ownsRow base 26 1 v LL.length cs ∧ (∀ (i : Nat) (m : List (Int × Int)), LL[i]? = some m → ∃ u, cs[i]? = some u ∧ w.ownsRow base 56 2 u m.length (flat m)) ∧ cs.Pairwise fun u u' => ∀ b b', u.ownBlock = some b → u'.ownBlock = some b' → b < b'
theorem rowsL_nil (w : World) (base : Nat) : RowsL w base (.slice none 0 0) [] [] :=
  ⟨World.ownsRow_nil _ _ _ _, fun i m h => by simp at h, List.Pairwise.nil⟩
theorem rowsL_below {w W : World} {base B : Nat} {v : Value} {LL : List (List (Int × Int))} {cs : List Value} (h : RowsL w base v LL cs) (hb : Below B w W) (hB : w.heap.size ≤ B) : RowsL W base v LL cs :=
  ⟨ownB h.1 hb hB, fun i m hi => by
    obtain ⟨u, h1, h2⟩ := h.2.1 i m hi
    exact ⟨u, h1, ownB h2 hb hB⟩, h.2.2⟩
theorem rowsL_alloc {w : World} {base : Nat} {v : Value} {LL : List (List (Int × Int))} {cs : List Value} (h : RowsL w base v LL cs) (o : Obj) : RowsL (w.alloc o) base v LL cs :=
  ⟨h.1.alloc o, fun i m hi => by
    obtain ⟨u, h1, h2⟩ := h.2.1 i m hi
    exact ⟨u, h1, h2.alloc o⟩, h.2.2⟩
theorem rowsL_base {w : World} {base base' : Nat} {v : Value} {LL : List (List (Int × Int))} {cs : List Value} (h : RowsL w base v LL cs) (hB : base' ≤ base) : RowsL w base' v LL cs :=
  ⟨own_base h.1 hB, fun i m hi => by
    obtain ⟨u, h1, h2⟩ := h.2.1 i m hi
    exact ⟨u, h1, own_base h2 hB⟩, h.2.2⟩
theorem rowsL_lt {w : World} {base : Nat} {v : Value} {LL : List (List (Int × Int))} {cs : List Value} (h : RowsL w base v LL cs) : ∀ u ∈ cs, ∀ b, u.ownBlock = some b → b < w.heap.size := by
  intro u hu b hb
  obtain ⟨i, hi, e⟩ := List.mem_iff_getElem.1 hu
  have hlen : cs.length = LL.length := by have := h.1.1; omega
  obtain ⟨u', h1, h2⟩ := h.2.1 i (LL[i]'(by omega)) (List.getElem?_eq_getElem (by omega))
  rw [List.getElem?_eq_getElem hi, e] at h1
  injection h1 with h1
  subst h1
  exact (World.ownsRow.lt h2 b hb).2
/-- rows of different kinds lie in different blocks -/
theorem own_diff {w : World} {b1 b2 s1 s2 n1 n2 : Nat} {e1 e2 : TypeId} {v1 v2 : Value} {x1 x2 : List Value} (h1 : w.ownsRow b1 e1 s1 v1 n1 x1) (h2 : w.ownsRow b2 e2 s2 v2 n2 x2) (hne : e1 ≠ e2) : v1.ownBlock = none ∨ v1.ownBlock ≠ v2.ownBlock := by
  rcases h1.2 with ⟨rfl, _⟩ | ⟨g, cap, cur, rfl, _, hg, _⟩
  · exact Or.inl rfl
  · rcases h2.2 with ⟨rfl, _⟩ | ⟨g', cap', cur', rfl, _, hg', _⟩
    · exact Or.inr (by simp [Value.ownBlock])
    · refine Or.inr (fun e => ?_)
      simp only [Value.ownBlock, Option.some.injEq] at e
      subst e
      rw [hg] at hg'
      injection hg' with hg'
      injection hg' with _ h _
      exact hne h
theorem rowsL_push {W w' : World} {base : Nat} {v v' u : Value} {LL : List (List (Int × Int))} {m : List (Int × Int)} {cs : List Value} (h : RowsL W base v LL cs) (hu : W.ownsRow base 56 2 u m.length (flat m))
    (hown : w'.ownsRow base 26 1 v' (LL.length + 1) (cs ++ [u])) (hg : W.grownBy w' v.ownBlock) (b0 : Nat) (hlo : ∀ u' ∈ cs, ∀ b, u'.ownBlock = some b → b < b0) (hup : ∀ b, u.ownBlock = some b → b0 ≤ b) : RowsL w' base v' (LL ++ [m]) (cs ++ [u]) := by
  have hlen : cs.length = LL.length := by have := h.1.1; omega
  refine ⟨by rw [List.length_append]; exact hown, fun i m' hi => ?_, List.pairwise_append.2 ⟨h.2.2, List.pairwise_singleton _ _, fun x hx y hy b b' e e' => ?_⟩⟩
  rotate_left
  · rw [List.mem_singleton] at hy
    subst hy
    exact Nat.lt_of_lt_of_le (hlo x hx b e) (hup b' e')
  by_cases hlt : i < LL.length
  · rw [List.getElem?_append_left hlt] at hi
    obtain ⟨u', h1, h2⟩ := h.2.1 i m' hi
    exact ⟨u', by rw [List.getElem?_append_left (by omega)]; exact h1, h2.kept hg (own_diff h2 h.1 (by decide))⟩
  · rw [List.getElem?_append_right (by omega)] at hi
    have h0 : i - LL.length = 0 := by
      rcases Nat.eq_zero_or_pos (i - LL.length) with h | h
      · exact h
      · rw [List.getElem?_eq_none (by simp; omega)] at hi; cases hi
    rw [h0] at hi
    simp at hi
    subst hi
    exact ⟨u, by rw [List.getElem?_append_right (by omega), hlen, h0]; rfl, hu.kept hg (own_diff hu h.1 (by decide))⟩
theorem one_cells {w : World} {g : Nat} {x : Value} (h1 : w.cell? ⟨g, 0, none⟩ = some x) : ∀ j u, [x][j]? = some u → w.cell? ((⟨g, 0, none⟩ : Addr).add j) = some u := by
  intro j u hj
  match j, hj with
  | 0, hj => simp at hj; subst hj; exact h1
theorem one_slice (A : Option Addr) (n c : Nat) : ∀ u ∈ [Value.slice A n c], u.oneCell' = true := by
  intro u hu; simp at hu; subst hu; rfl
/-- layer i, read -/
theorem rowsL_read {w : World} {base g n cap : Nat} {LL : List (List (Int × Int))} {cs : List Value} (h : RowsL w base (.slice (some ⟨g, 0, none⟩) n cap) LL cs) (hn : LL.length = n) (hne : ∀ m ∈ LL, 0 < m.length) (i : Nat) (hi : i < n) :
    ∃ m gi ci, LL[i]? = some m ∧ w.cell? ⟨g, i, none⟩ = some (.slice (some ⟨gi, 0, none⟩) m.length ci) ∧ Rd w w.heap.size (some ⟨gi, 0, none⟩) m ∧ g < w.heap.size := by
  obtain ⟨m, hm⟩ : ∃ m, LL[i]? = some m := ⟨_, List.getElem?_eq_getElem (by omega)⟩
  obtain ⟨u, h1, h2⟩ := h.2.1 i m hm
  obtain ⟨gi, ci, rfl, _, _, hr⟩ := rd_own h2 (hne m (List.mem_of_getElem? hm))
  rw [← hn] at h
  refine ⟨m, gi, ci, hm, ?_, hr, (World.ownsRow.lt h.1 g rfl).2⟩
  rw [World.ownsRow.cellAt h.1 i (by omega)]
  exact h1
end Go.Proofs.Ytheddoinnakneaa
/- plain: the told directions of a width that is not too great: sought by two corners; whatever two they are, the list in order is the same; the least width -/
namespace Go.Proofs.Ytheddoinnakneaa
open Go.ChangeShapes Go.WideShapes Go.ChangeAt Go.RowKit Go.Joins
set_option linter.unusedVariables false
set_option linter.unusedSimpArgs false
set_option maxRecDepth 4000
theorem mem_ptD {l : List (Int × Int)} {x : Int × Int} (h : x ∈ l) : ∃ i, i < l.length ∧ x = pt l i := by
  obtain ⟨i, hi⟩ := List.mem_iff_getElem?.1 h
  have hl : i < l.length := by
    rcases Nat.lt_or_ge i l.length with g | g
    · exact g
    · rw [List.getElem?_eq_none g] at hi; cases hi
  refine ⟨i, hl, ?_⟩
  rw [pt_get hl] at hi
  injection hi with hi
  exact hi.symm
/-- told directions -/
def toldB (u v : Int) : Bool := (decide (0 < u) || (decide (u = 0) && decide (v = 1))) && decide (Nat.gcd u.natAbs v.natAbs = 1)
def detP (p q : Int × Int) : Int := p.1 * q.2 - p.2 * q.1
def soX (p q : Int × Int) (m n : Int) : Int := m * q.2 - n * p.2
def soY (p q : Int × Int) (m n : Int) : Int := n * p.1 - m * q.1
/-- the direction in which p has the value m and q the value n -/
def solO (p q : Int × Int) (m n : Int) : Option (Int × Int) :=
  if (soX p q m n).tmod (detP p q) = 0 ∧ (soY p q m n).tmod (detP p q) = 0 then some ((soX p q m n).tdiv (detP p q), (soY p q m n).tdiv (detP p q)) else none
theorem solO_iff {p q : Int × Int} (hd : detP p q ≠ 0) (m n u v : Int) : solO p q m n = some (u, v) ↔ vlu u v p = m ∧ vlu u v q = n := by
  unfold solO
  constructor
  · intro h
    split at h
    · rename_i hc
      injection h with h
      injection h with h1 h2
      have e1 : detP p q * u = soX p q m n := by
        have := Int.mul_tdiv_add_tmod (soX p q m n) (detP p q)
        rw [hc.1, h1] at this
        omega
      have e2 : detP p q * v = soY p q m n := by
        have := Int.mul_tdiv_add_tmod (soY p q m n) (detP p q)
        rw [hc.2, h2] at this
        omega
      unfold soX at e1
      unfold soY at e2
      unfold vlu
      constructor
      · apply Int.eq_of_mul_eq_mul_left hd
        calc detP p q * (u * p.1 + v * p.2) = (detP p q * u) * p.1 + (detP p q * v) * p.2 := by grind
          _ = detP p q * m := by rw [e1, e2]; unfold detP; grind
      · apply Int.eq_of_mul_eq_mul_left hd
        calc detP p q * (u * q.1 + v * q.2) = (detP p q * u) * q.1 + (detP p q * v) * q.2 := by grind
          _ = detP p q * n := by rw [e1, e2]; unfold detP; grind
    · cases h
  · rintro ⟨h1, h2⟩
    have e1 : soX p q m n = detP p q * u := by
      unfold soX detP
      rw [← h1, ← h2]
      unfold vlu
      grind
    have e2 : soY p q m n = detP p q * v := by
      unfold soY detP
      rw [← h1, ← h2]
      unfold vlu
      grind
    rw [e1, e2, Int.mul_tmod_right, Int.mul_tmod_right, Int.mul_tdiv_cancel_left _ hd, Int.mul_tdiv_cancel_left _ hd]
    simp
/-- what a pair of values gives: at most one told direction of a width that is not too great -/
def dirO (W : Int → Int → Int) (most : Int) (p q : Int × Int) (m n : Int) : List (Int × Int) :=
  match solO p q m n with
  | some t => if (toldB t.1 t.2 && decide (W t.1 t.2 ≤ most)) = true then [t] else []
  | none => []
def dirRow (W : Int → Int → Int) (most : Nat) (p q : Int × Int) (i : Nat) : Nat → List (Int × Int)
  | 0 => []
  | j + 1 => dirRow W most p q i j ++ dirO W most p q ((i : Int) - most) ((j : Int) - most)
def dirAll (W : Int → Int → Int) (most : Nat) (p q : Int × Int) : Nat → List (Int × Int)
  | 0 => []
  | i + 1 => dirAll W most p q i ++ dirRow W most p q i (2 * most + 1)
theorem dirO_mem {W : Int → Int → Int} {most : Int} {p q : Int × Int} (hd : detP p q ≠ 0) {m n : Int} {t : Int × Int} : t ∈ dirO W most p q m n ↔ (toldB t.1 t.2 = true ∧ W t.1 t.2 ≤ most) ∧ vlu t.1 t.2 p = m ∧ vlu t.1 t.2 q = n := by
  rw [← solO_iff hd]
  unfold dirO
  cases h : solO p q m n with
  | none => simp
  | some s =>
    simp only
    split
    · rename_i hc
      rw [Bool.and_eq_true, decide_eq_true_eq] at hc
      constructor
      · intro ht
        obtain rfl : t = s := by simpa using ht
        exact ⟨hc, rfl⟩
      · rintro ⟨_, h2⟩
        injection h2 with h2
        simp [h2]
    · rename_i hc
      rw [Bool.and_eq_true, decide_eq_true_eq] at hc
      constructor
      · intro ht; cases ht
      · rintro ⟨h1, h2⟩
        injection h2 with h2
        rw [h2] at hc
        exact absurd h1 hc
theorem dirO_nodup (W : Int → Int → Int) (most : Int) (p q : Int × Int) (m n : Int) : (dirO W most p q m n).Nodup := by
  unfold dirO
  split
  · split <;> simp
  · simp
theorem dirRow_mem {W : Int → Int → Int} {most : Nat} {p q : Int × Int} (hd : detP p q ≠ 0) {i : Nat} {t : Int × Int} : ∀ k, t ∈ dirRow W most p q i k ↔ (toldB t.1 t.2 = true ∧ W t.1 t.2 ≤ most) ∧ vlu t.1 t.2 p = (i : Int) - most ∧ ∃ j : Nat, j < k ∧ vlu t.1 t.2 q = (j : Int) - most
  | 0 => by simp [dirRow]
  | k + 1 => by
    rw [dirRow, List.mem_append, dirRow_mem hd k, dirO_mem hd]
    constructor
    · rintro (⟨h1, h2, j, h3, h4⟩ | ⟨h1, h2, h3⟩)
      · exact ⟨h1, h2, j, by omega, h4⟩
      · exact ⟨h1, h2, k, by omega, h3⟩
    · rintro ⟨h1, h2, j, h3, h4⟩
      rcases Nat.lt_or_ge j k with g | g
      · exact Or.inl ⟨h1, h2, j, g, h4⟩
      · obtain rfl : j = k := by omega
        exact Or.inr ⟨h1, h2, h4⟩
theorem dirRow_nodup {W : Int → Int → Int} {most : Nat} {p q : Int × Int} (hd : detP p q ≠ 0) (i : Nat) : ∀ k, (dirRow W most p q i k).Nodup
  | 0 => by simp [dirRow]
  | k + 1 => by
    rw [dirRow, List.nodup_append]
    refine ⟨dirRow_nodup hd i k, dirO_nodup _ _ _ _ _ _, fun a ha b hb e => ?_⟩
    subst e
    rw [dirRow_mem hd] at ha
    rw [dirO_mem hd] at hb
    obtain ⟨_, _, j, h3, h4⟩ := ha
    have := hb.2.2
    omega
theorem dirAll_mem {W : Int → Int → Int} {most : Nat} {p q : Int × Int} (hd : detP p q ≠ 0) {t : Int × Int} : ∀ k, t ∈ dirAll W most p q k ↔ (toldB t.1 t.2 = true ∧ W t.1 t.2 ≤ most) ∧ (∃ i : Nat, i < k ∧ vlu t.1 t.2 p = (i : Int) - most) ∧ ∃ j : Nat, j < 2 * most + 1 ∧ vlu t.1 t.2 q = (j : Int) - most
  | 0 => by simp [dirAll]
  | k + 1 => by
    rw [dirAll, List.mem_append, dirAll_mem hd k, dirRow_mem hd]
    constructor
    · rintro (⟨h1, ⟨i, h2, h5⟩, h3⟩ | ⟨h1, h2, h3⟩)
      · exact ⟨h1, ⟨i, by omega, h5⟩, h3⟩
      · exact ⟨h1, ⟨k, by omega, h2⟩, h3⟩
    · rintro ⟨h1, ⟨i, h2, h5⟩, h3⟩
      rcases Nat.lt_or_ge i k with g | g
      · exact Or.inl ⟨h1, ⟨i, g, h5⟩, h3⟩
      · obtain rfl : i = k := by omega
        exact Or.inr ⟨h1, h5, h3⟩
theorem dirAll_nodup {W : Int → Int → Int} {most : Nat} {p q : Int × Int} (hd : detP p q ≠ 0) : ∀ k, (dirAll W most p q k).Nodup
  | 0 => by simp [dirAll]
  | k + 1 => by
    rw [dirAll, List.nodup_append]
    refine ⟨dirAll_nodup hd k, dirRow_nodup hd _ _, fun a ha b hb e => ?_⟩
    subst e
    rw [dirAll_mem hd] at ha
    rw [dirRow_mem hd] at hb
    obtain ⟨_, ⟨j, h3, h4⟩, _⟩ := ha
    have := hb.2.1
    omega
/-- all told directions of a width that is not too great, whatever two corners they are sought by -/
theorem dirs_mem {W : Int → Int → Int} {most : Nat} {p q : Int × Int} (hd : detP p q ≠ 0) (hp : ∀ u v, (vlu u v p).natAbs ≤ W u v) (hq : ∀ u v, (vlu u v q).natAbs ≤ W u v) {t : Int × Int} : t ∈ dirAll W most p q (2 * most + 1) ↔ toldB t.1 t.2 = true ∧ W t.1 t.2 ≤ most := by
  rw [dirAll_mem hd]
  constructor
  · exact fun h => h.1
  · intro h
    have h1 := hp t.1 t.2
    have h2 := hq t.1 t.2
    refine ⟨h, ⟨(vlu t.1 t.2 p + most).toNat, by omega, by omega⟩, ⟨(vlu t.1 t.2 q + most).toNat, by omega, by omega⟩⟩

/-- all told directions of a width that is not too great, in order -/
def dirD (W : Int → Int → Int) (p q : Int × Int) (most : Nat) : List (Int × Int) := srt (dirAll W most p q (2 * most + 1))
/-- two corners by which directions may be sought -/
structure Base (W : Int → Int → Int) (p q : Int × Int) : Prop where
  d : detP p q ≠ 0
  p : ∀ u v, (vlu u v p).natAbs ≤ W u v
  q : ∀ u v, (vlu u v q).natAbs ≤ W u v
theorem dirD_mem {W : Int → Int → Int} {p q : Int × Int} (h : Base W p q) {most : Nat} {t : Int × Int} : t ∈ dirD W p q most ↔ toldB t.1 t.2 = true ∧ W t.1 t.2 ≤ most := by
  unfold dirD
  rw [srt_mem, dirs_mem h.d h.p h.q]
theorem dirD_sorted {W : Int → Int → Int} {p q : Int × Int} (h : Base W p q) (most : Nat) : (dirD W p q most).Pairwise lxP := srt_sorted (dirAll_nodup h.d _)
theorem dirD_same {W : Int → Int → Int} {p q p' q' : Int × Int} (h : Base W p q) (h' : Base W p' q') (most : Nat) : dirD W p q most = dirD W p' q' most :=
  sorted_same _ _ (dirD_sorted h most) (dirD_sorted h' most) (fun x => by rw [dirD_mem h, dirD_mem h'])
/-- the least width of the first k directions of a list, and of another one -/
def minW (W : Int → Int → Int) (s : List (Int × Int)) (a : Int) : Nat → Int
  | 0 => a
  | k + 1 => min (minW W s a k) (W (pt s k).1 (pt s k).2)
theorem minW_le {W : Int → Int → Int} {s : List (Int × Int)} {a : Int} : ∀ k, ∀ j, j < k → minW W s a k ≤ W (pt s j).1 (pt s j).2
  | 0, _, h => absurd h (Nat.not_lt_zero _)
  | k + 1, j, h => by
    rw [minW]
    rcases Nat.lt_or_ge j k with g | g
    · have := minW_le (W := W) (s := s) (a := a) k j g; omega
    · obtain rfl : j = k := by omega
      omega
theorem minW_is {W : Int → Int → Int} {s : List (Int × Int)} (h : 0 < s.length) : ∀ k, k ≤ s.length → ∃ j, j < s.length ∧ minW W s (W (pt s 0).1 (pt s 0).2) k = W (pt s j).1 (pt s j).2
  | 0, _ => ⟨0, h, rfl⟩
  | k + 1, hk => by
    obtain ⟨j, hj, e⟩ := minW_is (W := W) h k (by omega)
    rw [minW]
    rcases Int.le_total (minW W s (W (pt s 0).1 (pt s 0).2) k) (W (pt s k).1 (pt s k).2) with g | g
    · exact ⟨j, hj, by omega⟩
    · exact ⟨k, by omega, by omega⟩
/-- the least width of all, sought among the directions of no greater width than M -/
def wlI (W : Int → Int → Int) (p q : Int × Int) (M : Nat) : Int := minW W (dirD W p q M) (W (pt (dirD W p q M) 0).1 (pt (dirD W p q M) 0).2) (dirD W p q M).length
theorem told_nz {u v : Int} (h : toldB u v = true) : u ≠ 0 ∨ v ≠ 0 := by
  unfold toldB at h
  simp only [Bool.and_eq_true, Bool.or_eq_true, decide_eq_true_eq] at h
  omega
theorem base_pos {W : Int → Int → Int} {p q : Int × Int} (h : Base W p q) {u v : Int} (ht : toldB u v = true) : 1 ≤ W u v := by
  have h1 := h.p u v
  have h2 := h.q u v
  rcases Int.lt_or_le (W u v) 1 with g | g
  · exfalso
    have e1 : vlu u v p = 0 := by omega
    have e2 : vlu u v q = 0 := by omega
    unfold vlu at e1 e2
    have a1 : detP p q * u = 0 := by
      calc detP p q * u = (u * p.1 + v * p.2) * q.2 - (u * q.1 + v * q.2) * p.2 := by unfold detP; grind
        _ = 0 := by rw [e1, e2]; omega
    have a2 : detP p q * v = 0 := by
      calc detP p q * v = (u * q.1 + v * q.2) * p.1 - (u * p.1 + v * p.2) * q.1 := by unfold detP; grind
        _ = 0 := by rw [e1, e2]; omega
    have b1 : u = 0 := by rcases Int.mul_eq_zero.1 a1 with g | g; exact absurd g h.d; exact g
    have b2 : v = 0 := by rcases Int.mul_eq_zero.1 a2 with g | g; exact absurd g h.d; exact g
    rcases told_nz ht with g | g <;> exact g (by assumption)
  · exact g
theorem wl_facts {W : Int → Int → Int} {p q : Int × Int} (h : Base W p q) {M : Nat} (hM : ∃ t : Int × Int, toldB t.1 t.2 = true ∧ W t.1 t.2 ≤ M) :
    0 < (dirD W p q M).length ∧ 1 ≤ wlI W p q M ∧ wlI W p q M ≤ M ∧ (∀ k : Nat, 0 < (dirD W p q k).length ↔ wlI W p q M ≤ k) ∧ (∀ t : Int × Int, toldB t.1 t.2 = true → wlI W p q M ≤ W t.1 t.2) := by
  obtain ⟨t0, ht0⟩ := hM
  have hm0 := (dirD_mem h).2 ht0
  have hl : 0 < (dirD W p q M).length := List.length_pos_of_mem hm0
  obtain ⟨j, hj, e⟩ := minW_is (W := W) hl (dirD W p q M).length (Nat.le_refl _)
  change wlI W p q M = _ at e
  have hj1 := (dirD_mem h).1 (pt_mem hj)
  have hpos := base_pos h hj1.1
  have hall : ∀ t : Int × Int, toldB t.1 t.2 = true → wlI W p q M ≤ W t.1 t.2 := by
    intro t ht
    rcases Int.lt_or_le M (W t.1 t.2) with g | g
    · omega
    · obtain ⟨i, hi, rfl⟩ := mem_ptD ((dirD_mem h).2 ⟨ht, g⟩)
      exact minW_le _ i hi
  refine ⟨hl, by omega, by omega, fun k => ⟨fun hk => ?_, fun hk => ?_⟩, hall⟩
  · have := (dirD_mem h).1 (pt_mem (s := dirD W p q k) (i := 0) hk)
    have := hall _ this.1
    omega
  · exact List.length_pos_of_mem ((dirD_mem h).2 ⟨hj1.1, by omega⟩)
theorem wl_filter {W : Int → Int → Int} {p q : Int × Int} (h : Base W p q) {M m : Nat} (hm : m ≤ M) : (dirD W p q M).filter (fun t => decide (W t.1 t.2 ≤ m)) = dirD W p q m :=
  sorted_same _ _ ((dirD_sorted h M).sublist List.filter_sublist) (dirD_sorted h m) (fun x => by
    rw [List.mem_filter, dirD_mem h, dirD_mem h, decide_eq_true_eq]
    constructor
    · rintro ⟨⟨h1, _⟩, h2⟩; exact ⟨h1, h2⟩
    · rintro ⟨h1, h2⟩; exact ⟨⟨h1, by omega⟩, h2⟩)
/-- the width of a polygon -/
def wdL (l : List (Int × Int)) (u v : Int) : Int := hiW l u v l.length - loW l u v l.length
theorem lohi_at {l : List (Int × Int)} {u v : Int} : ∀ k i, i < k → loW l u v k ≤ vlu u v (vx l i) ∧ vlu u v (vx l i) ≤ hiW l u v k
  | 0, _, h => absurd h (Nat.not_lt_zero _)
  | k + 1, i, h => by
    rw [loW, hiW]
    rcases Nat.lt_or_ge i k with g | g
    · have := lohi_at (l := l) (u := u) (v := v) k i g; omega
    · obtain rfl : i = k := by omega
      omega
theorem vx_small {l : List (Int × Int)} (h : 0 < l.length) (i : Nat) (u v : Int) : loW l u v l.length ≤ vlu u v (vx l i) ∧ vlu u v (vx l i) ≤ hiW l u v l.length := by
  rw [← vx_per]
  exact lohi_at _ _ (Nat.mod_lt _ h)
def subP (a b : Int × Int) : Int × Int := (a.1 - b.1, a.2 - b.2)
theorem vlu_sub (u v : Int) (a b : Int × Int) : vlu u v (subP a b) = vlu u v a - vlu u v b := by unfold vlu subP; grind
theorem base_of {l : List (Int × Int)} (hg : Good l) (i j k : Nat) (hd : detP (subP (vx l i) (vx l j)) (subP (vx l k) (vx l j)) ≠ 0) : Base (wdL l) (subP (vx l i) (vx l j)) (subP (vx l k) (vx l j)) := by
  have h0 : 0 < l.length := by have := hg.few; omega
  refine ⟨hd, fun u v => ?_, fun u v => ?_⟩
  all_goals
    rw [vlu_sub]
    have a1 := vx_small h0 i u v
    have a2 := vx_small h0 j u v
    have a3 := vx_small h0 k u v
    unfold wdL
    omega
/-- the model's two corners, the program's two corners -/
theorem base_model {l : List (Int × Int)} (hg : Good l) : Base (wdL l) (subP (vx l 1) (vx l 0)) (subP (vx l 2) (vx l 0)) := by
  refine base_of hg 1 0 2 ?_
  have := hg.turn 0 (by have := hg.few; omega)
  simp only [Nat.zero_add] at this
  unfold twP twI at this
  unfold detP subP
  simp only
  intro e
  apply this
  grind
theorem base_prog {l : List (Int × Int)} (hg : Good l) : Base (wdL l) (subP (vx l (l.length - 1)) (vx l 0)) (subP (vx l 1) (vx l 0)) := by
  have hn := hg.few
  refine base_of hg (l.length - 1) 0 1 ?_
  have := hg.turn (l.length - 1) (by omega)
  rw [show l.length - 1 + 1 = l.length by omega, show l.length - 1 + 2 = l.length + 1 by omega] at this
  have e0 : vx l l.length = vx l 0 := by unfold vx; rw [Nat.mod_self, Nat.zero_mod]
  have e1 : vx l (l.length + 1) = vx l 1 := by unfold vx; rw [Nat.add_mod_left]
  rw [e0, e1] at this
  unfold twP twI at this
  unfold detP subP
  simp only
  intro e
  apply this
  grind
/-- the box has a direction of each side's length -/
theorem box_told {l : List (Int × Int)} {M : Nat} (h : wdL l 1 0 ≤ M ∨ wdL l 0 1 ≤ M) : ∃ t : Int × Int, toldB t.1 t.2 = true ∧ wdL l t.1 t.2 ≤ M := by
  rcases h with h | h
  · exact ⟨(1, 0), by decide, h⟩
  · exact ⟨(0, 1), by decide, h⟩
end Go.Proofs.Ytheddoinnakneaa
/- plain: the corners of the greatest value, in order -/
namespace Go.Proofs.Ytheddoinnakneaa
open Go.ChangeShapes Go.WideShapes Go.ChangeAt Go.RowKit Go.Joins
set_option linter.unusedVariables false
set_option linter.unusedSimpArgs false
set_option maxRecDepth 4000
/-- the corners of a value among the first k, in order -/
def supK (l : List (Int × Int)) (u v h : Int) (k : Nat) : List (Int × Int) := srt ((l.take k).filter fun p => decide (vlu u v p = h))
theorem supK_yes {l : List (Int × Int)} {u v h : Int} {k : Nat} (hk : k < l.length) (he : vlu u v (vx l k) = h) : supK l u v h (k + 1) = ins (supK l u v h k) (vx l k) := by
  unfold supK srt
  rw [List.take_add_one, vx_get hk, List.filter_append, List.foldl_append]
  simp [he]
theorem supK_no {l : List (Int × Int)} {u v h : Int} {k : Nat} (hk : k < l.length) (he : ¬ vlu u v (vx l k) = h) : supK l u v h (k + 1) = supK l u v h k := by
  unfold supK
  rw [List.take_add_one, vx_get hk, List.filter_append]
  simp [he]
theorem supK_len (l : List (Int × Int)) (u v h : Int) (k : Nat) : (supK l u v h k).length ≤ k := by
  unfold supK
  rw [srt_len]
  exact Nat.le_trans (List.length_filter_le _ _) (by rw [List.length_take]; omega)
theorem good_nodup {l : List (Int × Int)} (h : Good l) : l.Nodup := by
  rw [List.nodup_iff_pairwise_ne, List.pairwise_iff_getElem]
  intro i j hi hj hij e
  apply h.diff j i hij hj
  have e1 := vx_get hi
  have e2 := vx_get hj
  rw [List.getElem?_eq_getElem hi] at e1
  rw [List.getElem?_eq_getElem hj] at e2
  injection e1 with e1
  injection e2 with e2
  rw [← e1, ← e2, e]
theorem supK_sorted {l : List (Int × Int)} (h : l.Nodup) (u v hh : Int) (k : Nat) : (supK l u v hh k).Pairwise lxP :=
  srt_sorted ((h.sublist (List.take_sublist k l)).sublist List.filter_sublist)
theorem supK_new {l : List (Int × Int)} (h : l.Nodup) (u v hh : Int) {k : Nat} (hk : k < l.length) : vx l k ∉ supK l u v hh k := by
  unfold supK
  rw [srt_mem, List.mem_filter]
  rintro ⟨hm, _⟩
  obtain ⟨i, hi⟩ := List.mem_iff_getElem?.1 hm
  have hik : i < k := by
    rcases Nat.lt_or_ge i k with g | g
    · exact g
    · rw [List.getElem?_take, if_neg (by omega)] at hi; cases hi
  rw [List.getElem?_take, if_pos hik] at hi
  rw [List.nodup_iff_pairwise_ne, List.pairwise_iff_getElem] at h
  have e2 := vx_get hk
  rw [List.getElem?_eq_getElem (by omega)] at hi
  rw [List.getElem?_eq_getElem hk] at e2
  injection hi with hi
  injection e2 with e2
  exact h i k (by omega) hk hik (by rw [hi, e2])
/-- where a point is put in, sought from the end -/
theorem insAt_back {s : List (Int × Int)} {p : Int × Int} (hs : s.Pairwise lxP) (hp : p ∉ s) {j : Nat} (hj : j ≤ s.length) (h1 : ∀ i, j ≤ i → i < s.length → lxB p (pt s i) = true) (h2 : j = 0 ∨ lxB p (pt s (j - 1)) = false) : insAt s p = j := by
  have lt : ∀ i k, i < k → k < s.length → lxP (pt s i) (pt s k) := fun i k h hk => by
    have := (List.pairwise_iff_getElem.1 hs) i k (by omega) hk h
    have e1 := pt_get (l := s) (i := i) (by omega)
    have e2 := pt_get (l := s) (i := k) hk
    rw [List.getElem?_eq_getElem (by omega)] at e1 e2
    injection e1 with e1
    injection e2 with e2
    rw [e1, e2] at this
    exact this
  refine insAt_eq s p j (fun i hi => ?_) hj ?_
  · rcases h2 with h2 | h2
    · omega
    · rw [lxB_iff]
      have hne : pt s (j - 1) ≠ p := fun e => hp (by rw [← e]; exact pt_mem (by omega))
      have hnl : ¬ lxP p (pt s (j - 1)) := fun h => by rw [← lxB_iff, h2] at h; cases h
      have hlt : lxP (pt s (j - 1)) p := by
        unfold lxP at *
        by_cases e1 : (pt s (j - 1)).1 = p.1
        · by_cases e2 : (pt s (j - 1)).2 = p.2
          · exact absurd (Prod.ext e1 e2) hne
          · omega
        · omega
      rcases Nat.lt_or_ge i (j - 1) with g | g
      · have := lt i (j - 1) g (by omega)
        unfold lxP at *; omega
      · rw [show i = j - 1 by omega]; exact hlt
  · rcases Nat.lt_or_ge j s.length with g | g
    · right
      have := h1 j (Nat.le_refl _) g
      rw [lxB_iff] at this
      cases hb : lxB (pt s j) p
      · rfl
      · rw [lxB_iff] at hb
        unfold lxP at *; omega
    · left; omega
/-- the program: of all corners in order, those of the value -/
def supF (l : List (Int × Int)) (u v h : Int) (k : Nat) : List (Int × Int) := ((srt l).take k).filter fun p => decide (vlu u v p = h)
theorem sup_same {l : List (Int × Int)} (h : l.Nodup) (u v hh : Int) : supF l u v hh l.length = supK l u v hh l.length := by
  refine sorted_same _ _ ?_ (supK_sorted h u v hh _) (fun x => ?_)
  · exact ((srt_sorted h).sublist (List.take_sublist _ _)).sublist List.filter_sublist
  · unfold supF supK
    rw [srt_mem, List.mem_filter, List.mem_filter, List.take_of_length_le (by rw [srt_len]; exact Nat.le_refl _), List.take_of_length_le (Nat.le_refl _), srt_mem]
theorem supF_yes {l : List (Int × Int)} {u v h : Int} {k : Nat} (hk : k < (srt l).length) (he : vlu u v (pt (srt l) k) = h) : supF l u v h (k + 1) = supF l u v h k ++ [pt (srt l) k] := by
  unfold supF
  rw [List.take_add_one, pt_get hk, List.filter_append]
  simp [he]
theorem supF_no {l : List (Int × Int)} {u v h : Int} {k : Nat} (hk : k < (srt l).length) (he : ¬ vlu u v (pt (srt l) k) = h) : supF l u v h (k + 1) = supF l u v h k := by
  unfold supF
  rw [List.take_add_one, pt_get hk, List.filter_append]
  simp [he]
theorem supF_len (l : List (Int × Int)) (u v h : Int) (k : Nat) : (supF l u v h k).length ≤ k := by
  unfold supF
  exact Nat.le_trans (List.length_filter_le _ _) (by rw [List.length_take]; omega)
/-- what SupportOf tells -/
noncomputable def supP (l : List (Int × Int)) (u v : Int) : List (Int × Int) := if okW l u v = true then supK l u v (hiW l u v l.length) l.length else []
theorem supP_len (l : List (Int × Int)) (u v : Int) (h : l.length ≤ 1048576) : (supP l u v).length ≤ 1048576 := by
  unfold supP
  split
  · exact Nat.le_trans (supK_len _ _ _ _ _) h
  · simp
end Go.Proofs.Ytheddoinnakneaa
/- plain: the told directions, one after the other -/
namespace Go.Proofs.Ytheddoinnakneaa
open Go.ChangeShapes Go.WideShapes Go.ChangeAt Go.RowKit Go.Joins
set_option linter.unusedVariables false
set_option linter.unusedSimpArgs false
set_option maxRecDepth 4000
/-- the directions that are found by the first i values, and the first j of the next one -/
def dirU (W : Int → Int → Int) (most : Nat) (p q : Int × Int) (i j : Nat) : List (Int × Int) := dirAll W most p q i ++ dirRow W most p q i j
theorem dirU_zero (W : Int → Int → Int) (most : Nat) (p q : Int × Int) (i : Nat) : dirU W most p q i 0 = dirAll W most p q i := by unfold dirU; rw [dirRow, List.append_nil]
theorem dirU_all (W : Int → Int → Int) (most : Nat) (p q : Int × Int) (i : Nat) : dirU W most p q i (2 * most + 1) = dirAll W most p q (i + 1) := rfl
theorem dirU_succ (W : Int → Int → Int) (most : Nat) (p q : Int × Int) (i j : Nat) : dirU W most p q i (j + 1) = dirU W most p q i j ++ dirO W most p q ((i : Int) - most) ((j : Int) - most) := by
  unfold dirU; rw [dirRow, List.append_assoc]
theorem dirRow_sub (W : Int → Int → Int) (most : Nat) (p q : Int × Int) (i j : Nat) : ∀ d, (dirRow W most p q i j).Sublist (dirRow W most p q i (j + d))
  | 0 => List.Sublist.refl _
  | d + 1 => by
    rw [← Nat.add_assoc, dirRow]
    exact (dirRow_sub W most p q i j d).trans (List.sublist_append_left _ _)
theorem dirU_nodup {W : Int → Int → Int} {most : Nat} {p q : Int × Int} (hd : detP p q ≠ 0) {i j : Nat} (hj : j ≤ 2 * most + 1) : (dirU W most p q i j).Nodup := by
  have h := dirAll_nodup (W := W) (most := most) hd (i + 1)
  refine h.sublist ?_
  rw [dirAll]
  unfold dirU
  refine List.Sublist.append (List.Sublist.refl _) ?_
  have := dirRow_sub W most p q i j (2 * most + 1 - j)
  rw [show j + (2 * most + 1 - j) = 2 * most + 1 by omega] at this
  exact this
theorem srt_snoc (l : List (Int × Int)) (x : Int × Int) : srt (l ++ [x]) = ins (srt l) x := by
  unfold srt; rw [List.foldl_append]; rfl
theorem dirO_none {W : Int → Int → Int} {most : Int} {p q : Int × Int} {m n : Int} (h : (soX p q m n).tmod (detP p q) ≠ 0 ∨ (soY p q m n).tmod (detP p q) ≠ 0) : dirO W most p q m n = [] := by
  unfold dirO solO
  rw [if_neg (by rintro ⟨h1, h2⟩; rcases h with h | h <;> contradiction)]
theorem dirO_some {W : Int → Int → Int} {most : Int} {p q : Int × Int} {m n u v : Int} (h1 : (soX p q m n).tmod (detP p q) = 0) (h2 : (soY p q m n).tmod (detP p q) = 0) (hu : u = (soX p q m n).tdiv (detP p q)) (hv : v = (soY p q m n).tdiv (detP p q)) :
    dirO W most p q m n = if (toldB u v && decide (W u v ≤ most)) = true then [(u, v)] else [] := by
  unfold dirO solO
  rw [if_pos ⟨h1, h2⟩, ← hu, ← hv]
theorem told_less {u v : Int} (h : u < 0) : toldB u v = false := by
  unfold toldB
  rw [decide_eq_false (show ¬ 0 < u by omega), decide_eq_false (show ¬ u = 0 by omega)]
  rfl
theorem told_zero {v : Int} (h : v < 1) : toldB 0 v = false := by
  unfold toldB
  rw [decide_eq_false (show ¬ v = 1 by omega)]
  simp
theorem told_gcd {u v : Int} (h1 : ¬ u < 0) (h2 : ¬ (u = 0 ∧ v < 1)) : toldB u v = decide (Nat.gcd u.natAbs v.natAbs = 1) := by
  unfold toldB
  rcases Int.lt_or_le 0 u with h | h
  · rw [decide_eq_true h]; simp
  · obtain rfl : u = 0 := by omega
    cases hg : decide (Nat.gcd (0 : Int).natAbs v.natAbs = 1)
    · simp
    · have := of_decide_eq_true hg
      rw [show (0 : Int).natAbs = 0 from rfl, Nat.gcd_zero_left] at this
      have hv : v = 1 := by omega
      subst hv
      rfl
/-- one that is new -/
theorem dirU_new {W : Int → Int → Int} {most : Nat} {p q : Int × Int} (hd : detP p q ≠ 0) {i j : Nat} (hj : j < 2 * most + 1) {t : Int × Int} (ht : dirO W most p q ((i : Int) - most) ((j : Int) - most) = [t]) : t ∉ srt (dirU W most p q i j) := by
  rw [srt_mem]
  intro hm
  have h := dirU_nodup (W := W) (i := i) hd (show j + 1 ≤ 2 * most + 1 by omega)
  rw [dirU_succ, ht, List.nodup_append] at h
  exact h.2.2 t hm t (by simp) rfl
theorem so_bd {p q : Int × Int} {m n : Int} (hp : (-80 ≤ p.1 ∧ p.1 ≤ 80) ∧ (-80 ≤ p.2 ∧ p.2 ≤ 80)) (hq : (-80 ≤ q.1 ∧ q.1 ≤ 80) ∧ (-80 ≤ q.2 ∧ q.2 ≤ 80)) (hm : -80 ≤ m ∧ m ≤ 80) (hn : -80 ≤ n ∧ n ≤ 80) :
    ((-6400 ≤ m * q.2 ∧ m * q.2 ≤ 6400) ∧ (-6400 ≤ n * p.2 ∧ n * p.2 ≤ 6400)) ∧ ((-6400 ≤ n * p.1 ∧ n * p.1 ≤ 6400) ∧ (-6400 ≤ m * q.1 ∧ m * q.1 ≤ 6400)) := by
  obtain ⟨⟨p1, p2⟩, p3, p4⟩ := hp
  obtain ⟨⟨q1, q2⟩, q3, q4⟩ := hq
  have a1 := mul_bd (x := m) (y := q.2) (m := 80) (n := 80) hm.1 hm.2 q3 q4
  have a2 := mul_bd (x := n) (y := p.2) (m := 80) (n := 80) hn.1 hn.2 p3 p4
  have a3 := mul_bd (x := n) (y := p.1) (m := 80) (n := 80) hn.1 hn.2 p1 p2
  have a4 := mul_bd (x := m) (y := q.1) (m := 80) (n := 80) hm.1 hm.2 q1 q2
  omega
theorem tdiv_bd {a d : Int} (h1 : -12800 ≤ a) (h2 : a ≤ 12800) : -12800 ≤ a.tdiv d ∧ a.tdiv d ≤ 12800 := by
  have h : (a.tdiv d).natAbs ≤ a.natAbs := by rw [Int.natAbs_tdiv]; exact Nat.div_le_self _ _
  omega
theorem dirO_len (W : Int → Int → Int) (most : Int) (p q : Int × Int) (m n : Int) : (dirO W most p q m n).length ≤ 1 := by
  unfold dirO
  split
  · split <;> simp
  · simp
theorem dirRow_len (W : Int → Int → Int) (most : Nat) (p q : Int × Int) (i : Nat) : ∀ j, (dirRow W most p q i j).length ≤ j
  | 0 => Nat.le_refl _
  | j + 1 => by
    rw [dirRow, List.length_append]
    have := dirRow_len W most p q i j
    have := dirO_len W most p q ((i : Int) - most) ((j : Int) - most)
    omega
theorem dirAll_len (W : Int → Int → Int) (most : Nat) (p q : Int × Int) : ∀ i, (dirAll W most p q i).length ≤ i * (2 * most + 1)
  | 0 => Nat.zero_le _
  | i + 1 => by
    rw [dirAll, List.length_append, Nat.add_mul, Nat.one_mul]
    have := dirAll_len W most p q i
    have := dirRow_len W most p q i (2 * most + 1)
    omega
theorem dirU_len {W : Int → Int → Int} {most : Nat} {p q : Int × Int} (hm : most ≤ 80) {i j : Nat} (hi : i ≤ 2 * most + 1) (hj : j ≤ 2 * most + 1) : (dirU W most p q i j).length ≤ 30000 := by
  unfold dirU
  rw [List.length_append]
  have h1 := dirAll_len W most p q i
  have h2 := dirRow_len W most p q i j
  have h3 : i * (2 * most + 1) ≤ 161 * 161 := Nat.mul_le_mul (by omega) (by omega)
  omega
/-- a box of two numbers, one of our own -/
structure Bx2 (W : World) (b : Nat) (u v : Int) : Prop where
  z : b < W.heap.size
  c0 : W.cell? ⟨b, 0, none⟩ = some (.int .i64 u)
  c1 : W.cell? ⟨b, 1, none⟩ = some (.int .i64 v)
  fz : ∀ o, W.frozen? ⟨b, o, none⟩ = false
theorem bx2_below {W W' : World} {b : Nat} {u v : Int} (h : Bx2 W b u v) (hb : Below W.heap.size W W') : Bx2 W' b u v :=
  ⟨Nat.lt_of_lt_of_le h.z hb.size, ((bcell hb).1 _ _ h.z).trans h.c0, ((bcell hb).1 _ _ h.z).trans h.c1, fun o => ((bcell hb).2 _ _ h.z).trans (h.fz o)⟩
theorem bx2_new (w : World) (u v : Int) (T : TypeId) : Bx2 (w.alloc (.cells #[.int .i64 u, .int .i64 v] T)) w.heap.size u v :=
  ⟨by simp, by go_simp, by go_simp, fun o => by rw [frozen?_alloc_cells]; simp [World.frozen?]⟩
theorem bx2_store {W : World} {g : Nat} {u v : Int} (h : Bx2 W g u v) (u' v' : Int) : Bx2 ((W.setCell ⟨g, 0, none⟩ (.int .i64 u')).setCell ⟨g, 1, none⟩ (.int .i64 v')) g u' v' := by
  have e0 : (W.setCell ⟨g, 0, none⟩ (.int .i64 u')).cell? ⟨g, 1, none⟩ = some (.int .i64 v) := by
    rw [World.cell?_setCell_other _ _ _ _ (fun e => by injection e with e1 e2; cases e2)]; exact h.c1
  refine ⟨by simpa [World.setCell] using h.z, ?_, World.cell?_setCell_same _ _ _ e0, fun o => by rw [World.frozen?_setCell, World.frozen?_setCell]; exact h.fz o⟩
  rw [World.cell?_setCell_other _ _ _ _ (fun e => by injection e with e1 e2; cases e2)]
  exact World.cell?_setCell_same _ _ _ h.c0
end Go.Proofs.Ytheddoinnakneaa
/- two boxes of points, each in a block of its own, that are written -/
namespace Go.Proofs.Ytheddoinnakneaa
open Go.ChangeShapes Go.WideShapes Go.ChangeAt Go.RowKit Go.Joins
set_option linter.unusedVariables false
set_option linter.unusedSimpArgs false
set_option maxRecDepth 4000
/-- two boxes of points, each in a block of its own, and one that is looked at; the other old blocks are as in w -/
structure Two (w wr : World) (g h : Nat) (p q : Int × Int) : Prop where
  below : Below w.heap.size w wr
  g0 : wr.cell? ⟨g, 0, none⟩ = some (.int .i64 p.1)
  g1 : wr.cell? ⟨g, 1, none⟩ = some (.int .i64 p.2)
  h0 : wr.cell? ⟨h, 0, none⟩ = some (.int .i64 q.1)
  h1 : wr.cell? ⟨h, 1, none⟩ = some (.int .i64 q.2)
  gf : ∀ o, wr.frozen? ⟨g, o, none⟩ = false
  hf : ∀ o, wr.frozen? ⟨h, o, none⟩ = false
  lo1 : w.heap.size ≤ g
  lo2 : w.heap.size ≤ h
  up1 : g < wr.heap.size
  up2 : h < wr.heap.size
  ne : g ≠ h
theorem two_below {w wr W : World} {g h : Nat} {p q : Int × Int} (t : Two w wr g h p q) (hb : Below wr.heap.size wr W) : Two w W g h p q := by
  obtain ⟨t1, t2, t3, t4, t5, t6, t7, t8, t9, t10, t11, t12⟩ := t
  have hc := (bcell hb).1
  have hf := (bcell hb).2
  have hz := hb.size
  exact ⟨t1.trans (hb.mono t1.size), by rw [hc _ _ t10]; exact t2, by rw [hc _ _ t10]; exact t3, by rw [hc _ _ t11]; exact t4, by rw [hc _ _ t11]; exact t5, fun o => by rw [hf _ _ t10]; exact t6 o, fun o => by rw [hf _ _ t11]; exact t7 o, t8, t9, by omega, by omega, t12⟩
theorem two_low {w wr : World} {g h : Nat} {p q : Int × Int} (t : Two w wr g h p q) (x y : Int) : Two w ((wr.setCell ⟨g, 0, none⟩ (.int .i64 x)).setCell ⟨g, 1, none⟩ (.int .i64 y)) g h (x, y) q := by
  obtain ⟨t1, t2, t3, t4, t5, t6, t7, t8, t9, t10, t11, t12⟩ := t
  have o : ∀ oo, ((wr.setCell ⟨g, 0, none⟩ (.int .i64 x)).setCell ⟨g, 1, none⟩ (.int .i64 y)).cell? ⟨h, oo, none⟩ = wr.cell? ⟨h, oo, none⟩ := fun oo => by
    rw [World.cell?_setCell_other _ _ _ _ (fun e => t12 (by injection e)), World.cell?_setCell_other _ _ _ _ (fun e => t12 (by injection e))]
  refine ⟨(t1.setCell t8 _).setCell t8 _, ?_, ?_, by rw [o]; exact t4, by rw [o]; exact t5, fun oo => by rw [World.frozen?_setCell, World.frozen?_setCell]; exact t6 oo, fun oo => by rw [World.frozen?_setCell, World.frozen?_setCell]; exact t7 oo, t8, t9, by simpa [World.setCell] using t10, by simpa [World.setCell] using t11, t12⟩
  · rw [World.cell?_setCell_other _ _ _ _ (fun e => by injection e with e1 e2; cases e2), World.cell?_setCell_same _ _ _ t2]
  · refine World.cell?_setCell_same (wr.setCell ⟨g, 0, none⟩ (.int .i64 x)) ⟨g, 1, none⟩ (.int .i64 y) (show (wr.setCell ⟨g, 0, none⟩ (.int .i64 x)).cell? ⟨g, 1, none⟩ = some (.int .i64 p.2) from ?_)
    rw [World.cell?_setCell_other _ _ _ _ (fun e => by injection e with e1 e2; cases e2)]
    exact t3
theorem two_swap {w wr : World} {g h : Nat} {p q : Int × Int} (t : Two w wr g h p q) : Two w wr h g q p := by
  obtain ⟨t1, t2, t3, t4, t5, t6, t7, t8, t9, t10, t11, t12⟩ := t
  exact ⟨t1, t4, t5, t2, t3, t7, t6, t9, t8, t11, t10, fun e => t12 e.symm⟩
theorem two_high {w wr : World} {g h : Nat} {p q : Int × Int} (t : Two w wr g h p q) (x y : Int) : Two w ((wr.setCell ⟨h, 0, none⟩ (.int .i64 x)).setCell ⟨h, 1, none⟩ (.int .i64 y)) g h p (x, y) :=
  two_swap (two_low (two_swap t) x y)
theorem two_new {w w1 : World} {p : Int × Int} {t : TypeId} (hb : Below w.heap.size w w1) : Two w ((w1.alloc (.cells #[.int .i64 p.1, .int .i64 p.2] t)).alloc (.cells #[.int .i64 p.1, .int .i64 p.2] t)) w1.heap.size (w1.heap.size + 1) p p := by
  have hz := hb.size
  refine ⟨Below.alloc (Below.alloc hb hz _) (by simp; omega) _, by go_simp, by go_simp, by go_simp, by go_simp, fun o => ?_, fun o => ?_, hz, by omega, by simp; omega, by simp, by omega⟩
  · rw [frozen?_alloc_cells, frozen?_alloc_cells]; simp [World.frozen?]
  · rw [frozen?_alloc_cells, frozen?_alloc_cells]; simp [World.frozen?]
end Go.Proofs.Ytheddoinnakneaa
/- contract: the box around points -/
namespace Go.Proofs.Ytheddoinnakneaa
open Go.ChangeShapes Go.WideShapes Go.ChangeAt Go.RowKit Go.Joins
set_option linter.unusedVariables false
set_option linter.unusedSimpArgs false
set_option maxRecDepth 4000
theorem min_if (x y : Int) : (if y < x then y else x) = min x y := by omega
theorem max_if (x y : Int) : (if x < y then y else x) = max x y := by omega
set_option maxRecDepth 100000 in
set_option maxHeartbeats 4000000 in
theorem boxAround_any (A : Option Addr) (c : Nat) (l : List (Int × Int)) (w : World) (h1 : 1 ≤ l.length) (hn : l.length ≤ 1000) (hR : Rd w w.heap.size A l) :
    Calls Try.prog 90 #[.slice A l.length c] w fun e w' => e = .returned (.tuple #[.agg #[.int .i64 (loN l l.length).1, .int .i64 (loN l l.length).2], .agg #[.int .i64 (hiN l l.length).1, .int .i64 (hiN l l.length).2]]) ∧ Below w.heap.size w w' := by
  obtain ⟨b, off, rfl, hb, HC⟩ := pts_of (by omega) hR
  clear hR
  generalize hN : l.length = n at *
  clear hN
  go_enter Try.func90, Try.ntmps90
  go_wp2_with fail
  obtain ⟨w1, hw1⟩ : ∃ w1, w1 = ((w.alloc (.cells #[.int .i64 0, .int .i64 0] 56)).alloc (.cells #[.int .i64 0, .int .i64 0] 56)) := ⟨_, rfl⟩
  rw [← hw1]
  have yw10_0 : w1.cell? ⟨w.heap.size, 0, none⟩ = some (.int .i64 0) := by rw [hw1]; go_simp
  have yw10_1 : w1.cell? ⟨w.heap.size, 1, none⟩ = some (.int .i64 0) := by rw [hw1]; go_simp
  have fw10 : ∀ o, w1.frozen? ⟨w.heap.size, o, none⟩ = false := by intro o; rw [hw1]; (repeat rw [frozen?_alloc_cells]); simp [World.frozen?]
  have zw10 : w.heap.size < w1.heap.size := by rw [hw1]; simp <;> omega
  have yw11_0 : w1.cell? ⟨w.heap.size + 1, 0, none⟩ = some (.int .i64 0) := by rw [hw1]; go_simp
  have yw11_1 : w1.cell? ⟨w.heap.size + 1, 1, none⟩ = some (.int .i64 0) := by rw [hw1]; go_simp
  have fw11 : ∀ o, w1.frozen? ⟨w.heap.size + 1, o, none⟩ = false := by intro o; rw [hw1]; (repeat rw [frozen?_alloc_cells]); simp [World.frozen?]
  have zw11 : w.heap.size + 1 < w1.heap.size := by rw [hw1]; simp <;> omega
  have Bw1 : Below w.heap.size w w1 := by rw [hw1]; exact (Below.alloc (Below.alloc (Below.refl _ _) (by simp <;> omega) _) (by simp <;> omega) _)
  have ew1 : Hid (w1.heap.size = w.heap.size + 2) := Lib.hid (by rw [hw1]; simp)
  clear hw1
  have x0 := HC.out w1 Bw1 0 (by omega)
  simp only [Nat.zero_mul, Nat.add_zero] at x0
  obtain ⟨x0, x1⟩ := x0
  have hbz : b < w1.heap.size := by omega
  have hn0 : 0 < n := by omega
  have RC := Lib.hid (And.intro yw10_0 (And.intro yw10_1 (And.intro yw11_0 yw11_1)))
  have RF := Lib.hid (And.intro fw10 fw11)
  have q1 := zw10
  have q2 := zw11
  have hb1 := Bw1
  clear yw10_0 yw10_1 yw11_0 yw11_1 fw10 fw11 zw10 zw11 Bw1
  go_region
  · skip
    have T0 := Lib.hid (two_new (p := vx l 0) (t := 56) (Below.refl w1.heap.size w1))
    obtain ⟨W0, hW0⟩ : ∃ W0, W0 = ((w1.alloc (.cells #[.int .i64 (vx l 0).1, .int .i64 (vx l 0).2] 56)).alloc (.cells #[.int .i64 (vx l 0).1, .int .i64 (vx l 0).2] 56)) := ⟨_, rfl⟩
    rw [← hW0] at T0 ⊢
    clear hW0 x0 x1
    obtain ⟨h, hp⟩ : ∃ x, x = w1.heap.size + 1 := ⟨_, rfl⟩
    rw [← hp] at T0 ⊢
    obtain ⟨g, hq⟩ : ∃ x, x = w1.heap.size := ⟨_, rfl⟩
    rw [← hq] at T0 ⊢
    have HQ1 := Lib.hid (show w.heap.size < w1.heap.size from q1)
    clear hp hq
    have T1 : Hid (Two w1 W0.drew g h (loN l 0) (hiN l 0)) := Lib.hid (by have := T0.out; exact ⟨this.below.drew, this.g0, this.g1, this.h0, this.h1, this.gf, this.hf, this.lo1, this.lo2, this.up1, this.up2, this.ne⟩)
    clear T0
    go_wp2_with fail
    go_loopg [16] n (fun gg i wr => ∃ k : Nat, k ≤ n ∧ gg = n - k ∧ i = .int .i64 k ∧ Hid (Two w1 wr g h (loN l k) (hiN l k)))
    case atStart => exact ⟨0, Nat.zero_le _, rfl, rfl, T1⟩
    case round =>
      clear T1
      obtain ⟨k, hk, hgg, rfl, hT⟩ := hrel
      rename World => wo
      have HGK := Lib.hid hgg
      clear hgg
      have t1 := hT.out.g0
      have t2 := hT.out.g1
      have t3 := hT.out.h0
      have t4 := hT.out.h1
      have t5 := hT.out.up1
      have t6 := hT.out.up2
      have t7 := hT.out.gf 0
      have t8 := hT.out.gf 1
      have t9 := hT.out.hf 0
      have t10 := hT.out.hf 1
      have tn := hT.out.ne
      have zw := hT.out.below.size
      by_cases hlt : k < n
      · obtain ⟨x0, x1⟩ := HC.out wo (hb1.trans (hT.out.below.mono hb1.size)) k hlt
        have hbo : b < wo.heap.size := by omega
        have L1 : Hid (loN l (k + 1) = (min (loN l k).1 (vx l k).1, min (loN l k).2 (vx l k).2)) := Lib.hid rfl
        have L2 : Hid (hiN l (k + 1) = (max (hiN l k).1 (vx l k).1, max (hiN l k).2 (vx l k).2)) := Lib.hid rfl
        have T2 := Lib.hid (two_high (two_low hT.out (min (loN l k).1 (vx l k).1) (min (loN l k).2 (vx l k).2)) (max (hiN l k).1 (vx l k).1) (max (hiN l k).2 (vx l k).2))
        have T3 := Lib.hid (two_below T2.out (Below.alloc (Below.refl _ _) (Nat.le_refl _) (.cells #[.int .i64 (vx l k).1, .int .i64 (vx l k).2] 56)))
        clear T2
        have mn := min_if
        have mx := max_if
        have cg : g ≠ wo.heap.size := by omega
        have ch : h ≠ wo.heap.size := by omega
        go_wp2_with fail
        go_roundg (n - (k + 1))
        case measure => have := HGK.out; omega
        case rel => exact ⟨k + 1, by omega, rfl, by go_num, Lib.hid (by rw [L1.out, L2.out]; exact T3.out)⟩
      · have hk3 : n = k := by omega
        subst hk3
        obtain ⟨r0, r1, r2, r3⟩ := RC.out
        have y0 := (hT.out.below.cell (p := ⟨w.heap.size, 0, none⟩) q1).trans r0
        have y1 := (hT.out.below.cell (p := ⟨w.heap.size, 1, none⟩) q1).trans r1
        have y2 := (hT.out.below.cell (p := ⟨w.heap.size + 1, 0, none⟩) q2).trans r2
        have y3 := (hT.out.below.cell (p := ⟨w.heap.size + 1, 1, none⟩) q2).trans r3
        have f0 := (hT.out.below.frozen (p := ⟨w.heap.size, 0, none⟩) q1).trans (RF.out.1 0)
        have f1 := (hT.out.below.frozen (p := ⟨w.heap.size, 1, none⟩) q1).trans (RF.out.1 1)
        have f2 := (hT.out.below.frozen (p := ⟨w.heap.size + 1, 0, none⟩) q2).trans (RF.out.2 0)
        have f3 := (hT.out.below.frozen (p := ⟨w.heap.size + 1, 1, none⟩) q2).trans (RF.out.2 1)
        have zr0 : w.heap.size < wo.heap.size := by omega
        have zr1 : w.heap.size + 1 < wo.heap.size := by omega
        have BW := hb1.trans (hT.out.below.mono hb1.size)
        have l1 := hT.out.lo1
        have l2 := hT.out.lo2
        have n1 : g ≠ w.heap.size := by omega
        have n2 : g ≠ w.heap.size + 1 := by omega
        have n3 : h ≠ w.heap.size := by omega
        have n4 : h ≠ w.heap.size + 1 := by omega
        have n5 := Ne.symm n1
        have n6 := Ne.symm n2
        have n7 := Ne.symm n3
        have n8 := Ne.symm n4
        clear r0 r1 r2 r3 hT l1 l2
        go_wp2_with fail
        go_region
        go_wp2_with fail
        refine bodyPost_ret (v := .tuple #[.agg #[.int .i64 (loN l n).1, .int .i64 (loN l n).2], .agg #[.int .i64 (hiN l n).1, .int .i64 (hiN l n).2]]) (by simp [results, Try.results90, go_sem, zr0, zr1, y0, y1, y2, y3]) rfl ⟨rfl, ?_⟩
        repeat (first | with_reducible assumption | with_reducible exact Below.refl _ _ | with_reducible apply Below.drew | ((with_reducible refine Below.setCell ?_ ?_ _); rotate_left; (first | exact Nat.le_refl _ | omega | (simp <;> omega))) | ((with_reducible refine Below.alloc ?_ ?_ _); rotate_left; (first | omega | (simp <;> omega))))
  · skip
    have T0 := Lib.hid (two_swap (two_new (p := vx l 0) (t := 56) (Below.refl w1.heap.size w1)))
    obtain ⟨W0, hW0⟩ : ∃ W0, W0 = ((w1.alloc (.cells #[.int .i64 (vx l 0).1, .int .i64 (vx l 0).2] 56)).alloc (.cells #[.int .i64 (vx l 0).1, .int .i64 (vx l 0).2] 56)) := ⟨_, rfl⟩
    rw [← hW0] at T0 ⊢
    clear hW0 x0 x1
    obtain ⟨g, hp⟩ : ∃ x, x = w1.heap.size + 1 := ⟨_, rfl⟩
    rw [← hp] at T0 ⊢
    obtain ⟨h, hq⟩ : ∃ x, x = w1.heap.size := ⟨_, rfl⟩
    rw [← hq] at T0 ⊢
    have HQ1 := Lib.hid (show w.heap.size < w1.heap.size from q1)
    clear hp hq
    have T1 : Hid (Two w1 W0.drew g h (loN l 0) (hiN l 0)) := Lib.hid (by have := T0.out; exact ⟨this.below.drew, this.g0, this.g1, this.h0, this.h1, this.gf, this.hf, this.lo1, this.lo2, this.up1, this.up2, this.ne⟩)
    clear T0
    go_wp2_with fail
    go_loopg [16] n (fun gg i wr => ∃ k : Nat, k ≤ n ∧ gg = n - k ∧ i = .int .i64 k ∧ Hid (Two w1 wr g h (loN l k) (hiN l k)))
    case atStart => exact ⟨0, Nat.zero_le _, rfl, rfl, T1⟩
    case round =>
      clear T1
      obtain ⟨k, hk, hgg, rfl, hT⟩ := hrel
      rename World => wo
      have HGK := Lib.hid hgg
      clear hgg
      have t1 := hT.out.g0
      have t2 := hT.out.g1
      have t3 := hT.out.h0
      have t4 := hT.out.h1
      have t5 := hT.out.up1
      have t6 := hT.out.up2
      have t7 := hT.out.gf 0
      have t8 := hT.out.gf 1
      have t9 := hT.out.hf 0
      have t10 := hT.out.hf 1
      have tn := hT.out.ne
      have zw := hT.out.below.size
      by_cases hlt : k < n
      · obtain ⟨x0, x1⟩ := HC.out wo (hb1.trans (hT.out.below.mono hb1.size)) k hlt
        have hbo : b < wo.heap.size := by omega
        have L1 : Hid (loN l (k + 1) = (min (loN l k).1 (vx l k).1, min (loN l k).2 (vx l k).2)) := Lib.hid rfl
        have L2 : Hid (hiN l (k + 1) = (max (hiN l k).1 (vx l k).1, max (hiN l k).2 (vx l k).2)) := Lib.hid rfl
        have T2 := Lib.hid (two_high (two_low hT.out (min (loN l k).1 (vx l k).1) (min (loN l k).2 (vx l k).2)) (max (hiN l k).1 (vx l k).1) (max (hiN l k).2 (vx l k).2))
        have T3 := Lib.hid (two_below T2.out (Below.alloc (Below.refl _ _) (Nat.le_refl _) (.cells #[.int .i64 (vx l k).1, .int .i64 (vx l k).2] 56)))
        clear T2
        have mn := min_if
        have mx := max_if
        have cg : g ≠ wo.heap.size := by omega
        have ch : h ≠ wo.heap.size := by omega
        go_wp2_with fail
        go_roundg (n - (k + 1))
        case measure => have := HGK.out; omega
        case rel => exact ⟨k + 1, by omega, rfl, by go_num, Lib.hid (by rw [L1.out, L2.out]; exact T3.out)⟩
      · have hk3 : n = k := by omega
        subst hk3
        obtain ⟨r0, r1, r2, r3⟩ := RC.out
        have y0 := (hT.out.below.cell (p := ⟨w.heap.size, 0, none⟩) q1).trans r0
        have y1 := (hT.out.below.cell (p := ⟨w.heap.size, 1, none⟩) q1).trans r1
        have y2 := (hT.out.below.cell (p := ⟨w.heap.size + 1, 0, none⟩) q2).trans r2
        have y3 := (hT.out.below.cell (p := ⟨w.heap.size + 1, 1, none⟩) q2).trans r3
        have f0 := (hT.out.below.frozen (p := ⟨w.heap.size, 0, none⟩) q1).trans (RF.out.1 0)
        have f1 := (hT.out.below.frozen (p := ⟨w.heap.size, 1, none⟩) q1).trans (RF.out.1 1)
        have f2 := (hT.out.below.frozen (p := ⟨w.heap.size + 1, 0, none⟩) q2).trans (RF.out.2 0)
        have f3 := (hT.out.below.frozen (p := ⟨w.heap.size + 1, 1, none⟩) q2).trans (RF.out.2 1)
        have zr0 : w.heap.size < wo.heap.size := by omega
        have zr1 : w.heap.size + 1 < wo.heap.size := by omega
        have BW := hb1.trans (hT.out.below.mono hb1.size)
        have l1 := hT.out.lo1
        have l2 := hT.out.lo2
        have n1 : g ≠ w.heap.size := by omega
        have n2 : g ≠ w.heap.size + 1 := by omega
        have n3 : h ≠ w.heap.size := by omega
        have n4 : h ≠ w.heap.size + 1 := by omega
        have n5 := Ne.symm n1
        have n6 := Ne.symm n2
        have n7 := Ne.symm n3
        have n8 := Ne.symm n4
        clear r0 r1 r2 r3 hT l1 l2
        go_wp2_with fail
        go_region
        go_wp2_with fail
        refine bodyPost_ret (v := .tuple #[.agg #[.int .i64 (loN l n).1, .int .i64 (loN l n).2], .agg #[.int .i64 (hiN l n).1, .int .i64 (hiN l n).2]]) (by simp [results, Try.results90, go_sem, zr0, zr1, y0, y1, y2, y3]) rfl ⟨rfl, ?_⟩
        repeat (first | with_reducible assumption | with_reducible exact Below.refl _ _ | with_reducible apply Below.drew | ((with_reducible refine Below.setCell ?_ ?_ _); rotate_left; (first | exact Nat.le_refl _ | omega | (simp <;> omega))) | ((with_reducible refine Below.alloc ?_ ?_ _); rotate_left; (first | omega | (simp <;> omega))))
end Go.Proofs.Ytheddoinnakneaa
/- contracts: BoxOf, the program -/
namespace Go.Proofs.Ytheddoinnakneaa
open Go.ChangeShapes Go.WideShapes Go.ChangeAt Go.RowKit Go.Joins
set_option linter.unusedVariables false
set_option linter.unusedSimpArgs false
set_option maxRecDepth 4000
/-- what BoxOf returns -/
noncomputable def boS (l : List (Int × Int)) (i : Nat) : Int := if goodB l = true then (if i = 0 then (loN l l.length).1 else if i = 1 then (loN l l.length).2 else if i = 2 then (hiN l l.length).1 else (hiN l l.length).2) else 0
theorem boS_f {l : List (Int × Int)} (h : goodB l = false) (i : Nat) : boS l i = 0 := by unfold boS; rw [h]; rfl
theorem boS_0 {l : List (Int × Int)} (h : goodB l = true) : boS l 0 = (loN l l.length).1 := by unfold boS; rw [if_pos h]; rfl
theorem boS_1 {l : List (Int × Int)} (h : goodB l = true) : boS l 1 = (loN l l.length).2 := by unfold boS; rw [if_pos h]; rfl
theorem boS_2 {l : List (Int × Int)} (h : goodB l = true) : boS l 2 = (hiN l l.length).1 := by unfold boS; rw [if_pos h]; rfl
theorem boS_3 {l : List (Int × Int)} (h : goodB l = true) : boS l 3 = (hiN l l.length).2 := by unfold boS; rw [if_pos h]; rfl
end Go.Proofs.Ytheddoinnakneaa
/- contracts: the model's sums around a polygon -/
namespace Go.Proofs.Ytheddoinnakneaa
open Go.ChangeShapes Go.WideShapes Go.ChangeAt Go.RowKit Go.Joins
set_option linter.unusedVariables false
set_option linter.unusedSimpArgs false
set_option maxRecDepth 4000
end Go.Proofs.Ytheddoinnakneaa
/- contract: the sign of a number -/
namespace Go.Proofs.Ytheddoinnakneaa
open Go.ChangeShapes Go.WideShapes Go.ChangeAt Go.RowKit Go.Joins
set_option linter.unusedVariables false
set_option linter.unusedSimpArgs false
set_option maxRecDepth 4000
theorem l1Sign_any (n : Int) (w : World) :
    Calls Try.prog 122 #[.int .i64 n] w fun e w' => e = .returned (.int .i64 (sgn n)) ∧ w = w' := by
  have s1 : 0 < n → sgn n = 1 := fun h => by unfold sgn; rw [if_pos h]
  have s2 : n < 0 → sgn n = -1 := fun h => by unfold sgn; rw [if_neg (by omega), if_pos h]
  have s3 : n = 0 → sgn n = 0 := fun h => by unfold sgn; rw [if_neg (by omega), if_neg (by omega)]
  have S1 := Lib.hid s1
  have S2 := Lib.hid s2
  have S3 := Lib.hid s3
  clear s1 s2 s3
  rcases Int.lt_trichotomy n 0 with h | h | h
  all_goals
    go_enter Try.func122, Try.ntmps122
    go_wp2
    go_ret
    exact ⟨ret_int (by first | (rw [S1.out (by omega)]; done) | (rw [S2.out (by omega)]; done) | (rw [S3.out (by omega)]; done)), rfl⟩
end Go.Proofs.Ytheddoinnakneaa
/- contract: do two lines meet, the model -/
namespace Go.Proofs.Ytheddoinnakneaa
open Go.ChangeShapes Go.WideShapes Go.ChangeAt Go.RowKit Go.Joins
set_option linter.unusedVariables false
set_option linter.unusedSimpArgs false
set_option maxRecDepth 4000
set_option maxHeartbeats 2000000 in
theorem pgMeet_any (a1 a2 b1 b2 c1 c2 d1 d2 : Int) (w : World) (ha : Sz a1 a2) (hb : Sz b1 b2) (hc : Sz c1 c2) (hd : Sz d1 d2) :
    Calls Try.prog 85 #[.agg #[.int .i64 a1, .int .i64 a2], .agg #[.int .i64 b1, .int .i64 b2], .agg #[.int .i64 c1, .int .i64 c2], .agg #[.int .i64 d1, .int .i64 d2]] w fun e w' => e = .returned (.bool (meetB a1 a2 b1 b2 c1 c2 d1 d2)) ∧ Below w.heap.size w w' := by
  have K1 := Lib.hid (fun W => pgOn_any a1 a2 b1 b2 c1 c2 W ha hb hc)
  have K2 := Lib.hid (fun W => pgOn_any a1 a2 b1 b2 d1 d2 W ha hb hd)
  have K3 := Lib.hid (fun W => pgOn_any c1 c2 d1 d2 a1 a2 W hc hd ha)
  have K4 := Lib.hid (fun W => pgOn_any c1 c2 d1 d2 b1 b2 W hc hd hb)
  have T1 := Lib.hid (fun W => pgTurn_any a1 a2 b1 b2 c1 c2 W ha hb hc)
  have T2 := Lib.hid (fun W => pgTurn_any a1 a2 b1 b2 d1 d2 W ha hb hd)
  have T3 := Lib.hid (fun W => pgTurn_any c1 c2 d1 d2 a1 a2 W hc hd ha)
  have T4 := Lib.hid (fun W => pgTurn_any c1 c2 d1 d2 b1 b2 W hc hd hb)
  clear ha hb hc hd
  have eq : meetB a1 a2 b1 b2 c1 c2 d1 d2 = (onB a1 a2 b1 b2 c1 c2 || onB a1 a2 b1 b2 d1 d2 || onB c1 c2 d1 d2 a1 a2 || onB c1 c2 d1 d2 b1 b2 ||
      (decide (sgn (twI a1 a2 b1 b2 c1 c2) * sgn (twI a1 a2 b1 b2 d1 d2) < 0) && decide (sgn (twI c1 c2 d1 d2 a1 a2) * sgn (twI c1 c2 d1 d2 b1 b2) < 0))) := by
    unfold meetB; simp only [sgn_mul, Bool.decide_and]
  rw [eq]
  clear eq
  obtain ⟨p1, p2⟩ := sgn_pr (twI a1 a2 b1 b2 c1 c2) (twI a1 a2 b1 b2 d1 d2)
  obtain ⟨p3, p4⟩ := sgn_pr (twI c1 c2 d1 d2 a1 a2) (twI c1 c2 d1 d2 b1 b2)
  generalize twI a1 a2 b1 b2 c1 c2 = t1 at *
  generalize twI a1 a2 b1 b2 d1 d2 = t2 at *
  generalize twI c1 c2 d1 d2 a1 a2 = t3 at *
  generalize twI c1 c2 d1 d2 b1 b2 = t4 at *
  generalize onB a1 a2 b1 b2 c1 c2 = o1 at *
  generalize onB a1 a2 b1 b2 d1 d2 = o2 at *
  generalize onB c1 c2 d1 d2 a1 a2 = o3 at *
  generalize onB c1 c2 d1 d2 b1 b2 = o4 at *
  cases o1
  · go_enter Try.func85, Try.ntmps85
    go_wp2_with fail
    refine (K1.out _).mono ?_; rintro e w1 ⟨rfl, hb1⟩
    obtain ⟨hc1, hf1⟩ := bcell hb1
    have z1_0 : w.heap.size < w1.heap.size := by (have := hb1.size; simp at this; omega)
    have z1_1 : w.heap.size + 1 < w1.heap.size := by (have := hb1.size; simp at this; omega)
    have z1_2 : w.heap.size + 2 < w1.heap.size := by (have := hb1.size; simp at this; omega)
    have z1_3 : w.heap.size + 3 < w1.heap.size := by (have := hb1.size; simp at this; omega)
    have B1 : Below w.heap.size w w1 := (Below.alloc (Below.alloc (Below.alloc (Below.alloc (Below.refl _ _) (by simp <;> omega) _) (by simp <;> omega) _) (by simp <;> omega) _) (by simp <;> omega) _).trans (hb1.mono (by simp <;> omega))
    go_wp2_with fail
    cases o2
    · refine (K2.out _).mono ?_; rintro e w2 ⟨rfl, hb2⟩
      obtain ⟨hc2, hf2⟩ := bcell hb2
      have z2_0 : w.heap.size < w2.heap.size := by (have := hb2.size; omega)
      have z2_1 : w.heap.size + 1 < w2.heap.size := by (have := hb2.size; omega)
      have z2_2 : w.heap.size + 2 < w2.heap.size := by (have := hb2.size; omega)
      have z2_3 : w.heap.size + 3 < w2.heap.size := by (have := hb2.size; omega)
      have B2 : Below w.heap.size w w2 := B1.trans (hb2.mono (by have := B1.size; omega))
      go_wp2_with fail
      cases o3
      · refine (K3.out _).mono ?_; rintro e w3 ⟨rfl, hb3⟩
        obtain ⟨hc3, hf3⟩ := bcell hb3
        have z3_0 : w.heap.size < w3.heap.size := by (have := hb3.size; omega)
        have z3_1 : w.heap.size + 1 < w3.heap.size := by (have := hb3.size; omega)
        have z3_2 : w.heap.size + 2 < w3.heap.size := by (have := hb3.size; omega)
        have z3_3 : w.heap.size + 3 < w3.heap.size := by (have := hb3.size; omega)
        have B3 : Below w.heap.size w w3 := B2.trans (hb3.mono (by have := B2.size; omega))
        go_wp2_with fail
        cases o4
        · refine (K4.out _).mono ?_; rintro e w4 ⟨rfl, hb4⟩
          obtain ⟨hc4, hf4⟩ := bcell hb4
          have z4_0 : w.heap.size < w4.heap.size := by (have := hb4.size; omega)
          have z4_1 : w.heap.size + 1 < w4.heap.size := by (have := hb4.size; omega)
          have z4_2 : w.heap.size + 2 < w4.heap.size := by (have := hb4.size; omega)
          have z4_3 : w.heap.size + 3 < w4.heap.size := by (have := hb4.size; omega)
          have B4 : Below w.heap.size w w4 := B3.trans (hb4.mono (by have := B3.size; omega))
          go_wp2_with fail
          have hS : Below w.heap.size w w4 ∧ w.heap.size + 3 < w4.heap.size ∧ w4.cell? ⟨w.heap.size, 0, none⟩ = some (.int .i64 a1) ∧ w4.cell? ⟨w.heap.size, 1, none⟩ = some (.int .i64 a2) ∧ w4.cell? ⟨w.heap.size + 1, 0, none⟩ = some (.int .i64 b1) ∧ w4.cell? ⟨w.heap.size + 1, 1, none⟩ = some (.int .i64 b2) ∧ w4.cell? ⟨w.heap.size + 2, 0, none⟩ = some (.int .i64 c1) ∧ w4.cell? ⟨w.heap.size + 2, 1, none⟩ = some (.int .i64 c2) ∧ w4.cell? ⟨w.heap.size + 3, 0, none⟩ = some (.int .i64 d1) ∧ w4.cell? ⟨w.heap.size + 3, 1, none⟩ = some (.int .i64 d2) := ⟨B4, z4_3, by rw [hc4 _ _ (by omega), hc3 _ _ (by omega), hc2 _ _ (by omega), hc1 _ _ (by simp <;> omega)]; go_simp, by rw [hc4 _ _ (by omega), hc3 _ _ (by omega), hc2 _ _ (by omega), hc1 _ _ (by simp <;> omega)]; go_simp, by rw [hc4 _ _ (by omega), hc3 _ _ (by omega), hc2 _ _ (by omega), hc1 _ _ (by simp <;> omega)]; go_simp, by rw [hc4 _ _ (by omega), hc3 _ _ (by omega), hc2 _ _ (by omega), hc1 _ _ (by simp <;> omega)]; go_simp, by rw [hc4 _ _ (by omega), hc3 _ _ (by omega), hc2 _ _ (by omega), hc1 _ _ (by simp <;> omega)]; go_simp, by rw [hc4 _ _ (by omega), hc3 _ _ (by omega), hc2 _ _ (by omega), hc1 _ _ (by simp <;> omega)]; go_simp, by rw [hc4 _ _ (by omega), hc3 _ _ (by omega), hc2 _ _ (by omega), hc1 _ _ (by simp <;> omega)]; go_simp, by rw [hc4 _ _ (by omega), hc3 _ _ (by omega), hc2 _ _ (by omega), hc1 _ _ (by simp <;> omega)]; go_simp⟩
          clear hc1 hf1 hc2 hf2 hc3 hf3 hc4 hf4 hb1 hb2 hb3 hb4 B1 B2 B3 B4
          clear z1_0 z1_1 z1_2 z1_3 z2_0 z2_1 z2_2 z2_3 z3_0 z3_1 z3_2 z3_3 z4_0 z4_1 z4_2 z4_3
          have e1 : IntKind.i64.wrap (sgn t1 * sgn t2) = sgn t1 * sgn t2 := IntWalk.i64_in _ (by omega)
          have e2 : IntKind.i64.wrap (sgn t3 * sgn t4) = sgn t3 * sgn t4 := IntWalk.i64_in _ (by omega)
          by_cases hm : sgn t1 * sgn t2 < 0
          · have hd := decide_eq_true hm
            refine wp_region_B (fun W => Below w.heap.size w W ∧ w.heap.size + 3 < W.heap.size ∧ W.cell? ⟨w.heap.size, 0, none⟩ = some (.int .i64 a1) ∧ W.cell? ⟨w.heap.size, 1, none⟩ = some (.int .i64 a2) ∧ W.cell? ⟨w.heap.size + 1, 0, none⟩ = some (.int .i64 b1) ∧ W.cell? ⟨w.heap.size + 1, 1, none⟩ = some (.int .i64 b2) ∧ W.cell? ⟨w.heap.size + 2, 0, none⟩ = some (.int .i64 c1) ∧ W.cell? ⟨w.heap.size + 2, 1, none⟩ = some (.int .i64 c2) ∧ W.cell? ⟨w.heap.size + 3, 0, none⟩ = some (.int .i64 d1) ∧ W.cell? ⟨w.heap.size + 3, 1, none⟩ = some (.int .i64 d2)) (by kernel_rfl) (held4 hS ((Below.refl _ _).drew)) ?_
            first | refine wpB_skip 0 rfl (by kernel_rfl) (by kernel_rfl) (by kernel_rfl) (by rfl) ?_ | (refine wpB_text 0 (v := ?_) rfl (by kernel_rfl) (by kernel_rfl) (by kernel_rfl) (by rfl) (fun W hW => ?_) ?_; rotate_left; (obtain ⟨k1, k2, k3, k4, k5, k6, k7, k8, k9, k10⟩ := hW;  go_simp; refine comes_v ?_; exact ⟨k1, k2, k3, k4, k5, k6, k7, k8, k9, k10⟩))
            (try simp only [Act.put, List.setIfInBounds_toArray, List.set_cons_zero, List.set_cons_succ])
            first | refine wpB_skip 1 rfl (by kernel_rfl) (by kernel_rfl) (by kernel_rfl) (by rfl) ?_ | (refine wpB_text 1 (v := ?_) rfl (by kernel_rfl) (by kernel_rfl) (by kernel_rfl) (by rfl) (fun W hW => ?_) ?_; rotate_left; (obtain ⟨k1, k2, k3, k4, k5, k6, k7, k8, k9, k10⟩ := hW;  go_simp; refine comes_v ?_; exact ⟨k1, k2, k3, k4, k5, k6, k7, k8, k9, k10⟩))
            (try simp only [Act.put, List.setIfInBounds_toArray, List.set_cons_zero, List.set_cons_succ])
            first | refine wpB_skip 2 rfl (by kernel_rfl) (by kernel_rfl) (by kernel_rfl) (by rfl) ?_ | (refine wpB_text 2 (v := ?_) rfl (by kernel_rfl) (by kernel_rfl) (by kernel_rfl) (by rfl) (fun W hW => ?_) ?_; rotate_left; (obtain ⟨k1, k2, k3, k4, k5, k6, k7, k8, k9, k10⟩ := hW;  go_simp; refine comes_v ?_; exact ⟨k1, k2, k3, k4, k5, k6, k7, k8, k9, k10⟩))
            (try simp only [Act.put, List.setIfInBounds_toArray, List.set_cons_zero, List.set_cons_succ])
            first | refine wpB_skip 3 rfl (by kernel_rfl) (by kernel_rfl) (by kernel_rfl) (by rfl) ?_ | (refine wpB_text 3 (v := .int .i64 t1) rfl (by kernel_rfl) (by kernel_rfl) (by kernel_rfl) (by rfl) (fun W hW => ?_) ?_; (obtain ⟨k1, k2, k3, k4, k5, k6, k7, k8, k9, k10⟩ := hW;  go_simp; exact comes_c ( T1.out _) (fun wn hbn => held4 ⟨k1, k2, k3, k4, k5, k6, k7, k8, k9, k10⟩ hbn)))
            (try simp only [Act.put, List.setIfInBounds_toArray, List.set_cons_zero, List.set_cons_succ])
            first | refine wpB_skip 4 rfl (by kernel_rfl) (by kernel_rfl) (by kernel_rfl) (by rfl) ?_ | (refine wpB_text 4 (v := .int .i64 (sgn t1)) rfl (by kernel_rfl) (by kernel_rfl) (by kernel_rfl) (by rfl) (fun W hW => ?_) ?_; (obtain ⟨k1, k2, k3, k4, k5, k6, k7, k8, k9, k10⟩ := hW;  go_simp; exact comes_q ( l1Sign_any _ _) ⟨k1, k2, k3, k4, k5, k6, k7, k8, k9, k10⟩))
            (try simp only [Act.put, List.setIfInBounds_toArray, List.set_cons_zero, List.set_cons_succ])
            first | refine wpB_skip 5 rfl (by kernel_rfl) (by kernel_rfl) (by kernel_rfl) (by rfl) ?_ | (refine wpB_text 5 (v := ?_) rfl (by kernel_rfl) (by kernel_rfl) (by kernel_rfl) (by rfl) (fun W hW => ?_) ?_; rotate_left; (obtain ⟨k1, k2, k3, k4, k5, k6, k7, k8, k9, k10⟩ := hW;  go_simp; refine comes_v ?_; exact ⟨k1, k2, k3, k4, k5, k6, k7, k8, k9, k10⟩))
            (try simp only [Act.put, List.setIfInBounds_toArray, List.set_cons_zero, List.set_cons_succ])
            first | refine wpB_skip 6 rfl (by kernel_rfl) (by kernel_rfl) (by kernel_rfl) (by rfl) ?_ | (refine wpB_text 6 (v := ?_) rfl (by kernel_rfl) (by kernel_rfl) (by kernel_rfl) (by rfl) (fun W hW => ?_) ?_; rotate_left; (obtain ⟨k1, k2, k3, k4, k5, k6, k7, k8, k9, k10⟩ := hW;  go_simp; refine comes_v ?_; exact ⟨k1, k2, k3, k4, k5, k6, k7, k8, k9, k10⟩))
            (try simp only [Act.put, List.setIfInBounds_toArray, List.set_cons_zero, List.set_cons_succ])
            first | refine wpB_skip 7 rfl (by kernel_rfl) (by kernel_rfl) (by kernel_rfl) (by rfl) ?_ | (refine wpB_text 7 (v := ?_) rfl (by kernel_rfl) (by kernel_rfl) (by kernel_rfl) (by rfl) (fun W hW => ?_) ?_; rotate_left; (obtain ⟨k1, k2, k3, k4, k5, k6, k7, k8, k9, k10⟩ := hW;  go_simp; refine comes_v ?_; exact ⟨k1, k2, k3, k4, k5, k6, k7, k8, k9, k10⟩))
            (try simp only [Act.put, List.setIfInBounds_toArray, List.set_cons_zero, List.set_cons_succ])
            first | refine wpB_skip 8 rfl (by kernel_rfl) (by kernel_rfl) (by kernel_rfl) (by rfl) ?_ | (refine wpB_text 8 (v := .int .i64 t2) rfl (by kernel_rfl) (by kernel_rfl) (by kernel_rfl) (by rfl) (fun W hW => ?_) ?_; (obtain ⟨k1, k2, k3, k4, k5, k6, k7, k8, k9, k10⟩ := hW;  go_simp; exact comes_c ( T2.out _) (fun wn hbn => held4 ⟨k1, k2, k3, k4, k5, k6, k7, k8, k9, k10⟩ hbn)))
            (try simp only [Act.put, List.setIfInBounds_toArray, List.set_cons_zero, List.set_cons_succ])
            first | refine wpB_skip 9 rfl (by kernel_rfl) (by kernel_rfl) (by kernel_rfl) (by rfl) ?_ | (refine wpB_text 9 (v := .int .i64 (sgn t2)) rfl (by kernel_rfl) (by kernel_rfl) (by kernel_rfl) (by rfl) (fun W hW => ?_) ?_; (obtain ⟨k1, k2, k3, k4, k5, k6, k7, k8, k9, k10⟩ := hW;  go_simp; exact comes_q ( l1Sign_any _ _) ⟨k1, k2, k3, k4, k5, k6, k7, k8, k9, k10⟩))
            (try simp only [Act.put, List.setIfInBounds_toArray, List.set_cons_zero, List.set_cons_succ])
            first | refine wpB_skip 10 rfl (by kernel_rfl) (by kernel_rfl) (by kernel_rfl) (by rfl) ?_ | (refine wpB_text 10 (v := ?_) rfl (by kernel_rfl) (by kernel_rfl) (by kernel_rfl) (by rfl) (fun W hW => ?_) ?_; rotate_left; (obtain ⟨k1, k2, k3, k4, k5, k6, k7, k8, k9, k10⟩ := hW;  go_simp; refine comes_v ?_; exact ⟨k1, k2, k3, k4, k5, k6, k7, k8, k9, k10⟩))
            (try simp only [Act.put, List.setIfInBounds_toArray, List.set_cons_zero, List.set_cons_succ])
            first | refine wpB_skip 11 rfl (by kernel_rfl) (by kernel_rfl) (by kernel_rfl) (by rfl) ?_ | (refine wpB_text 11 (v := ?_) rfl (by kernel_rfl) (by kernel_rfl) (by kernel_rfl) (by rfl) (fun W hW => ?_) ?_; rotate_left; (obtain ⟨k1, k2, k3, k4, k5, k6, k7, k8, k9, k10⟩ := hW;  go_simp; refine comes_v ?_; exact ⟨k1, k2, k3, k4, k5, k6, k7, k8, k9, k10⟩))
            (try simp only [Act.put, List.setIfInBounds_toArray, List.set_cons_zero, List.set_cons_succ])
            first | refine wpB_skip 12 rfl (by kernel_rfl) (by kernel_rfl) (by kernel_rfl) (by rfl) ?_ | (refine wpB_text 12 (v := ?_) rfl (by kernel_rfl) (by kernel_rfl) (by kernel_rfl) (by rfl) (fun W hW => ?_) ?_; rotate_left; (obtain ⟨k1, k2, k3, k4, k5, k6, k7, k8, k9, k10⟩ := hW;  go_simp; refine comes_v ?_; exact ⟨k1, k2, k3, k4, k5, k6, k7, k8, k9, k10⟩))
            (try simp only [Act.put, List.setIfInBounds_toArray, List.set_cons_zero, List.set_cons_succ])
            first | refine wpB_skip 13 rfl (by kernel_rfl) (by kernel_rfl) (by kernel_rfl) (by rfl) ?_ | (refine wpB_text 13 (v := ?_) rfl (by kernel_rfl) (by kernel_rfl) (by kernel_rfl) (by rfl) (fun W hW => ?_) ?_; rotate_left; (obtain ⟨k1, k2, k3, k4, k5, k6, k7, k8, k9, k10⟩ := hW;  go_simp; refine comes_v ?_; exact ⟨k1, k2, k3, k4, k5, k6, k7, k8, k9, k10⟩))
            (try simp only [Act.put, List.setIfInBounds_toArray, List.set_cons_zero, List.set_cons_succ])
            first | refine wpB_skip 14 rfl (by kernel_rfl) (by kernel_rfl) (by kernel_rfl) (by rfl) ?_ | (refine wpB_text 14 (v := ?_) rfl (by kernel_rfl) (by kernel_rfl) (by kernel_rfl) (by rfl) (fun W hW => ?_) ?_; rotate_left; (obtain ⟨k1, k2, k3, k4, k5, k6, k7, k8, k9, k10⟩ := hW;  go_simp; refine comes_v ?_; exact ⟨k1, k2, k3, k4, k5, k6, k7, k8, k9, k10⟩))
            (try simp only [Act.put, List.setIfInBounds_toArray, List.set_cons_zero, List.set_cons_succ])
            first | refine wpB_skip 15 rfl (by kernel_rfl) (by kernel_rfl) (by kernel_rfl) (by rfl) ?_ | (refine wpB_text 15 (v := ?_) rfl (by kernel_rfl) (by kernel_rfl) (by kernel_rfl) (by rfl) (fun W hW => ?_) ?_; rotate_left; (obtain ⟨k1, k2, k3, k4, k5, k6, k7, k8, k9, k10⟩ := hW;  go_simp; refine comes_v ?_; exact ⟨k1, k2, k3, k4, k5, k6, k7, k8, k9, k10⟩))
            (try simp only [Act.put, List.setIfInBounds_toArray, List.set_cons_zero, List.set_cons_succ])
            first | refine wpB_skip 16 rfl (by kernel_rfl) (by kernel_rfl) (by kernel_rfl) (by rfl) ?_ | (refine wpB_text 16 (v := .int .i64 t3) rfl (by kernel_rfl) (by kernel_rfl) (by kernel_rfl) (by rfl) (fun W hW => ?_) ?_; (obtain ⟨k1, k2, k3, k4, k5, k6, k7, k8, k9, k10⟩ := hW;  go_simp; exact comes_c ( T3.out _) (fun wn hbn => held4 ⟨k1, k2, k3, k4, k5, k6, k7, k8, k9, k10⟩ hbn)))
            (try simp only [Act.put, List.setIfInBounds_toArray, List.set_cons_zero, List.set_cons_succ])
            first | refine wpB_skip 17 rfl (by kernel_rfl) (by kernel_rfl) (by kernel_rfl) (by rfl) ?_ | (refine wpB_text 17 (v := .int .i64 (sgn t3)) rfl (by kernel_rfl) (by kernel_rfl) (by kernel_rfl) (by rfl) (fun W hW => ?_) ?_; (obtain ⟨k1, k2, k3, k4, k5, k6, k7, k8, k9, k10⟩ := hW;  go_simp; exact comes_q ( l1Sign_any _ _) ⟨k1, k2, k3, k4, k5, k6, k7, k8, k9, k10⟩))
            (try simp only [Act.put, List.setIfInBounds_toArray, List.set_cons_zero, List.set_cons_succ])
            first | refine wpB_skip 18 rfl (by kernel_rfl) (by kernel_rfl) (by kernel_rfl) (by rfl) ?_ | (refine wpB_text 18 (v := ?_) rfl (by kernel_rfl) (by kernel_rfl) (by kernel_rfl) (by rfl) (fun W hW => ?_) ?_; rotate_left; (obtain ⟨k1, k2, k3, k4, k5, k6, k7, k8, k9, k10⟩ := hW;  go_simp; refine comes_v ?_; exact ⟨k1, k2, k3, k4, k5, k6, k7, k8, k9, k10⟩))
            (try simp only [Act.put, List.setIfInBounds_toArray, List.set_cons_zero, List.set_cons_succ])
            first | refine wpB_skip 19 rfl (by kernel_rfl) (by kernel_rfl) (by kernel_rfl) (by rfl) ?_ | (refine wpB_text 19 (v := ?_) rfl (by kernel_rfl) (by kernel_rfl) (by kernel_rfl) (by rfl) (fun W hW => ?_) ?_; rotate_left; (obtain ⟨k1, k2, k3, k4, k5, k6, k7, k8, k9, k10⟩ := hW;  go_simp; refine comes_v ?_; exact ⟨k1, k2, k3, k4, k5, k6, k7, k8, k9, k10⟩))
            (try simp only [Act.put, List.setIfInBounds_toArray, List.set_cons_zero, List.set_cons_succ])
            first | refine wpB_skip 20 rfl (by kernel_rfl) (by kernel_rfl) (by kernel_rfl) (by rfl) ?_ | (refine wpB_text 20 (v := ?_) rfl (by kernel_rfl) (by kernel_rfl) (by kernel_rfl) (by rfl) (fun W hW => ?_) ?_; rotate_left; (obtain ⟨k1, k2, k3, k4, k5, k6, k7, k8, k9, k10⟩ := hW;  go_simp; refine comes_v ?_; exact ⟨k1, k2, k3, k4, k5, k6, k7, k8, k9, k10⟩))
            (try simp only [Act.put, List.setIfInBounds_toArray, List.set_cons_zero, List.set_cons_succ])
            first | refine wpB_skip 21 rfl (by kernel_rfl) (by kernel_rfl) (by kernel_rfl) (by rfl) ?_ | (refine wpB_text 21 (v := .int .i64 t4) rfl (by kernel_rfl) (by kernel_rfl) (by kernel_rfl) (by rfl) (fun W hW => ?_) ?_; (obtain ⟨k1, k2, k3, k4, k5, k6, k7, k8, k9, k10⟩ := hW;  go_simp; exact comes_c ( T4.out _) (fun wn hbn => held4 ⟨k1, k2, k3, k4, k5, k6, k7, k8, k9, k10⟩ hbn)))
            (try simp only [Act.put, List.setIfInBounds_toArray, List.set_cons_zero, List.set_cons_succ])
            first | refine wpB_skip 22 rfl (by kernel_rfl) (by kernel_rfl) (by kernel_rfl) (by rfl) ?_ | (refine wpB_text 22 (v := .int .i64 (sgn t4)) rfl (by kernel_rfl) (by kernel_rfl) (by kernel_rfl) (by rfl) (fun W hW => ?_) ?_; (obtain ⟨k1, k2, k3, k4, k5, k6, k7, k8, k9, k10⟩ := hW;  go_simp; exact comes_q ( l1Sign_any _ _) ⟨k1, k2, k3, k4, k5, k6, k7, k8, k9, k10⟩))
            (try simp only [Act.put, List.setIfInBounds_toArray, List.set_cons_zero, List.set_cons_succ])
            first | refine wpB_skip 23 rfl (by kernel_rfl) (by kernel_rfl) (by kernel_rfl) (by rfl) ?_ | (refine wpB_text 23 (v := ?_) rfl (by kernel_rfl) (by kernel_rfl) (by kernel_rfl) (by rfl) (fun W hW => ?_) ?_; rotate_left; (obtain ⟨k1, k2, k3, k4, k5, k6, k7, k8, k9, k10⟩ := hW;  go_simp; refine comes_v ?_; exact ⟨k1, k2, k3, k4, k5, k6, k7, k8, k9, k10⟩))
            (try simp only [Act.put, List.setIfInBounds_toArray, List.set_cons_zero, List.set_cons_succ])
            first | refine wpB_skip 24 rfl (by kernel_rfl) (by kernel_rfl) (by kernel_rfl) (by rfl) ?_ | (refine wpB_text 24 (v := ?_) rfl (by kernel_rfl) (by kernel_rfl) (by kernel_rfl) (by rfl) (fun W hW => ?_) ?_; rotate_left; (obtain ⟨k1, k2, k3, k4, k5, k6, k7, k8, k9, k10⟩ := hW;  go_simp; refine comes_v ?_; exact ⟨k1, k2, k3, k4, k5, k6, k7, k8, k9, k10⟩))
            (try simp only [Act.put, List.setIfInBounds_toArray, List.set_cons_zero, List.set_cons_succ])
            first | refine wpB_skip 25 rfl (by kernel_rfl) (by kernel_rfl) (by kernel_rfl) (by rfl) ?_ | (refine wpB_text 25 (v := ?_) rfl (by kernel_rfl) (by kernel_rfl) (by kernel_rfl) (by rfl) (fun W hW => ?_) ?_; rotate_left; (obtain ⟨k1, k2, k3, k4, k5, k6, k7, k8, k9, k10⟩ := hW;  go_simp; refine comes_v ?_; exact ⟨k1, k2, k3, k4, k5, k6, k7, k8, k9, k10⟩))
            (try simp only [Act.put, List.setIfInBounds_toArray, List.set_cons_zero, List.set_cons_succ])
            first | refine wpB_skip 26 rfl (by kernel_rfl) (by kernel_rfl) (by kernel_rfl) (by rfl) ?_ | (refine wpB_text 26 (v := ?_) rfl (by kernel_rfl) (by kernel_rfl) (by kernel_rfl) (by rfl) (fun W hW => ?_) ?_; rotate_left; (obtain ⟨k1, k2, k3, k4, k5, k6, k7, k8, k9, k10⟩ := hW;  go_simp; refine comes_v ?_; exact ⟨k1, k2, k3, k4, k5, k6, k7, k8, k9, k10⟩))
            (try simp only [Act.put, List.setIfInBounds_toArray, List.set_cons_zero, List.set_cons_succ])
            refine wpB_done (by kernel_rfl) ?_ _
            intro W hW; obtain ⟨k1, k2, k3, k4, k5, k6, k7, k8, k9, k10⟩ := hW
            clear e1 e2
            go_wp2_with fail
            go_ret
            exact ⟨ret_bool (by simp [hm]), k1⟩
          · have hd := decide_eq_false hm
            refine wp_region_B (fun W => Below w.heap.size w W ∧ w.heap.size + 3 < W.heap.size ∧ W.cell? ⟨w.heap.size, 0, none⟩ = some (.int .i64 a1) ∧ W.cell? ⟨w.heap.size, 1, none⟩ = some (.int .i64 a2) ∧ W.cell? ⟨w.heap.size + 1, 0, none⟩ = some (.int .i64 b1) ∧ W.cell? ⟨w.heap.size + 1, 1, none⟩ = some (.int .i64 b2) ∧ W.cell? ⟨w.heap.size + 2, 0, none⟩ = some (.int .i64 c1) ∧ W.cell? ⟨w.heap.size + 2, 1, none⟩ = some (.int .i64 c2) ∧ W.cell? ⟨w.heap.size + 3, 0, none⟩ = some (.int .i64 d1) ∧ W.cell? ⟨w.heap.size + 3, 1, none⟩ = some (.int .i64 d2)) (by kernel_rfl) (held4 hS ((Below.refl _ _).drew)) ?_
            first | refine wpB_skip 0 rfl (by kernel_rfl) (by kernel_rfl) (by kernel_rfl) (by rfl) ?_ | (refine wpB_text 0 (v := ?_) rfl (by kernel_rfl) (by kernel_rfl) (by kernel_rfl) (by rfl) (fun W hW => ?_) ?_; rotate_left; (obtain ⟨k1, k2, k3, k4, k5, k6, k7, k8, k9, k10⟩ := hW;  go_simp; refine comes_v ?_; exact ⟨k1, k2, k3, k4, k5, k6, k7, k8, k9, k10⟩))
            (try simp only [Act.put, List.setIfInBounds_toArray, List.set_cons_zero, List.set_cons_succ])
            first | refine wpB_skip 1 rfl (by kernel_rfl) (by kernel_rfl) (by kernel_rfl) (by rfl) ?_ | (refine wpB_text 1 (v := ?_) rfl (by kernel_rfl) (by kernel_rfl) (by kernel_rfl) (by rfl) (fun W hW => ?_) ?_; rotate_left; (obtain ⟨k1, k2, k3, k4, k5, k6, k7, k8, k9, k10⟩ := hW;  go_simp; refine comes_v ?_; exact ⟨k1, k2, k3, k4, k5, k6, k7, k8, k9, k10⟩))
            (try simp only [Act.put, List.setIfInBounds_toArray, List.set_cons_zero, List.set_cons_succ])
            first | refine wpB_skip 2 rfl (by kernel_rfl) (by kernel_rfl) (by kernel_rfl) (by rfl) ?_ | (refine wpB_text 2 (v := ?_) rfl (by kernel_rfl) (by kernel_rfl) (by kernel_rfl) (by rfl) (fun W hW => ?_) ?_; rotate_left; (obtain ⟨k1, k2, k3, k4, k5, k6, k7, k8, k9, k10⟩ := hW;  go_simp; refine comes_v ?_; exact ⟨k1, k2, k3, k4, k5, k6, k7, k8, k9, k10⟩))
            (try simp only [Act.put, List.setIfInBounds_toArray, List.set_cons_zero, List.set_cons_succ])
            first | refine wpB_skip 3 rfl (by kernel_rfl) (by kernel_rfl) (by kernel_rfl) (by rfl) ?_ | (refine wpB_text 3 (v := .int .i64 t1) rfl (by kernel_rfl) (by kernel_rfl) (by kernel_rfl) (by rfl) (fun W hW => ?_) ?_; (obtain ⟨k1, k2, k3, k4, k5, k6, k7, k8, k9, k10⟩ := hW;  go_simp; exact comes_c ( T1.out _) (fun wn hbn => held4 ⟨k1, k2, k3, k4, k5, k6, k7, k8, k9, k10⟩ hbn)))
            (try simp only [Act.put, List.setIfInBounds_toArray, List.set_cons_zero, List.set_cons_succ])
            first | refine wpB_skip 4 rfl (by kernel_rfl) (by kernel_rfl) (by kernel_rfl) (by rfl) ?_ | (refine wpB_text 4 (v := .int .i64 (sgn t1)) rfl (by kernel_rfl) (by kernel_rfl) (by kernel_rfl) (by rfl) (fun W hW => ?_) ?_; (obtain ⟨k1, k2, k3, k4, k5, k6, k7, k8, k9, k10⟩ := hW;  go_simp; exact comes_q ( l1Sign_any _ _) ⟨k1, k2, k3, k4, k5, k6, k7, k8, k9, k10⟩))
            (try simp only [Act.put, List.setIfInBounds_toArray, List.set_cons_zero, List.set_cons_succ])
            first | refine wpB_skip 5 rfl (by kernel_rfl) (by kernel_rfl) (by kernel_rfl) (by rfl) ?_ | (refine wpB_text 5 (v := ?_) rfl (by kernel_rfl) (by kernel_rfl) (by kernel_rfl) (by rfl) (fun W hW => ?_) ?_; rotate_left; (obtain ⟨k1, k2, k3, k4, k5, k6, k7, k8, k9, k10⟩ := hW;  go_simp; refine comes_v ?_; exact ⟨k1, k2, k3, k4, k5, k6, k7, k8, k9, k10⟩))
            (try simp only [Act.put, List.setIfInBounds_toArray, List.set_cons_zero, List.set_cons_succ])
            first | refine wpB_skip 6 rfl (by kernel_rfl) (by kernel_rfl) (by kernel_rfl) (by rfl) ?_ | (refine wpB_text 6 (v := ?_) rfl (by kernel_rfl) (by kernel_rfl) (by kernel_rfl) (by rfl) (fun W hW => ?_) ?_; rotate_left; (obtain ⟨k1, k2, k3, k4, k5, k6, k7, k8, k9, k10⟩ := hW;  go_simp; refine comes_v ?_; exact ⟨k1, k2, k3, k4, k5, k6, k7, k8, k9, k10⟩))
            (try simp only [Act.put, List.setIfInBounds_toArray, List.set_cons_zero, List.set_cons_succ])
            first | refine wpB_skip 7 rfl (by kernel_rfl) (by kernel_rfl) (by kernel_rfl) (by rfl) ?_ | (refine wpB_text 7 (v := ?_) rfl (by kernel_rfl) (by kernel_rfl) (by kernel_rfl) (by rfl) (fun W hW => ?_) ?_; rotate_left; (obtain ⟨k1, k2, k3, k4, k5, k6, k7, k8, k9, k10⟩ := hW;  go_simp; refine comes_v ?_; exact ⟨k1, k2, k3, k4, k5, k6, k7, k8, k9, k10⟩))
            (try simp only [Act.put, List.setIfInBounds_toArray, List.set_cons_zero, List.set_cons_succ])
            first | refine wpB_skip 8 rfl (by kernel_rfl) (by kernel_rfl) (by kernel_rfl) (by rfl) ?_ | (refine wpB_text 8 (v := .int .i64 t2) rfl (by kernel_rfl) (by kernel_rfl) (by kernel_rfl) (by rfl) (fun W hW => ?_) ?_; (obtain ⟨k1, k2, k3, k4, k5, k6, k7, k8, k9, k10⟩ := hW;  go_simp; exact comes_c ( T2.out _) (fun wn hbn => held4 ⟨k1, k2, k3, k4, k5, k6, k7, k8, k9, k10⟩ hbn)))
            (try simp only [Act.put, List.setIfInBounds_toArray, List.set_cons_zero, List.set_cons_succ])
            first | refine wpB_skip 9 rfl (by kernel_rfl) (by kernel_rfl) (by kernel_rfl) (by rfl) ?_ | (refine wpB_text 9 (v := .int .i64 (sgn t2)) rfl (by kernel_rfl) (by kernel_rfl) (by kernel_rfl) (by rfl) (fun W hW => ?_) ?_; (obtain ⟨k1, k2, k3, k4, k5, k6, k7, k8, k9, k10⟩ := hW;  go_simp; exact comes_q ( l1Sign_any _ _) ⟨k1, k2, k3, k4, k5, k6, k7, k8, k9, k10⟩))
            (try simp only [Act.put, List.setIfInBounds_toArray, List.set_cons_zero, List.set_cons_succ])
            first | refine wpB_skip 10 rfl (by kernel_rfl) (by kernel_rfl) (by kernel_rfl) (by rfl) ?_ | (refine wpB_text 10 (v := ?_) rfl (by kernel_rfl) (by kernel_rfl) (by kernel_rfl) (by rfl) (fun W hW => ?_) ?_; rotate_left; (obtain ⟨k1, k2, k3, k4, k5, k6, k7, k8, k9, k10⟩ := hW;  go_simp; refine comes_v ?_; exact ⟨k1, k2, k3, k4, k5, k6, k7, k8, k9, k10⟩))
            (try simp only [Act.put, List.setIfInBounds_toArray, List.set_cons_zero, List.set_cons_succ])
            first | refine wpB_skip 11 rfl (by kernel_rfl) (by kernel_rfl) (by kernel_rfl) (by rfl) ?_ | (refine wpB_text 11 (v := ?_) rfl (by kernel_rfl) (by kernel_rfl) (by kernel_rfl) (by rfl) (fun W hW => ?_) ?_; rotate_left; (obtain ⟨k1, k2, k3, k4, k5, k6, k7, k8, k9, k10⟩ := hW;  go_simp; refine comes_v ?_; exact ⟨k1, k2, k3, k4, k5, k6, k7, k8, k9, k10⟩))
            (try simp only [Act.put, List.setIfInBounds_toArray, List.set_cons_zero, List.set_cons_succ])
            first | refine wpB_skip 12 rfl (by kernel_rfl) (by kernel_rfl) (by kernel_rfl) (by rfl) ?_ | (refine wpB_text 12 (v := ?_) rfl (by kernel_rfl) (by kernel_rfl) (by kernel_rfl) (by rfl) (fun W hW => ?_) ?_; rotate_left; (obtain ⟨k1, k2, k3, k4, k5, k6, k7, k8, k9, k10⟩ := hW;  go_simp; refine comes_v ?_; exact ⟨k1, k2, k3, k4, k5, k6, k7, k8, k9, k10⟩))
            (try simp only [Act.put, List.setIfInBounds_toArray, List.set_cons_zero, List.set_cons_succ])
            first | refine wpB_skip 13 rfl (by kernel_rfl) (by kernel_rfl) (by kernel_rfl) (by rfl) ?_ | (refine wpB_text 13 (v := ?_) rfl (by kernel_rfl) (by kernel_rfl) (by kernel_rfl) (by rfl) (fun W hW => ?_) ?_; rotate_left; (obtain ⟨k1, k2, k3, k4, k5, k6, k7, k8, k9, k10⟩ := hW;  go_simp; refine comes_v ?_; exact ⟨k1, k2, k3, k4, k5, k6, k7, k8, k9, k10⟩))
            (try simp only [Act.put, List.setIfInBounds_toArray, List.set_cons_zero, List.set_cons_succ])
            first | refine wpB_skip 14 rfl (by kernel_rfl) (by kernel_rfl) (by kernel_rfl) (by rfl) ?_ | (refine wpB_text 14 (v := ?_) rfl (by kernel_rfl) (by kernel_rfl) (by kernel_rfl) (by rfl) (fun W hW => ?_) ?_; rotate_left; (obtain ⟨k1, k2, k3, k4, k5, k6, k7, k8, k9, k10⟩ := hW;  go_simp; refine comes_v ?_; exact ⟨k1, k2, k3, k4, k5, k6, k7, k8, k9, k10⟩))
            (try simp only [Act.put, List.setIfInBounds_toArray, List.set_cons_zero, List.set_cons_succ])
            first | refine wpB_skip 15 rfl (by kernel_rfl) (by kernel_rfl) (by kernel_rfl) (by rfl) ?_ | (refine wpB_text 15 (v := ?_) rfl (by kernel_rfl) (by kernel_rfl) (by kernel_rfl) (by rfl) (fun W hW => ?_) ?_; rotate_left; (obtain ⟨k1, k2, k3, k4, k5, k6, k7, k8, k9, k10⟩ := hW;  go_simp; refine comes_v ?_; exact ⟨k1, k2, k3, k4, k5, k6, k7, k8, k9, k10⟩))
            (try simp only [Act.put, List.setIfInBounds_toArray, List.set_cons_zero, List.set_cons_succ])
            first | refine wpB_skip 16 rfl (by kernel_rfl) (by kernel_rfl) (by kernel_rfl) (by rfl) ?_ | (refine wpB_text 16 (v := .int .i64 t3) rfl (by kernel_rfl) (by kernel_rfl) (by kernel_rfl) (by rfl) (fun W hW => ?_) ?_; (obtain ⟨k1, k2, k3, k4, k5, k6, k7, k8, k9, k10⟩ := hW;  go_simp; exact comes_c ( T3.out _) (fun wn hbn => held4 ⟨k1, k2, k3, k4, k5, k6, k7, k8, k9, k10⟩ hbn)))
            (try simp only [Act.put, List.setIfInBounds_toArray, List.set_cons_zero, List.set_cons_succ])
            first | refine wpB_skip 17 rfl (by kernel_rfl) (by kernel_rfl) (by kernel_rfl) (by rfl) ?_ | (refine wpB_text 17 (v := .int .i64 (sgn t3)) rfl (by kernel_rfl) (by kernel_rfl) (by kernel_rfl) (by rfl) (fun W hW => ?_) ?_; (obtain ⟨k1, k2, k3, k4, k5, k6, k7, k8, k9, k10⟩ := hW;  go_simp; exact comes_q ( l1Sign_any _ _) ⟨k1, k2, k3, k4, k5, k6, k7, k8, k9, k10⟩))
            (try simp only [Act.put, List.setIfInBounds_toArray, List.set_cons_zero, List.set_cons_succ])
            first | refine wpB_skip 18 rfl (by kernel_rfl) (by kernel_rfl) (by kernel_rfl) (by rfl) ?_ | (refine wpB_text 18 (v := ?_) rfl (by kernel_rfl) (by kernel_rfl) (by kernel_rfl) (by rfl) (fun W hW => ?_) ?_; rotate_left; (obtain ⟨k1, k2, k3, k4, k5, k6, k7, k8, k9, k10⟩ := hW;  go_simp; refine comes_v ?_; exact ⟨k1, k2, k3, k4, k5, k6, k7, k8, k9, k10⟩))
            (try simp only [Act.put, List.setIfInBounds_toArray, List.set_cons_zero, List.set_cons_succ])
            first | refine wpB_skip 19 rfl (by kernel_rfl) (by kernel_rfl) (by kernel_rfl) (by rfl) ?_ | (refine wpB_text 19 (v := ?_) rfl (by kernel_rfl) (by kernel_rfl) (by kernel_rfl) (by rfl) (fun W hW => ?_) ?_; rotate_left; (obtain ⟨k1, k2, k3, k4, k5, k6, k7, k8, k9, k10⟩ := hW;  go_simp; refine comes_v ?_; exact ⟨k1, k2, k3, k4, k5, k6, k7, k8, k9, k10⟩))
            (try simp only [Act.put, List.setIfInBounds_toArray, List.set_cons_zero, List.set_cons_succ])
            first | refine wpB_skip 20 rfl (by kernel_rfl) (by kernel_rfl) (by kernel_rfl) (by rfl) ?_ | (refine wpB_text 20 (v := ?_) rfl (by kernel_rfl) (by kernel_rfl) (by kernel_rfl) (by rfl) (fun W hW => ?_) ?_; rotate_left; (obtain ⟨k1, k2, k3, k4, k5, k6, k7, k8, k9, k10⟩ := hW;  go_simp; refine comes_v ?_; exact ⟨k1, k2, k3, k4, k5, k6, k7, k8, k9, k10⟩))
            (try simp only [Act.put, List.setIfInBounds_toArray, List.set_cons_zero, List.set_cons_succ])
            first | refine wpB_skip 21 rfl (by kernel_rfl) (by kernel_rfl) (by kernel_rfl) (by rfl) ?_ | (refine wpB_text 21 (v := .int .i64 t4) rfl (by kernel_rfl) (by kernel_rfl) (by kernel_rfl) (by rfl) (fun W hW => ?_) ?_; (obtain ⟨k1, k2, k3, k4, k5, k6, k7, k8, k9, k10⟩ := hW;  go_simp; exact comes_c ( T4.out _) (fun wn hbn => held4 ⟨k1, k2, k3, k4, k5, k6, k7, k8, k9, k10⟩ hbn)))
            (try simp only [Act.put, List.setIfInBounds_toArray, List.set_cons_zero, List.set_cons_succ])
            first | refine wpB_skip 22 rfl (by kernel_rfl) (by kernel_rfl) (by kernel_rfl) (by rfl) ?_ | (refine wpB_text 22 (v := .int .i64 (sgn t4)) rfl (by kernel_rfl) (by kernel_rfl) (by kernel_rfl) (by rfl) (fun W hW => ?_) ?_; (obtain ⟨k1, k2, k3, k4, k5, k6, k7, k8, k9, k10⟩ := hW;  go_simp; exact comes_q ( l1Sign_any _ _) ⟨k1, k2, k3, k4, k5, k6, k7, k8, k9, k10⟩))
            (try simp only [Act.put, List.setIfInBounds_toArray, List.set_cons_zero, List.set_cons_succ])
            first | refine wpB_skip 23 rfl (by kernel_rfl) (by kernel_rfl) (by kernel_rfl) (by rfl) ?_ | (refine wpB_text 23 (v := ?_) rfl (by kernel_rfl) (by kernel_rfl) (by kernel_rfl) (by rfl) (fun W hW => ?_) ?_; rotate_left; (obtain ⟨k1, k2, k3, k4, k5, k6, k7, k8, k9, k10⟩ := hW;  go_simp; refine comes_v ?_; exact ⟨k1, k2, k3, k4, k5, k6, k7, k8, k9, k10⟩))
            (try simp only [Act.put, List.setIfInBounds_toArray, List.set_cons_zero, List.set_cons_succ])
            first | refine wpB_skip 24 rfl (by kernel_rfl) (by kernel_rfl) (by kernel_rfl) (by rfl) ?_ | (refine wpB_text 24 (v := ?_) rfl (by kernel_rfl) (by kernel_rfl) (by kernel_rfl) (by rfl) (fun W hW => ?_) ?_; rotate_left; (obtain ⟨k1, k2, k3, k4, k5, k6, k7, k8, k9, k10⟩ := hW;  go_simp; refine comes_v ?_; exact ⟨k1, k2, k3, k4, k5, k6, k7, k8, k9, k10⟩))
            (try simp only [Act.put, List.setIfInBounds_toArray, List.set_cons_zero, List.set_cons_succ])
            first | refine wpB_skip 25 rfl (by kernel_rfl) (by kernel_rfl) (by kernel_rfl) (by rfl) ?_ | (refine wpB_text 25 (v := ?_) rfl (by kernel_rfl) (by kernel_rfl) (by kernel_rfl) (by rfl) (fun W hW => ?_) ?_; rotate_left; (obtain ⟨k1, k2, k3, k4, k5, k6, k7, k8, k9, k10⟩ := hW;  go_simp; refine comes_v ?_; exact ⟨k1, k2, k3, k4, k5, k6, k7, k8, k9, k10⟩))
            (try simp only [Act.put, List.setIfInBounds_toArray, List.set_cons_zero, List.set_cons_succ])
            first | refine wpB_skip 26 rfl (by kernel_rfl) (by kernel_rfl) (by kernel_rfl) (by rfl) ?_ | (refine wpB_text 26 (v := ?_) rfl (by kernel_rfl) (by kernel_rfl) (by kernel_rfl) (by rfl) (fun W hW => ?_) ?_; rotate_left; (obtain ⟨k1, k2, k3, k4, k5, k6, k7, k8, k9, k10⟩ := hW;  go_simp; refine comes_v ?_; exact ⟨k1, k2, k3, k4, k5, k6, k7, k8, k9, k10⟩))
            (try simp only [Act.put, List.setIfInBounds_toArray, List.set_cons_zero, List.set_cons_succ])
            refine wpB_done (by kernel_rfl) ?_ _
            intro W hW; obtain ⟨k1, k2, k3, k4, k5, k6, k7, k8, k9, k10⟩ := hW
            clear e1 e2
            go_wp2_with fail
            go_ret
            exact ⟨ret_bool (by simp [hm]), k1⟩
        · refine (K4.out _).mono ?_; rintro e w4 ⟨rfl, hb4⟩
          obtain ⟨hc4, hf4⟩ := bcell hb4
          have z4_0 : w.heap.size < w4.heap.size := by (have := hb4.size; omega)
          have z4_1 : w.heap.size + 1 < w4.heap.size := by (have := hb4.size; omega)
          have z4_2 : w.heap.size + 2 < w4.heap.size := by (have := hb4.size; omega)
          have z4_3 : w.heap.size + 3 < w4.heap.size := by (have := hb4.size; omega)
          have B4 : Below w.heap.size w w4 := B3.trans (hb4.mono (by have := B3.size; omega))
          go_wp2_with fail
          go_ret
          exact ⟨rfl, B4⟩
      · refine (K3.out _).mono ?_; rintro e w3 ⟨rfl, hb3⟩
        obtain ⟨hc3, hf3⟩ := bcell hb3
        have z3_0 : w.heap.size < w3.heap.size := by (have := hb3.size; omega)
        have z3_1 : w.heap.size + 1 < w3.heap.size := by (have := hb3.size; omega)
        have z3_2 : w.heap.size + 2 < w3.heap.size := by (have := hb3.size; omega)
        have z3_3 : w.heap.size + 3 < w3.heap.size := by (have := hb3.size; omega)
        have B3 : Below w.heap.size w w3 := B2.trans (hb3.mono (by have := B2.size; omega))
        go_wp2_with fail
        go_ret
        exact ⟨rfl, B3⟩
    · refine (K2.out _).mono ?_; rintro e w2 ⟨rfl, hb2⟩
      obtain ⟨hc2, hf2⟩ := bcell hb2
      have z2_0 : w.heap.size < w2.heap.size := by (have := hb2.size; omega)
      have z2_1 : w.heap.size + 1 < w2.heap.size := by (have := hb2.size; omega)
      have z2_2 : w.heap.size + 2 < w2.heap.size := by (have := hb2.size; omega)
      have z2_3 : w.heap.size + 3 < w2.heap.size := by (have := hb2.size; omega)
      have B2 : Below w.heap.size w w2 := B1.trans (hb2.mono (by have := B1.size; omega))
      go_wp2_with fail
      go_ret
      exact ⟨rfl, B2⟩
  · go_enter Try.func85, Try.ntmps85
    go_wp2_with fail
    refine (K1.out _).mono ?_; rintro e w1 ⟨rfl, hb1⟩
    obtain ⟨hc1, hf1⟩ := bcell hb1
    have z1_0 : w.heap.size < w1.heap.size := by (have := hb1.size; simp at this; omega)
    have z1_1 : w.heap.size + 1 < w1.heap.size := by (have := hb1.size; simp at this; omega)
    have z1_2 : w.heap.size + 2 < w1.heap.size := by (have := hb1.size; simp at this; omega)
    have z1_3 : w.heap.size + 3 < w1.heap.size := by (have := hb1.size; simp at this; omega)
    have B1 : Below w.heap.size w w1 := (Below.alloc (Below.alloc (Below.alloc (Below.alloc (Below.refl _ _) (by simp <;> omega) _) (by simp <;> omega) _) (by simp <;> omega) _) (by simp <;> omega) _).trans (hb1.mono (by simp <;> omega))
    go_wp2_with fail
    go_ret
    exact ⟨rfl, B1⟩
end Go.Proofs.Ytheddoinnakneaa

