/- the first of some points, and lists told from it -/
import Derived.Test.YtgjegildeejghaaLk
import Derived.Test.YtgjegildeejghaaW
namespace Go.Proofs.Ytgjegildeejghaa
open Go.ChangeShapes Go.WideShapes Go.ChangeAt Go.RowKit Go.Joins
set_option linter.unusedVariables false
set_option linter.unusedSimpArgs false
set_option maxRecDepth 4000
def ltP (p q : Int × Int) : Bool := decide (p.1 < q.1) || (decide (p.1 = q.1) && decide (p.2 < q.2))
theorem ltP_self (p : Int × Int) : ltP p p = false := by unfold ltP; simp
theorem ltP_eq {p q : Int × Int} (h1 : ltP p q = false) (h2 : ltP q p = false) : p = q := by
  unfold ltP at *
  simp only [Bool.or_eq_false_iff, Bool.and_eq_false_iff, decide_eq_false_iff_not] at h1 h2
  apply Prod.ext <;> omega
theorem ltP_trans {p q r : Int × Int} (h1 : ltP p q = false) (h2 : ltP q r = false) : ltP p r = false := by
  unfold ltP at *
  simp only [Bool.or_eq_false_iff, Bool.and_eq_false_iff, decide_eq_false_iff_not] at h1 h2 ⊢
  omega
/-- the number of the first one of the first k points -/
def minI (f : Nat → Int × Int) : Nat → Nat
  | 0 => 0
  | i + 1 => if ltP (f i) (f (minI f i)) = true then i else minI f i
theorem minI_lt (f : Nat → Int × Int) : ∀ (k : Nat), 0 < k → minI f k < k
  | 0, h => absurd h (Nat.lt_irrefl 0)
  | 1, _ => by
    show (if ltP (f 0) (f 0) = true then 0 else 0) < 1
    split <;> omega
  | k + 2, _ => by
    have := minI_lt f (k + 1) (Nat.succ_pos k)
    show (if ltP (f (k + 1)) (f (minI f (k + 1))) = true then k + 1 else minI f (k + 1)) < k + 2
    split <;> omega
theorem minI_le (f : Nat → Int × Int) : ∀ (k i : Nat), i < k → ltP (f i) (f (minI f k)) = false
  | 0, i, h => absurd h (Nat.not_lt_zero i)
  | k + 1, i, h => by
    show ltP (f i) (f (if ltP (f k) (f (minI f k)) = true then k else minI f k)) = false
    by_cases hl : ltP (f k) (f (minI f k)) = true
    · rw [if_pos hl]
      by_cases hik : i = k
      · rw [hik]; exact ltP_self _
      · have h1 := minI_le f k i (by omega)
        have h2 : ltP (f (minI f k)) (f k) = false := by
          unfold ltP at hl ⊢
          simp only [Bool.or_eq_true, Bool.and_eq_true, decide_eq_true_eq] at hl
          simp only [Bool.or_eq_false_iff, Bool.and_eq_false_iff, decide_eq_false_iff_not]
          omega
        exact ltP_trans h1 h2
    · rw [if_neg hl]
      by_cases hik : i = k
      · rw [hik]; simpa using hl
      · exact minI_le f k i (by omega)
theorem firsts_same {f g : Nat → Int × Int} (n : Nat) (h : ∀ i, i < n → f i = g i) : firsts f n = firsts g n := by
  unfold firsts
  apply List.map_congr_left
  intro i hi
  exact h i (List.mem_range.1 hi)
theorem good_inj {l : List (Int × Int)} (h : Good l) {i j : Nat} (hi : i < l.length) (hj : j < l.length) (e : vx l i = vx l j) : i = j := by
  rcases Nat.lt_trichotomy i j with h1 | h1 | h1
  · exact absurd e.symm (h.diff j i h1 hj)
  · exact h1
  · exact absurd e (h.diff i j h1 hi)
/-- told backwards, the first corner has the number that goes with it -/
theorem first_back {l : List (Int × Int)} (h : Good l) : (l.length - minI (backF l) l.length) % l.length = minI (vx l) l.length := by
  have hn := good_pos h
  have k1 := minI_lt (backF l) l.length hn
  have k2 := minI_lt (vx l) l.length hn
  generalize hk : minI (backF l) l.length = k at *
  generalize hf : minI (vx l) l.length = q at *
  refine good_inj h (Nat.mod_lt _ hn) k2 ?_
  rw [vx_per]
  refine ltP_eq ?_ ?_
  · have h1 := minI_le (backF l) l.length ((l.length - q) % l.length) (Nat.mod_lt _ hn)
    rw [hk] at h1
    have e : backF l ((l.length - q) % l.length) = vx l q := by
      unfold backF
      by_cases h0 : q = 0
      · subst h0
        rw [Nat.sub_zero, Nat.mod_self, Nat.sub_zero]
        have := vx_add l 0
        rw [Nat.zero_add] at this
        exact this
      · rw [Nat.mod_eq_of_lt (by omega), show l.length - (l.length - q) = q by omega]
    rw [e] at h1
    have h2 := minI_le (vx l) l.length ((l.length - k) % l.length) (Nat.mod_lt _ hn)
    rw [hf, vx_per] at h2
    exact h2
  · have h1 := minI_le (backF l) l.length ((l.length - q) % l.length) (Nat.mod_lt _ hn)
    rw [hk] at h1
    have e : backF l ((l.length - q) % l.length) = vx l q := by
      unfold backF
      by_cases h0 : q = 0
      · subst h0
        rw [Nat.sub_zero, Nat.mod_self, Nat.sub_zero]
        have := vx_add l 0
        rw [Nat.zero_add] at this
        exact this
      · rw [Nat.mod_eq_of_lt (by omega), show l.length - (l.length - q) = q by omega]
    rw [e] at h1
    exact h1
theorem mod_back (n q k i : Nat) (hk : k < n) (hq : (n - k) % n = q) (hi : i < n) : (n - (k + i) % n) % n = (q + n - i) % n := by
  by_cases h0 : k = 0
  · subst h0
    rw [Nat.sub_zero, Nat.mod_self] at hq
    subst hq
    rw [Nat.zero_add, Nat.mod_eq_of_lt hi, Nat.zero_add]
  · rw [Nat.mod_eq_of_lt (by omega)] at hq
    subst hq
    by_cases h1 : k + i < n
    · rw [Nat.mod_eq_of_lt h1, show n - k + n - i = n - (k + i) + n by omega, Nat.add_mod_right]
    · rw [show k + i = (k + i - n) + n by omega, Nat.add_mod_right, Nat.mod_eq_of_lt (show k + i - n < n by omega)]
      rw [show n - k + n - i = n - (k + i - n) by omega]
/-- what TellFirst returns -/
def tellF (l : List (Int × Int)) (i : Nat) : Int × Int := if areaN l < 0 then vx l ((minI (vx l) l.length + l.length - i) % l.length) else vx l ((minI (vx l) l.length + i + l.length) % l.length)
theorem tell_back {l : List (Int × Int)} (h : Good l) (ha : areaN l < 0) (i : Nat) (hi : i < l.length) : backF l ((minI (backF l) l.length + i) % l.length) = tellF l i := by
  unfold tellF
  rw [if_pos ha]
  have e := mod_back l.length _ _ i (minI_lt (backF l) l.length (good_pos h)) (first_back h) hi
  rw [← e, vx_per]
  rfl
theorem tell_fore {l : List (Int × Int)} (ha : ¬ areaN l < 0) (i : Nat) : vx l ((minI (vx l) l.length + i) % l.length) = tellF l i := by
  unfold tellF
  rw [if_neg ha, Nat.add_mod_right]
end Go.Proofs.Ytgjegildeejghaa
