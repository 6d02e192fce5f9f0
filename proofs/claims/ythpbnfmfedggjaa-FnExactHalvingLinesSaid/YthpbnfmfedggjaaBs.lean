/- plain: pegs to the left of a line, to its right and on it; lines that halve -/
import Derived.Test.YthpbnfmfedggjaaBa
import Derived.Test.YthpbnfmfedggjaaBp
namespace Go.Proofs.Ythpbnfmfedggjaa
open Go.ChangeShapes Go.WideShapes Go.ChangeAt Go.RowKit Go.Joins
set_option linter.unusedVariables false
set_option linter.unusedSimpArgs false
set_option maxRecDepth 4000
def cntL (l : List (Int × Int)) (i j : Nat) : Nat → Int
  | 0 => 0
  | k + 1 => cntL l i j k + if 0 < twP (vx l i) (vx l j) (vx l k) then 1 else 0
def cntR (l : List (Int × Int)) (i j : Nat) : Nat → Int
  | 0 => 0
  | k + 1 => cntR l i j k + if twP (vx l i) (vx l j) (vx l k) < 0 then 1 else 0
def cntO (l : List (Int × Int)) (i j : Nat) : Nat → Int
  | 0 => 0
  | k + 1 => cntO l i j k + if twP (vx l i) (vx l j) (vx l k) = 0 then 1 else 0
def cntX (l : List (Int × Int)) (i j : Nat) : Nat → Int
  | 0 => 0
  | k + 1 => cntX l i j k + if twP (vx l i) (vx l j) (vx l k) = 0 ∧ k ≠ i ∧ k ≠ j then 1 else 0
/-- a third peg is on the line -/
def Bad (l : List (Int × Int)) (i j : Nat) : Prop := ∃ k, k < l.length ∧ twP (vx l i) (vx l j) (vx l k) = 0 ∧ k ≠ i ∧ k ≠ j
theorem cnt_sum (l : List (Int × Int)) (i j : Nat) : ∀ k : Nat, cntL l i j k + cntR l i j k + cntO l i j k = k
  | 0 => rfl
  | k + 1 => by
    have ih := cnt_sum l i j k
    unfold cntL cntR cntO
    rcases Int.lt_trichotomy (twP (vx l i) (vx l j) (vx l k)) 0 with h | h | h
    · rw [if_neg (by omega), if_pos h, if_neg (by omega)]; omega
    · rw [if_neg (by omega), if_neg (by omega), if_pos h]; omega
    · rw [if_pos h, if_neg (by omega), if_neg (by omega)]; omega
theorem cntL_bd (l : List (Int × Int)) (i j : Nat) : ∀ k : Nat, 0 ≤ cntL l i j k ∧ cntL l i j k ≤ k
  | 0 => by unfold cntL; omega
  | k + 1 => by have ih := cntL_bd l i j k; unfold cntL; split <;> omega
theorem cntR_bd (l : List (Int × Int)) (i j : Nat) : ∀ k : Nat, 0 ≤ cntR l i j k ∧ cntR l i j k ≤ k
  | 0 => by unfold cntR; omega
  | k + 1 => by have ih := cntR_bd l i j k; unfold cntR; split <;> omega
theorem cntO_bd (l : List (Int × Int)) (i j : Nat) : ∀ k : Nat, 0 ≤ cntO l i j k ∧ cntO l i j k ≤ k
  | 0 => by unfold cntO; omega
  | k + 1 => by have ih := cntO_bd l i j k; unfold cntO; split <;> omega
theorem tw_ends (a b : Int × Int) : twP a b a = 0 ∧ twP a b b = 0 := by
  unfold twP twI
  constructor <;> grind
theorem cntO_eq (l : List (Int × Int)) {i j : Nat} (hji : j < i) : ∀ k : Nat, cntO l i j k = (if j < k then 1 else 0) + (if i < k then 1 else 0) + cntX l i j k
  | 0 => by unfold cntO cntX; rfl
  | k + 1 => by
    have ih := cntO_eq l hji k
    have t := tw_ends (vx l i) (vx l j)
    unfold cntO cntX
    rw [ih]
    by_cases h1 : k = i
    · subst h1
      rw [if_pos t.1, if_neg (c := twP (vx l k) (vx l j) (vx l k) = 0 ∧ k ≠ k ∧ k ≠ j) (by simp), if_pos (by omega), if_neg (by omega), if_pos (by omega), if_pos (by omega)]; omega
    · by_cases h2 : k = j
      · subst h2
        rw [if_pos t.2, if_neg (c := twP (vx l i) (vx l k) (vx l k) = 0 ∧ k ≠ i ∧ k ≠ k) (by simp), if_neg (by omega), if_neg (by omega), if_pos (by omega), if_neg (by omega)]; omega
      · have e1 : (if j < k + 1 then (1 : Int) else 0) = if j < k then 1 else 0 := by split <;> split <;> omega
        have e2 : (if i < k + 1 then (1 : Int) else 0) = if i < k then 1 else 0 := by split <;> split <;> omega
        rw [e1, e2]
        by_cases h3 : twP (vx l i) (vx l j) (vx l k) = 0
        · rw [if_pos h3, if_pos (c := twP (vx l i) (vx l j) (vx l k) = 0 ∧ k ≠ i ∧ k ≠ j) ⟨h3, h1, h2⟩]; omega
        · rw [if_neg h3, if_neg (c := twP (vx l i) (vx l j) (vx l k) = 0 ∧ k ≠ i ∧ k ≠ j) (fun h => h3 h.1)]; omega
theorem cntX_nn (l : List (Int × Int)) (i j : Nat) : ∀ k : Nat, 0 ≤ cntX l i j k
  | 0 => by unfold cntX; omega
  | k + 1 => by have ih := cntX_nn l i j k; unfold cntX; split <;> omega
theorem cntX_pos (l : List (Int × Int)) (i j : Nat) : ∀ k : Nat, 0 < cntX l i j k ↔ ∃ m, m < k ∧ twP (vx l i) (vx l j) (vx l m) = 0 ∧ m ≠ i ∧ m ≠ j
  | 0 => by unfold cntX; constructor; · intro h; omega
            · rintro ⟨m, h, _⟩; omega
  | k + 1 => by
    have ih := cntX_pos l i j k
    have h0 := cntX_nn l i j k
    unfold cntX
    split
    · rename_i h
      exact ⟨fun _ => ⟨k, by omega, h⟩, fun _ => by omega⟩
    · rename_i h
      rw [Int.add_zero, ih]
      constructor
      · rintro ⟨m, h1, h2⟩; exact ⟨m, by omega, h2⟩
      · rintro ⟨m, h1, h2⟩
        rcases Nat.lt_or_ge m k with h3 | h3
        · exact ⟨m, h3, h2⟩
        · obtain rfl : m = k := by omega
          exact absurd h2 h
theorem on_bad {l : List (Int × Int)} {i j : Nat} (hji : j < i) (hi : i < l.length) (h : Bad l i j) : 2 < cntO l i j l.length := by
  rw [cntO_eq l hji, if_pos (c := j < l.length) (by omega), if_pos hi]
  have := (cntX_pos l i j l.length).2 h
  omega
theorem on_good {l : List (Int × Int)} {i j : Nat} (hji : j < i) (hi : i < l.length) (h : ¬ Bad l i j) : cntO l i j l.length = 2 := by
  rw [cntO_eq l hji, if_pos (c := j < l.length) (by omega), if_pos hi]
  have h1 : ¬ 0 < cntX l i j l.length := fun hh => h ((cntX_pos l i j l.length).1 hh)
  have h2 := cntX_nn l i j l.length
  omega
/-- the line halves the pegs -/
def hq (l : List (Int × Int)) (i j : Nat) : Bool := decide (cntL l i j l.length = cntR l i j l.length)
def rowH (l : List (Int × Int)) (i : Nat) : Nat → Int
  | 0 => 0
  | j + 1 => rowH l i j + if hq l i j = true then 1 else 0
def allH (l : List (Int × Int)) : Nat → Int
  | 0 => 0
  | i + 1 => allH l i + rowH l i i
theorem rowH_bd (l : List (Int × Int)) (i : Nat) : ∀ j : Nat, 0 ≤ rowH l i j ∧ rowH l i j ≤ j
  | 0 => by unfold rowH; omega
  | j + 1 => by have ih := rowH_bd l i j; unfold rowH; split <;> omega
theorem allH_bd (l : List (Int × Int)) : ∀ i : Nat, i ≤ 30 → 0 ≤ allH l i ∧ allH l i ≤ 30 * i
  | 0, _ => by unfold allH; omega
  | i + 1, h => by have ih := allH_bd l i (by omega); have r := rowH_bd l i i; unfold allH; omega
def Hv (l : List (Int × Int)) : Prop := Dif l ∧ l.length % 2 = 0 ∧ ∀ i, i < l.length → ∀ j, j < i → ¬ Bad l i j
noncomputable def hvB (l : List (Int × Int)) : Bool := @decide (Hv l) (Classical.propDecidable _)
theorem hvB_true {l : List (Int × Int)} (h : Hv l) : hvB l = true := by unfold hvB; exact @decide_eq_true _ (Classical.propDecidable _) h
theorem hvB_false {l : List (Int × Int)} (h : ¬ Hv l) : hvB l = false := by unfold hvB; exact @decide_eq_false _ (Classical.propDecidable _) h
theorem dif_ne {l : List (Int × Int)} (h : Dif l) {i k : Nat} (hi : i < l.length) (hk : k < l.length) (hne : k ≠ i) : vx l k ≠ vx l i := by
  rcases Nat.lt_or_gt_of_ne hne with h1 | h1
  · exact fun e => (h.fine i hi).2 k h1 e.symm
  · exact (h.fine k hk).2 i h1
end Go.Proofs.Ythpbnfmfedggjaa
