/- contracts: points on lines and lines that meet, on both sides -/
import Derived.Test.YtacabmbajadbgaaE
namespace Go.Proofs.Ytacabmbajadbgaa
open Go.ChangeShapes Go.WideShapes Go.ChangeAt Go.RowKit Go.Joins
set_option linter.unusedVariables false
set_option linter.unusedSimpArgs false
set_option maxRecDepth 4000
theorem between_iff (a b p : Int) : (a - p) * (b - p) ≤ 0 ↔ (min a b ≤ p ∧ p ≤ max a b) := by
  constructor
  · intro h
    rcases Int.lt_trichotomy a p with h1 | h1 | h1 <;> rcases Int.lt_trichotomy b p with h2 | h2 | h2
    all_goals first
      | omega
      | (have := Int.mul_pos_of_neg_of_neg (show a - p < 0 by omega) (show b - p < 0 by omega); omega)
      | (have := Int.mul_pos (show 0 < a - p by omega) (show 0 < b - p by omega); omega)
  · rintro ⟨h1, h2⟩
    rcases Int.le_total a b with h | h
    · have := Int.mul_nonneg (show 0 ≤ p - a by omega) (show 0 ≤ b - p by omega)
      have e : (p - a) * (b - p) = -((a - p) * (b - p)) := by rw [← Int.neg_mul]; congr 1; omega
      omega
    · have := Int.mul_nonneg (show 0 ≤ a - p by omega) (show 0 ≤ p - b by omega)
      have e : (a - p) * (p - b) = -((a - p) * (b - p)) := by rw [← Int.mul_neg]; congr 1; omega
      omega
theorem onB_eq (a1 a2 b1 b2 p1 p2 : Int) : onB a1 a2 b1 b2 p1 p2 = (decide (twI a1 a2 b1 b2 p1 p2 = 0) && decide (min a1 b1 ≤ p1 ∧ p1 ≤ max a1 b1) && decide (min a2 b2 ≤ p2 ∧ p2 ≤ max a2 b2)) := by
  unfold onB; simp only [between_iff]
/-- two lines have a point in common -/
def meetB (a1 a2 b1 b2 c1 c2 d1 d2 : Int) : Bool :=
  onB a1 a2 b1 b2 c1 c2 || onB a1 a2 b1 b2 d1 d2 || onB c1 c2 d1 d2 a1 a2 || onB c1 c2 d1 d2 b1 b2 ||
    decide (twI a1 a2 b1 b2 c1 c2 * twI a1 a2 b1 b2 d1 d2 < 0 ∧ twI c1 c2 d1 d2 a1 a2 * twI c1 c2 d1 d2 b1 b2 < 0)
theorem sgn_mul (m n : Int) : sgn m * sgn n < 0 ↔ m * n < 0 := by
  unfold sgn
  rcases Int.lt_trichotomy m 0 with h1 | h1 | h1 <;> rcases Int.lt_trichotomy n 0 with h2 | h2 | h2
  · have := Int.mul_pos_of_neg_of_neg h1 h2
    rw [if_neg (by omega), if_pos h1, if_neg (by omega), if_pos h2]; omega
  · subst h2; simp
  · have := Int.mul_neg_of_neg_of_pos h1 h2
    rw [if_neg (by omega), if_pos h1, if_pos h2]; omega
  · subst h1; simp
  · subst h1; simp
  · subst h1; simp
  · have := Int.mul_neg_of_pos_of_neg h1 h2
    rw [if_pos h1, if_neg (by omega), if_pos h2]; omega
  · subst h2; simp
  · have := Int.mul_pos h1 h2
    rw [if_pos h1, if_pos h2]; omega
theorem sgn_01 (m : Int) : sgn m = -1 ∨ sgn m = 0 ∨ sgn m = 1 := by unfold sgn; split; omega; split <;> omega
theorem twI_bd {a1 a2 b1 b2 c1 c2 : Int} (ha : Sz a1 a2) (hb : Sz b1 b2) (hc : Sz c1 c2) : -80000000000 ≤ twI a1 a2 b1 b2 c1 c2 ∧ twI a1 a2 b1 b2 c1 c2 ≤ 80000000000 := by
  unfold Sz at *
  have h1 := prod_bd (a := b1) (b := a1) (c := c2) (d := a2) (by omega) (by omega) (by omega) (by omega)
  have h2 := prod_bd (a := b2) (b := a2) (c := c1) (d := a1) (by omega) (by omega) (by omega) (by omega)
  unfold twI; omega
end Go.Proofs.Ytacabmbajadbgaa
