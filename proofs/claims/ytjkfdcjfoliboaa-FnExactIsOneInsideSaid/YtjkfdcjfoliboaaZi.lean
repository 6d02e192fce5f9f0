/- plain: when all corners turn to one side -/
import Derived.Test.YtjkfdcjfoliboaaZh
import Derived.Test.YtjkfdcjfoliboaaEl
namespace Go.Proofs.Ytjkfdcjfoliboaa
open Go.ChangeShapes Go.WideShapes Go.ChangeAt Go.RowKit Go.Joins
set_option linter.unusedVariables false
set_option linter.unusedSimpArgs false
set_option maxRecDepth 4000
def tN (l : List (Int × Int)) (i : Nat) : Int := twP (vx l i) (vx l (i + 1)) (vx l (i + 2))
/-- all corners turn to the area's side -/
def Cvx (l : List (Int × Int)) : Prop := ∀ i, i < l.length → sgn (tN l i) = sgn (areaN l)
noncomputable def convB (l : List (Int × Int)) : Bool := @decide (Cvx l) (Classical.propDecidable _)
theorem convB_true {l : List (Int × Int)} (h : Cvx l) : convB l = true := by unfold convB; exact @decide_eq_true _ (Classical.propDecidable _) h
theorem convB_false {l : List (Int × Int)} (h : ¬ Cvx l) : convB l = false := by unfold convB; exact @decide_eq_false _ (Classical.propDecidable _) h
/-- the program's way: all turn as the first one does -/
def tB (l : List (Int × Int)) (i : Nat) : Int := twP (vx l (i + l.length - 1)) (vx l i) (vx l (i + 1))
theorem tB_tN {l : List (Int × Int)} (h0 : 0 < l.length) (i : Nat) : tB l i = tN l (i + l.length - 1) := by
  unfold tB tN
  rw [show i + l.length - 1 + 1 = i + l.length by omega, show i + l.length - 1 + 2 = i + 1 + l.length by omega, vx_addN, vx_addN]
theorem tN_add (l : List (Int × Int)) (i : Nat) : tN l (i + l.length) = tN l i := by
  unfold tN
  rw [show i + l.length + 1 = i + 1 + l.length by omega, show i + l.length + 2 = i + 2 + l.length by omega, vx_addN, vx_addN, vx_addN]
theorem tN_tB {l : List (Int × Int)} (h0 : 0 < l.length) (i : Nat) : tN l i = tB l (i + 1) := by
  rw [tB_tN h0, show i + 1 + l.length - 1 = i + l.length by omega, tN_add]
theorem tB_mod {l : List (Int × Int)} (h0 : 0 < l.length) (i : Nat) : tB l (i % l.length) = tB l i := by
  have e : ∀ q r, tB l (r + l.length * q) = tB l r := by
    intro q
    induction q with
    | zero => intro r; rfl
    | succ q ih =>
      intro r
      rw [← ih r, tB_tN h0, tB_tN h0, show r + l.length * (q + 1) + l.length - 1 = r + l.length * q + l.length - 1 + l.length by rw [Nat.mul_succ]; omega, tN_add]
  have := Nat.mod_add_div i l.length
  rw [← e (i / l.length) (i % l.length), this]
theorem tB_ne {l : List (Int × Int)} (hg : Good l) (i : Nat) : tB l i ≠ 0 := by
  rw [tB_tN (good_pos hg)]; exact good_turn hg _
theorem cvx_same {l : List (Int × Int)} (hg : Good l) (h : ∀ i, i < l.length → (0 < tB l i ↔ 0 < tB l 0)) : Cvx l := by
  have h0 := good_pos hg
  have all : ∀ i, 0 < tB l i ↔ 0 < tB l 0 := fun i => by rw [← tB_mod h0 i]; exact h _ (Nat.mod_lt _ h0)
  by_cases hp : 0 < tB l 0
  · have hl : leftAll l := fun i _ => by show 0 < tN l i; rw [tN_tB h0]; exact (all _).2 hp
    have ha := left_area hg hl
    intro i hi
    have := hl i hi
    change 0 < tN l i at this
    unfold sgn
    rw [if_pos ha, if_pos this]
  · have hl : rightAll l := fun i _ => by
      show tN l i < 0
      rw [tN_tB h0]
      have h1 := tB_ne hg (i + 1)
      have h2 := mt (all (i + 1)).1 hp
      omega
    have ha := right_area hg hl
    intro i hi
    have := hl i hi
    change tN l i < 0 at this
    unfold sgn
    rw [if_neg (by omega), if_pos this, if_neg (by omega), if_pos ha]
theorem same_cvx {l : List (Int × Int)} (hg : Good l) (h : Cvx l) (i : Nat) : 0 < tB l i ↔ 0 < tB l 0 := by
  have h0 := good_pos hg
  have all : ∀ i, sgn (tB l i) = sgn (areaN l) := by
    intro i
    rw [← tB_mod h0, tB_tN h0]
    have e : i % l.length + l.length - 1 = (i % l.length + l.length - 1) % l.length + l.length * ((i % l.length + l.length - 1) / l.length) := (Nat.mod_add_div _ _).symm
    have m : ∀ q r, tN l (r + l.length * q) = tN l r := by
      intro q
      induction q with
      | zero => intro r; rfl
      | succ q ih => intro r; rw [← ih r, show r + l.length * (q + 1) = r + l.length * q + l.length by rw [Nat.mul_succ]; omega, tN_add]
    rw [e, m]
    exact h _ (Nat.mod_lt _ h0)
  have e := (all i).trans (all 0).symm
  unfold sgn at e
  constructor
  · intro hp
    rw [if_pos hp] at e
    by_cases h1 : 0 < tB l 0
    · exact h1
    · rw [if_neg h1] at e; split at e <;> omega
  · intro hp
    rw [if_pos hp] at e
    by_cases h1 : 0 < tB l i
    · exact h1
    · rw [if_neg h1] at e; split at e <;> omega
end Go.Proofs.Ytjkfdcjfoliboaa
