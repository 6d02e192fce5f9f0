/- widths in a direction: what is told -/
import Derived.Test.YtieimijkkjhegaaSd
import Derived.Test.YtieimijkkjhegaaTwz
namespace Go.Proofs.Ytieimijkkjhegaa
open Go.ChangeShapes Go.WideShapes Go.ChangeAt Go.RowKit Go.Joins
set_option linter.unusedVariables false
set_option linter.unusedSimpArgs false
set_option maxRecDepth 4000
/-- the value of a point -/
def vlu (u v : Int) (p : Int × Int) : Int := u * p.1 + v * p.2
def loW (l : List (Int × Int)) (u v : Int) : Nat → Int
  | 0 => vlu u v (vx l 0)
  | k + 1 => min (loW l u v k) (vlu u v (vx l k))
def hiW (l : List (Int × Int)) (u v : Int) : Nat → Int
  | 0 => vlu u v (vx l 0)
  | k + 1 => max (hiW l u v k) (vlu u v (vx l k))
theorem lohi_x (l : List (Int × Int)) (k : Nat) : loW l 1 0 k = (loN l k).1 ∧ hiW l 1 0 k = (hiN l k).1 := by
  induction k with
  | zero => simp [loW, hiW, loN, hiN, vlu]
  | succ k ih => simp [loW, hiW, loN, hiN, vlu, ih.1, ih.2]
theorem lohi_y (l : List (Int × Int)) (k : Nat) : loW l 0 1 k = (loN l k).2 ∧ hiW l 0 1 k = (hiN l k).2 := by
  induction k with
  | zero => simp [loW, hiW, loN, hiN, vlu]
  | succ k ih => simp [loW, hiW, loN, hiN, vlu, ih.1, ih.2]
theorem vlu_parts {u v : Int} {p : Int × Int} (h1 : -200 ≤ u) (h2 : u ≤ 200) (h3 : -200 ≤ v) (h4 : v ≤ 200) (hp : isPg p = true) : (-8000 ≤ u * p.1 ∧ u * p.1 ≤ 8000) ∧ (-8000 ≤ v * p.2 ∧ v * p.2 ≤ 8000) := by
  unfold isPg isPegB at hp
  simp only [Bool.and_eq_true, decide_eq_true_eq] at hp
  have a1 := mul_bd (x := u) (y := p.1) (m := 200) (n := 40) (by omega) (by omega) (by omega) (by omega)
  have a2 := mul_bd (x := v) (y := p.2) (m := 200) (n := 40) (by omega) (by omega) (by omega) (by omega)
  omega
theorem lohi_bd {l : List (Int × Int)} {u v : Int} (h1 : -200 ≤ u) (h2 : u ≤ 200) (h3 : -200 ≤ v) (h4 : v ≤ 200) (hp : ∀ i, i < l.length → isPg (vx l i) = true) (h0 : 0 < l.length) : ∀ k, k ≤ l.length → (-16000 ≤ loW l u v k ∧ loW l u v k ≤ 16000) ∧ (-16000 ≤ hiW l u v k ∧ hiW l u v k ≤ 16000) ∧ loW l u v k ≤ hiW l u v k := by
  intro k
  induction k with
  | zero =>
    intro _
    have := vlu_parts h1 h2 h3 h4 (hp 0 h0)
    simp only [loW, hiW, vlu]
    omega
  | succ k ih =>
    intro hk
    have := vlu_parts h1 h2 h3 h4 (hp k (by omega))
    have i1 := ih (by omega)
    simp only [loW, hiW, vlu]
    omega
/-- is it a direction that functions take? -/
def dirB (u v : Int) : Bool := (decide (-200 ≤ u) && decide (u ≤ 200)) && (decide (-200 ≤ v) && decide (v ≤ 200)) && decide (Nat.gcd u.natAbs v.natAbs = 1)
noncomputable def okW (l : List (Int × Int)) (u v : Int) : Bool := goodB l && dirB u v
noncomputable def wdS (l : List (Int × Int)) (u v : Int) : Int := if okW l u v = true then hiW l u v l.length - loW l u v l.length else 0
theorem wdS_t {l : List (Int × Int)} {u v : Int} (h : okW l u v = true) : wdS l u v = hiW l u v l.length - loW l u v l.length := by unfold wdS; rw [if_pos h]
theorem wdS_f {l : List (Int × Int)} {u v : Int} (h : okW l u v = false) : wdS l u v = 0 := by unfold wdS; rw [h]; rfl
theorem dirB_t {u v : Int} (h : dirB u v = true) : -200 ≤ u ∧ u ≤ 200 ∧ -200 ≤ v ∧ v ≤ 200 ∧ Nat.gcd u.natAbs v.natAbs = 1 := by
  unfold dirB at h
  simp only [Bool.and_eq_true, decide_eq_true_eq] at h
  omega
end Go.Proofs.Ytieimijkkjhegaa
