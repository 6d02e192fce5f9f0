/- plain: pairs of pegs with so many steps between them -/
import Derived.Test.YtmhdbodmpohdnaaOf
namespace Go.Proofs.Ytmhdbodmpohdnaa
open Go.ChangeShapes Go.WideShapes Go.ChangeAt Go.RowKit Go.Joins
set_option linter.unusedVariables false
set_option linter.unusedSimpArgs false
set_option maxRecDepth 4000
def gcI (x y : Nat) : Int := ((Nat.gcd x y : Nat) : Int)
/-- places of a step x, y on a board, in all its directions -/
def plF (w h : Nat) (x y : Nat) : Int := ((w : Int) - (x : Int)) * ((h : Int) - (y : Int)) * (if 0 < x ∧ 0 < y then 2 else 1)
def ctF (w h : Nat) (st : Int) (x y : Nat) : Int := if gcI x y = st then plF w h x y else 0
def ctN (w h : Nat) (st : Int) : Int := sm (fun x => sm (ctF w h st x) h) w
/-- all pegs that are so many steps from each one -/
def prN (w h : Nat) (st : Int) : Int := sm (fun k => sm (awF (bX h k).1 (bX h k).2 st h) (w * h)) (w * h)
theorem gcI_zero : gcI 0 0 = 0 := rfl
theorem plF_bd {w h x y : Nat} (h1 : w ≤ 12) (h2 : h ≤ 12) (hx : x < w) (hy : y < h) :
    (0 ≤ ((w : Int) - (x : Int)) * ((h : Int) - (y : Int)) ∧ ((w : Int) - (x : Int)) * ((h : Int) - (y : Int)) ≤ 144) ∧ 0 ≤ plF w h x y ∧ plF w h x y ≤ 288 := by
  have a1 := mul_bd (x := (w : Int) - (x : Int)) (y := (h : Int) - (y : Int)) (m := 12) (n := 12) (by omega) (by omega) (by omega) (by omega)
  have a0 := Int.mul_nonneg (show 0 ≤ (w : Int) - (x : Int) by omega) (show 0 ≤ (h : Int) - (y : Int) by omega)
  unfold plF
  split <;> omega
theorem ctF_bd {w h x y : Nat} (st : Int) (h1 : w ≤ 12) (h2 : h ≤ 12) (hx : x < w) (hy : y < h) : 0 ≤ ctF w h st x y ∧ ctF w h st x y ≤ 288 := by
  have := (plF_bd h1 h2 hx hy).2
  unfold ctF
  split <;> omega
theorem ctR_bd {w h x k : Nat} (st : Int) (h1 : w ≤ 12) (h2 : h ≤ 12) (hx : x < w) (hk : k ≤ h) : 0 ≤ sm (ctF w h st x) k ∧ sm (ctF w h st x) k ≤ 3456 := by
  have := sm_bd (f := ctF w h st x) (c := 288) (n := k) (fun i hi => ctF_bd st h1 h2 hx (by omega))
  omega
theorem ctS_bd {w h k : Nat} (st : Int) (h1 : w ≤ 12) (h2 : h ≤ 12) (hk : k ≤ w) : 0 ≤ sm (fun x => sm (ctF w h st x) h) k ∧ sm (fun x => sm (ctF w h st x) h) k ≤ 41472 := by
  have := sm_bd (f := fun x => sm (ctF w h st x) h) (c := 3456) (n := k) (fun i hi => ctR_bd st h1 h2 (by omega) (Nat.le_refl _))
  omega
theorem prR_bd {w h k : Nat} (st : Int) (h3 : w * h ≤ 144) (hk : k ≤ w * h) : 0 ≤ sm (fun k => sm (awF (bX h k).1 (bX h k).2 st h) (w * h)) k ∧ sm (fun k => sm (awF (bX h k).1 (bX h k).2 st h) (w * h)) k ≤ 20736 := by
  have := sm_bd (f := fun k => sm (awF (bX h k).1 (bX h k).2 st h) (w * h)) (c := 144) (n := k) (fun i hi => aw_bd _ _ _ _ (Nat.le_refl _) h3)
  omega
theorem pr_ct {w h : Nat} {st : Int} (h1 : 1 ≤ st) : prN w h st = 2 * ctN w h st := by
  have e := sm_pairs (fun x y => if gcI x y = st then 1 else 0) w h
  unfold prN
  have e1 : (fun k => sm (awF (bX h k).1 (bX h k).2 st h) (w * h)) = (fun k => sm (fun m => if gcI ((bX h k).1 - (bX h m).1).natAbs ((bX h k).2 - (bX h m).2).natAbs = st then 1 else 0) (w * h)) := rfl
  rw [e1, e]
  unfold ctN
  rw [← sm_mul]
  refine sm_congr fun x hx => ?_
  rw [← sm_mul]
  refine sm_congr fun y hy => ?_
  unfold ctF plF
  by_cases hg : gcI x y = st
  · rw [if_pos hg, if_pos hg]
    rcases Nat.eq_zero_or_pos x with hx0 | hx0
    · rcases Nat.eq_zero_or_pos y with hy0 | hy0
      · subst hx0; subst hy0; rw [gcI_zero] at hg; omega
      · subst hx0
        rw [twc_zero, twc_pos hy0, if_neg (by omega)]
        rw [show ((w - 0 : Nat) : Int) = (w : Int) - ((0 : Nat) : Int) by omega, show ((h - y : Nat) : Int) = (h : Int) - (y : Int) by omega]
        grind
    · rcases Nat.eq_zero_or_pos y with hy0 | hy0
      · subst hy0
        rw [twc_zero, twc_pos hx0, if_neg (by omega)]
        rw [show ((w - x : Nat) : Int) = (w : Int) - (x : Int) by omega, show ((h - 0 : Nat) : Int) = (h : Int) - ((0 : Nat) : Int) by omega]
        grind
      · rw [twc_pos hx0, twc_pos hy0, if_pos ⟨hx0, hy0⟩]
        rw [show ((w - x : Nat) : Int) = (w : Int) - (x : Int) by omega, show ((h - y : Nat) : Int) = (h : Int) - (y : Int) by omega]
        grind
  · rw [if_neg hg, if_neg hg]
    simp
end Go.Proofs.Ytmhdbodmpohdnaa
