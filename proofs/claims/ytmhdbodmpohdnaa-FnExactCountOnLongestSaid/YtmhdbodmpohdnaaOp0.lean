/- plain: straight lines of a board are counted; each board looked at -/
import Derived.Test.YtmhdbodmpohdnaaOm
namespace Go.Proofs.Ytmhdbodmpohdnaa
open Go.ChangeShapes Go.WideShapes Go.ChangeAt Go.RowKit Go.Joins
set_option linter.unusedVariables false
set_option linter.unusedSimpArgs false
set_option maxRecDepth 4000
def totR (w h k : Nat) : Nat → Nat
  | 0 => 0
  | j + 1 => if stC w h k (k + 1 + j) = true then totR w h k j + 1 else totR w h k j
def tot (w h : Nat) : Nat → Nat
  | 0 => 0
  | k + 1 => tot w h k + totR w h k (w * h - 1 - k)
theorem totR_eq (w h k : Nat) : ∀ j, (stR w h k j).length = totR w h k j
  | 0 => rfl
  | j + 1 => by
    unfold stR totR
    split
    · rw [List.length_append, totR_eq w h k j]; rfl
    · exact totR_eq w h k j
theorem tot_eq (w h : Nat) : ∀ k, (stS w h k).length = tot w h k
  | 0 => rfl
  | k + 1 => by
    unfold stS tot
    rw [List.length_append, tot_eq w h k, totR_eq]
/-- lines of so many pegs -/
def cntT (q : Int) : List (Int × Int × Int) → Nat
  | [] => 0
  | p :: l => cntT q l + if p.2.2 = q then 1 else 0
theorem cntT_app (q : Int) (l m : List (Int × Int × Int)) : cntT q (l ++ m) = cntT q l + cntT q m := by
  induction l with
  | nil => simp [cntT]
  | cons p l ih => rw [List.cons_append, cntT, cntT, ih]; omega
theorem cntT_le (q : Int) : ∀ l, cntT q l ≤ l.length
  | [] => by simp [cntT]
  | p :: l => by
    have := cntT_le q l
    unfold cntT
    rw [List.length_cons]
    split <;> omega
def lonR (w h : Nat) (q : Int) (k : Nat) : Nat → Nat
  | 0 => 0
  | j + 1 => if stC w h k (k + 1 + j) = true then (lonR w h q k j + if (stE w h k (k + 1 + j)).2.2 = q then 1 else 0) else lonR w h q k j
def lon (w h : Nat) (q : Int) : Nat → Nat
  | 0 => 0
  | k + 1 => lon w h q k + lonR w h q k (w * h - 1 - k)
theorem lonR_eq (w h : Nat) (q : Int) (k : Nat) : ∀ j, cntT q (stR w h k j) = lonR w h q k j
  | 0 => rfl
  | j + 1 => by
    unfold stR lonR
    split
    · rw [cntT_app, lonR_eq w h q k j]; simp [cntT]
    · exact lonR_eq w h q k j
theorem lon_eq (w h : Nat) (q : Int) : ∀ k, cntT q (stS w h k) = lon w h q k
  | 0 => rfl
  | k + 1 => by
    unfold stS lon
    rw [cntT_app, lon_eq w h q k, lonR_eq]
/-- where lines of a step have their first pegs -/
def stI (w h x y p : Int) : Int := (max 0 (w - (p - 1) * x) * max 0 (h - (p - 1) * y) - max 0 (w - (p - 1 + 1) * x) * max 0 (h - (p - 1 + 1) * y)) * (if 0 < x ∧ 0 < y then 2 else 1)
def lnF (w h : Nat) (p : Int) (x y : Nat) : Int := if gcI x y = 1 then stI w h x y p else 0
def lnI (w h : Nat) (p : Int) : Int := sm (fun x => sm (lnF w h p x) h) w
end Go.Proofs.Ytmhdbodmpohdnaa
