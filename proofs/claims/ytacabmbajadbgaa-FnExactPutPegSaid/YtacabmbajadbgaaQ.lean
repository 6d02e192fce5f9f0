/- contract: the model's test of a polygon -/
import Derived.Test.YtacabmbajadbgaaO
import Derived.Deep.LoopGhost
namespace Go.Proofs.Ytacabmbajadbgaa
open Go.ChangeShapes Go.WideShapes Go.ChangeAt Go.RowKit Go.Joins
set_option linter.unusedVariables false
set_option linter.unusedSimpArgs false
set_option maxRecDepth 4000
/-- corner number i, round and round -/
def vx (l : List (Int × Int)) (i : Nat) : Int × Int := (l[i % l.length]?).getD (0, 0)
def isPg (p : Int × Int) : Bool := isPegB p.1 p.2
def twP (a b c : Int × Int) : Int := twI a.1 a.2 b.1 b.2 c.1 c.2
def meP (a b c d : Int × Int) : Bool := meetB a.1 a.2 b.1 b.2 c.1 c.2 d.1 d.2
/-- what a polygon is -/
structure Good (l : List (Int × Int)) : Prop where
  few : 3 ≤ l.length ∧ l.length ≤ 10
  pegs : ∀ i, i < l.length → isPg (vx l i) = true
  diff : ∀ i j, j < i → i < l.length → vx l i ≠ vx l j
  turn : ∀ i, i < l.length → twP (vx l i) (vx l (i + 1)) (vx l (i + 2)) ≠ 0
  apart : ∀ i k, i + 2 ≤ k → k < l.length → k + 1 < l.length + i → meP (vx l i) (vx l (i + 1)) (vx l k) (vx l (k + 1)) = false
noncomputable def goodB (l : List (Int × Int)) : Bool := @decide (Good l) (Classical.propDecidable _)
theorem goodB_true {l : List (Int × Int)} (h : Good l) : goodB l = true := by unfold goodB; exact @decide_eq_true _ (Classical.propDecidable _) h
theorem goodB_false {l : List (Int × Int)} (h : ¬ Good l) : goodB l = false := by unfold goodB; exact @decide_eq_false _ (Classical.propDecidable _) h
theorem vx_get {l : List (Int × Int)} {i : Nat} (h : i < l.length) : l[i]? = some (vx l i) := by
  unfold vx; rw [Nat.mod_eq_of_lt h, List.getElem?_eq_getElem h]; rfl
theorem vx_mod {l : List (Int × Int)} (i : Nat) (h : 0 < l.length) : l[i % l.length]? = some (vx l i) := by
  unfold vx; rw [List.getElem?_eq_getElem (Nat.mod_lt _ h)]; rfl
/-- the first k corners are different pegs -/
def Fine (l : List (Int × Int)) (k : Nat) : Prop := ∀ i, i < k → isPg (vx l i) = true ∧ ∀ j, j < i → vx l i ≠ vx l j
/-- the corners below k turn, and their lines meet none behind -/
def Apart (l : List (Int × Int)) (m : Nat) : Prop := ∀ i, i < m → twP (vx l i) (vx l (i + 1)) (vx l (i + 2)) ≠ 0 ∧ ∀ k, i + 2 ≤ k → k < l.length → k + 1 < l.length + i → meP (vx l i) (vx l (i + 1)) (vx l k) (vx l (k + 1)) = false
def Turns (l : List (Int × Int)) (k : Nat) : Prop := twP (vx l k) (vx l (k + 1)) (vx l (k + 2)) ≠ 0
theorem vx_per (l : List (Int × Int)) (i : Nat) : vx l (i % l.length) = vx l i := by unfold vx; rw [Nat.mod_mod]
end Go.Proofs.Ytacabmbajadbgaa
