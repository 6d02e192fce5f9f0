/- plain: straight lines of a board, each by its first two pegs -/
import Derived.Test.YtmhdbodmpohdnaaOj
namespace Go.Proofs.Ytmhdbodmpohdnaa
open Go.ChangeShapes Go.WideShapes Go.ChangeAt Go.RowKit Go.Joins
set_option linter.unusedVariables false
set_option linter.unusedSimpArgs false
set_option maxRecDepth 4000
def onQ (w h : Nat) (x y : Int) : Bool := decide (0 ≤ x) && (decide (x < w) && (decide (0 ≤ y) && decide (y < h)))
/-- how many pegs follow each other from x, y on -/
def alg (w h : Nat) (s1 s2 : Int) : Nat → Int → Int → Nat
  | 0, _, _ => 0
  | f + 1, x, y => if onQ w h x y = true then 1 + alg w h s1 s2 f (x + s1) (y + s2) else 0
def cnd (w h : Nat) (x1 y1 x2 y2 : Nat) : Bool :=
  (Nat.beq (Nat.gcd ((x1 : Int) - x2).natAbs ((y1 : Int) - y2).natAbs) 1) && !(onQ w h ((x1 : Int) - ((x2 : Int) - x1)) ((y1 : Int) - ((y2 : Int) - y1)))
def stC (w h k m : Nat) : Bool := cnd w h (k / h) (k % h) (m / h) (m % h)
/-- the step of a line, and how many pegs it has -/
def stE (w h k m : Nat) : Int × Int × Int :=
  ((((m / h : Nat) : Int) - ((k / h : Nat) : Int)), (((m % h : Nat) : Int) - ((k % h : Nat) : Int)), ((alg w h (((m / h : Nat) : Int) - ((k / h : Nat) : Int)) (((m % h : Nat) : Int) - ((k % h : Nat) : Int)) 13 ((k / h : Nat) : Int) ((k % h : Nat) : Int) : Nat) : Int))
def stR (w h k : Nat) : Nat → List (Int × Int × Int)
  | 0 => []
  | j + 1 => if stC w h k (k + 1 + j) = true then stR w h k j ++ [stE w h k (k + 1 + j)] else stR w h k j
def stS (w h : Nat) : Nat → List (Int × Int × Int)
  | 0 => []
  | k + 1 => stS w h k ++ stR w h k (w * h - 1 - k)
theorem stR_len (w h k : Nat) : ∀ j, (stR w h k j).length ≤ j
  | 0 => by simp [stR]
  | j + 1 => by
    have := stR_len w h k j
    unfold stR
    split
    · rw [List.length_append]; simp; omega
    · omega
theorem stS_len (w h : Nat) : ∀ k, k ≤ w * h → (stS w h k).length ≤ k * (w * h)
  | 0, _ => by simp [stS]
  | k + 1, hk => by
    have h1 := stS_len w h k (by omega)
    have h2 := stR_len w h k (w * h - 1 - k)
    unfold stS
    rw [List.length_append, Nat.add_mul, Nat.one_mul]
    omega
theorem onQ_eq (w h : Nat) (x y : Int) : onQ w h x y = (decide (0 ≤ x) && decide (x ≤ (w : Int) - 1) && (decide (0 ≤ y) && decide (y ≤ (h : Int) - 1))) := by
  rw [Bool.eq_iff_iff]
  unfold onQ
  simp
  omega
/-- counted from some peg on: what is left -/
def potP (w h : Nat) (s1 s2 : Int) (f : Nat) (x y : Int) : Prop := (1 ≤ s1 ∧ (w : Int) - x ≤ f) ∨ (s1 = 0 ∧ 1 ≤ s2 ∧ (h : Int) - y ≤ f)
theorem pot_on {w h : Nat} {s1 s2 : Int} {f : Nat} {x y : Int} (hp : potP w h s1 s2 f x y) (ho : onQ w h x y = true) :
    ∃ g, f = g + 1 ∧ potP w h s1 s2 g (x + s1) (y + s2) ∧ 0 ≤ x ∧ x < w ∧ 0 ≤ y ∧ y < h := by
  unfold onQ at ho
  simp at ho
  unfold potP at hp
  obtain ⟨g, rfl⟩ : ∃ g, f = g + 1 := ⟨f - 1, by omega⟩
  refine ⟨g, rfl, ?_, ho⟩
  unfold potP
  omega
theorem alg_on {w h : Nat} {s1 s2 : Int} {g : Nat} {x y : Int} (ho : onQ w h x y = true) : alg w h s1 s2 (g + 1) x y = 1 + alg w h s1 s2 g (x + s1) (y + s2) := by
  show (if onQ w h x y = true then _ else 0) = _
  rw [if_pos ho]
theorem alg_off {w h : Nat} {s1 s2 : Int} {f : Nat} {x y : Int} (ho : onQ w h x y = false) : alg w h s1 s2 f x y = 0 := by
  cases f with
  | zero => rfl
  | succ g =>
    show (if onQ w h x y = true then _ else 0) = _
    rw [ho]
    rfl
end Go.Proofs.Ytmhdbodmpohdnaa
