/- contracts: points brought elsewhere, on both sides -/
import Derived.Test.YtjkfdcjfoliboaaLa
import Derived.Test.YtjkfdcjfoliboaaLs
import Derived.Test.YtjkfdcjfoliboaaX
namespace Go.Proofs.Ytjkfdcjfoliboaa
open Go.ChangeShapes Go.WideShapes Go.ChangeAt Go.RowKit Go.Joins
set_option linter.unusedVariables false
set_option linter.unusedSimpArgs false
set_option maxRecDepth 4000
/-- where a matrix and a shift bring a point -/
def mapF (a b c d x y : Int) (l : List (Int × Int)) (i : Nat) : Int × Int := (a * (vx l i).1 + b * (vx l i).2 + x, c * (vx l i).1 + d * (vx l i).2 + y)
/-- are the first n of these points pegs? -/
def allB (g : Nat → Int × Int) (n : Nat) : Bool := pegsB (firsts g n)
theorem allB_iff (g : Nat → Int × Int) (n : Nat) : allB g n = true ↔ ∀ i, i < n → isPg (g i) = true := by
  unfold allB
  rw [pegsB_iff, firsts_len]
  constructor
  · intro h i hi
    have := h i hi
    have e := vx_get (l := firsts g n) (i := i) (by rw [firsts_len]; exact hi)
    rw [firsts_get g n i hi] at e
    injection e with e
    rw [e]; exact this
  · intro h i hi
    have e := vx_get (l := firsts g n) (i := i) (by rw [firsts_len]; exact hi)
    rw [firsts_get g n i hi] at e
    injection e with e
    rw [← e]; exact h i hi
theorem retL_of_row {w w' : World} {v : Value} {f : Nat → Int × Int} {k : Nat} (h : Row w' w.heap.size v f k) (hb : Below w.heap.size w w') : RetL w (firsts f k) true (.returned (.tuple #[v, .bool true])) w' := by
  obtain ⟨A, c, rfl, h1, h2, h3⟩ := row_out h
  refine ⟨A, c, by rw [firsts_len], by rw [firsts_len]; exact h1, h2, hb, ?_⟩
  rw [firsts_len]
  exact rw_same h3 fun i hi => (firsts_pt f k i hi).symm
end Go.Proofs.Ytjkfdcjfoliboaa
