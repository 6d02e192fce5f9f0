/- contracts: squares of a triangle's sides -/
import Derived.Test.YtieimijkkjhegaaTe
import Derived.Test.YtieimijkkjhegaaKi
import Derived.BigRegion
namespace Go.Proofs.Ytieimijkkjhegaa
open Go.ChangeShapes Go.WideShapes Go.ChangeAt Go.RowKit Go.Joins
set_option linter.unusedVariables false
set_option linter.unusedSimpArgs false
set_option maxRecDepth 4000
/-- the square of how far two points are -/
def sqI (a1 a2 b1 b2 : Int) : Int := (a1 - b1) * (a1 - b1) + (a2 - b2) * (a2 - b2)
theorem sqI_comm (a1 a2 b1 b2 : Int) : sqI a1 a2 b1 b2 = sqI b1 b2 a1 a2 := by unfold sqI; grind
def sqP (p q : Int × Int) : Int := sqI p.1 p.2 q.1 q.2
/-- side number j of a triangle -/
def sdF (l : List (Int × Int)) (j : Nat) : Int := sqP (vx l (j + 1)) (vx l (j + 2))
theorem sqI_bd {a1 a2 b1 b2 : Int} (h1 : -40 ≤ a1 ∧ a1 ≤ 40) (h2 : -40 ≤ a2 ∧ a2 ≤ 40) (h3 : -40 ≤ b1 ∧ b1 ≤ 40) (h4 : -40 ≤ b2 ∧ b2 ≤ 40) : 0 ≤ sqI a1 a2 b1 b2 ∧ sqI a1 a2 b1 b2 ≤ 12800 := by
  have s1 := mul_bd (x := a1 - b1) (y := a1 - b1) (m := 80) (n := 80) (by omega) (by omega) (by omega) (by omega)
  have s2 := mul_bd (x := a2 - b2) (y := a2 - b2) (m := 80) (n := 80) (by omega) (by omega) (by omega) (by omega)
  have t1 := (sq_bd (x := a1 - b1) (by omega)).1
  have t2 := (sq_bd (x := a2 - b2) (by omega)).1
  unfold sqI
  omega
end Go.Proofs.Ytieimijkkjhegaa
