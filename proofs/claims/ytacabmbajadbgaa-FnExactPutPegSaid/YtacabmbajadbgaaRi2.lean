/- rings: is it around, the program -/
import Derived.Test.YtacabmbajadbgaaRi1
import Derived.Test.YtacabmbajadbgaaMl
import Derived.Test.YtacabmbajadbgaaSax
import Derived.Deep.QuietTactic
import Derived.BigQuiet
import Derived.BigRegion
namespace Go.Proofs.Ytacabmbajadbgaa
open Go.ChangeShapes Go.WideShapes Go.ChangeAt Go.RowKit Go.Joins
set_option linter.unusedVariables false
set_option linter.unusedSimpArgs false
set_option maxRecDepth 4000
/-- around: the points come back, the sum is right -/
def arI (F : Nat → Int) (c : Nat) : Bool := decide (dmk F c c = (1, 0)) && decide (dmk F c (c + 1) = (0, 1)) && decide (sN F c = 3 * (c : Int) - 12)
theorem arI_F {F : Nat → Int} {c : Nat} (h : ¬ (dmk F c c = (1, 0) ∧ dmk F c (c + 1) = (0, 1))) : arI F c = false := by
  unfold arI
  by_cases h1 : dmk F c c = (1, 0)
  · have h2 : ¬ dmk F c (c + 1) = (0, 1) := fun h2 => h ⟨h1, h2⟩
    simp [h2]
  · simp [h1]
theorem arI_T {F : Nat → Int} {c : Nat} (h1 : dmk F c c = (1, 0)) (h2 : dmk F c (c + 1) = (0, 1)) : arI F c = decide (sN F c = 3 * (c : Int) - 12) := by
  unfold arI; simp [h1, h2]
end Go.Proofs.Ytacabmbajadbgaa
