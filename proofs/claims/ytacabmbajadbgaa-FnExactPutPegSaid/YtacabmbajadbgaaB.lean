/- contracts of the small functions over pegs -/
import Derived.Test.YtacabmbajadbgaaA
import Derived.Below
namespace Go.Proofs.Ytacabmbajadbgaa
open Go.ChangeShapes Go.WideShapes Go.ChangeAt Go.RowKit Go.Joins
set_option linter.unusedVariables false
theorem bcell {W w1 : World} (hb : Below W.heap.size W w1) : (∀ b o, b < W.heap.size → w1.cell? ⟨b, o, none⟩ = W.cell? ⟨b, o, none⟩) ∧ (∀ b o, b < W.heap.size → w1.frozen? ⟨b, o, none⟩ = W.frozen? ⟨b, o, none⟩) :=
  ⟨fun b o h => hb.cell (p := ⟨b, o, none⟩) h, fun b o h => hb.frozen (p := ⟨b, o, none⟩) h⟩
/-- a peg's two numbers are of size 40 at most -/
def isPegB (x y : Int) : Bool := decide (-40 ≤ x) && decide (x ≤ 40) && (decide (-40 ≤ y) && decide (y ≤ 40))
end Go.Proofs.Ytacabmbajadbgaa
