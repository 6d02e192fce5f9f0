/- contracts: the model's IsPolygon; arePegs -/
import Derived.Test.YtmhdbodmpohdnaaQ
namespace Go.Proofs.Ytmhdbodmpohdnaa
open Go.ChangeShapes Go.WideShapes Go.ChangeAt Go.RowKit Go.Joins
set_option linter.unusedVariables false
set_option linter.unusedSimpArgs false
set_option maxRecDepth 4000
/-- all of them are pegs -/
def pegsB (l : List (Int × Int)) : Bool := l.all isPg
theorem pegsB_iff (l : List (Int × Int)) : pegsB l = true ↔ ∀ i, i < l.length → isPg (vx l i) = true := by
  unfold pegsB
  rw [List.all_eq_true]
  constructor
  · intro h i hi
    exact h _ (List.mem_of_getElem? (vx_get hi))
  · intro h p hp
    obtain ⟨i, hi, rfl⟩ := List.mem_iff_getElem.1 hp
    have := h i hi
    have e := vx_get hi
    rw [List.getElem?_eq_getElem hi] at e
    injection e with e
    rw [e]; exact this
end Go.Proofs.Ytmhdbodmpohdnaa
