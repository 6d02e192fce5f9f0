/- two lists of points held against each other -/
import Derived.Test.YtmhdbodmpohdnaaN
import Derived.Test.YtmhdbodmpohdnaaR
namespace Go.Proofs.Ytmhdbodmpohdnaa
open Go.ChangeShapes Go.WideShapes Go.ChangeAt Go.RowKit Go.Joins
set_option linter.unusedVariables false
set_option linter.unusedSimpArgs false
set_option maxRecDepth 4000
theorem eq_at {l m : List (Int × Int)} (h : l.length = m.length) : l = m ↔ ∀ (k : Nat) (p q : Int × Int), l[k]? = some p → m[k]? = some q → p = q := by
  constructor
  · rintro rfl k p q hp hq
    rw [hp] at hq; injection hq
  · intro H
    apply List.ext_getElem h
    intro i h1 h2
    exact H i _ _ (List.getElem?_eq_getElem h1) (List.getElem?_eq_getElem h2)
/-- the same so far -/
def Same (l m : List (Int × Int)) (k : Nat) : Prop := ∀ i p q, i < k → l[i]? = some p → m[i]? = some q → p = q
end Go.Proofs.Ytmhdbodmpohdnaa
