/- contracts: lists of pegs that are different, on both sides -/
import Derived.Test.YtheddoinnakneaaT
import Derived.Test.YtheddoinnakneaaRt
import Derived.BigRegion
namespace Go.Proofs.Ytheddoinnakneaa
open Go.ChangeShapes Go.WideShapes Go.ChangeAt Go.RowKit Go.Joins
set_option linter.unusedVariables false
set_option linter.unusedSimpArgs false
set_option maxRecDepth 4000
/-- 1 to 30 different pegs -/
structure Dif (l : List (Int × Int)) : Prop where
  few : 1 ≤ l.length ∧ l.length ≤ 30
  fine : Fine l l.length
noncomputable def difB (l : List (Int × Int)) : Bool := @decide (Dif l) (Classical.propDecidable _)
theorem difB_true {l : List (Int × Int)} (h : Dif l) : difB l = true := by unfold difB; exact @decide_eq_true _ (Classical.propDecidable _) h
theorem difB_false {l : List (Int × Int)} (h : ¬ Dif l) : difB l = false := by unfold difB; exact @decide_eq_false _ (Classical.propDecidable _) h
theorem dif_of {l : List (Int × Int)} (h : difB l = true) : Dif l := by unfold difB at h; exact @of_decide_eq_true _ (Classical.propDecidable _) h
end Go.Proofs.Ytheddoinnakneaa
