/- contracts: lines that meet, the program's side -/
import Derived.Test.YtacabmbajadbgaaG
namespace Go.Proofs.Ytacabmbajadbgaa
open Go.ChangeShapes Go.WideShapes Go.ChangeAt Go.RowKit Go.Joins
set_option linter.unusedVariables false
set_option linter.unusedSimpArgs false
set_option maxRecDepth 4000
theorem sz_of {x y : Int} (h : isPegB x y = true) : Sz x y := by unfold isPegB at h; simp at h; unfold Sz; omega
theorem tw_bd40 {a1 a2 b1 b2 c1 c2 : Int} (ha : isPegB a1 a2 = true) (hb : isPegB b1 b2 = true) (hc : isPegB c1 c2 = true) : -12800 ≤ twI a1 a2 b1 b2 c1 c2 ∧ twI a1 a2 b1 b2 c1 c2 ≤ 12800 := by
  unfold isPegB at *
  simp at ha hb hc
  have h1 := mul_bd (x := b1 - a1) (y := c2 - a2) (m := 80) (n := 80) (by omega) (by omega) (by omega) (by omega)
  have h2 := mul_bd (x := b2 - a2) (y := c1 - a1) (m := 80) (n := 80) (by omega) (by omega) (by omega) (by omega)
  unfold twI; omega
end Go.Proofs.Ytacabmbajadbgaa
