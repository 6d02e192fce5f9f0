/- contracts: bounds of both sums -/
import Derived.Test.YtieimijkkjhegaaSd
namespace Go.Proofs.Ytieimijkkjhegaa
open Go.ChangeShapes Go.WideShapes Go.ChangeAt Go.RowKit Go.Joins
set_option linter.unusedVariables false
set_option linter.unusedSimpArgs false
set_option maxRecDepth 4000
theorem area_bd {l : List (Int × Int)} (hg : Good l) : -40000 ≤ areaN l ∧ areaN l ≤ 40000 := by
  have := sh_bd hg.pegs (good_pos hg) l.length
  have h1 := hg.few
  unfold areaN
  omega
theorem on_bd {l : List (Int × Int)} (hg : Good l) : -1600 ≤ onN l ∧ onN l ≤ 1600 := by
  have := rn_bd hg.pegs (good_pos hg) l.length
  have h1 := hg.few
  unfold onN
  omega
end Go.Proofs.Ytieimijkkjhegaa
