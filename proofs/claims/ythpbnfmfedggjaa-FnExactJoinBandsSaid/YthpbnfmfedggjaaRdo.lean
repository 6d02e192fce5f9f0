/- a row of its own may be read -/
import Derived.Test.YthpbnfmfedggjaaBf0
import Derived.Test.YthpbnfmfedggjaaBi
namespace Go.Proofs.Ythpbnfmfedggjaa
open Go.ChangeShapes Go.WideShapes Go.ChangeAt Go.RowKit Go.Joins
set_option linter.unusedVariables false
set_option linter.unusedSimpArgs false
set_option maxRecDepth 4000
theorem rd_own {w : World} {base : Nat} {v : Value} {m : List (Int × Int)} (h : w.ownsRow base 38 2 v m.length (flat m)) (hm : 0 < m.length) : ∃ g cap, v = .slice (some ⟨g, 0, none⟩) m.length cap ∧ m.length ≤ cap ∧ cap ≤ maxLen ∧ Rd w w.heap.size (some ⟨g, 0, none⟩) m := by
  rcases own_val h with ⟨_, h0⟩ | ⟨g, cap, rfl, h1, h2, hg1, hg2⟩
  · omega
  · refine ⟨g, cap, rfl, h1, h2, fun _ => ⟨g, 0, rfl, hg2, fun i p hp => ?_⟩⟩
    have hi : i < m.length := (List.getElem?_eq_some_iff.1 hp).1
    have hq := own_pt h rfl i hi
    have e := pt_get hi
    rw [hp] at e
    injection e with e
    subst e
    rw [Nat.zero_add]
    exact hq
end Go.Proofs.Ythpbnfmfedggjaa
