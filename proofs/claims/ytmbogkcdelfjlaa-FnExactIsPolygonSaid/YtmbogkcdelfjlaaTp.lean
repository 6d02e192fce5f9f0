/- contract: the model's IsPolygon -/
import Derived.Test.YtmbogkcdelfjlaaQ
import Derived.Test.YtmbogkcdelfjlaaQg
namespace Go.Proofs.Ytmbogkcdelfjlaa
open Go.ChangeShapes Go.WideShapes Go.ChangeAt Go.RowKit Go.Joins
set_option linter.unusedVariables false
set_option linter.unusedSimpArgs false
set_option maxRecDepth 4000
theorem specIsPolygon_any (A : Option Addr) (c : Nat) (l : List (Int × Int)) (w : World) (hn : l.length ≤ 1048576) (hcap : l.length ≤ c) (hc2 : c ≤ 9223372036854775807) (hR : Rd w w.heap.size A l) :
    Calls Try.prog 12 #[.slice A l.length c] w fun e w' => e = .returned (.bool (goodB l)) ∧ Below w.heap.size w w' := by
  have K := Lib.hid (pgGood_any A c l w hn hcap hc2 hR)
  clear hR
  go_enter Try.func12, Try.ntmps12
  go_wp2_with fail
  refine K.out.mono ?_; rintro e w1 ⟨rfl, hb1⟩
  go_wp2_with fail
  go_ret
  exact ⟨rfl, hb1⟩
end Go.Proofs.Ytmbogkcdelfjlaa
