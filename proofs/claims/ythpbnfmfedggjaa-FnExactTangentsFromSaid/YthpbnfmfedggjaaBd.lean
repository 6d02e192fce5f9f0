/- contracts: AreDifferent on both sides, as the law calls them -/
import Derived.Test.YthpbnfmfedggjaaBc
namespace Go.Proofs.Ythpbnfmfedggjaa
open Go.ChangeShapes Go.WideShapes Go.ChangeAt Go.RowKit Go.Joins
set_option linter.unusedVariables false
set_option linter.unusedSimpArgs false
set_option maxRecDepth 4000
theorem specAreDifferent_any (A : Option Addr) (c : Nat) (l : List (Int × Int)) (w : World) (hn : l.length ≤ 1048576) (hcap : l.length ≤ c) (hc2 : c ≤ 9223372036854775807) (hR : Rd w w.heap.size A l) :
    Calls Try.prog 16 #[.slice A l.length c] w fun e w' => e = .returned (.bool (difB l)) ∧ Below w.heap.size w w' := by
  have K := Lib.hid (bdGood_any A c l w hn hcap hc2 hR)
  clear hR
  generalize difB l = d at *
  go_enter Try.func16, Try.ntmps16
  go_wp2_with fail
  refine K.out.mono ?_; rintro e w1 ⟨rfl, hb1⟩
  go_wp2_with fail
  go_ret
  exact ⟨rfl, hb1⟩
end Go.Proofs.Ythpbnfmfedggjaa
