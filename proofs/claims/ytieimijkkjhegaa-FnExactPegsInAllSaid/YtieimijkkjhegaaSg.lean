/- contracts: points inside, both sums together -/
import Derived.Test.YtieimijkkjhegaaSj
import Derived.Test.YtieimijkkjhegaaSa
import Derived.Test.YtieimijkkjhegaaSb
namespace Go.Proofs.Ytieimijkkjhegaa
open Go.ChangeShapes Go.WideShapes Go.ChangeAt Go.RowKit Go.Joins
set_option linter.unusedVariables false
set_option linter.unusedSimpArgs false
set_option maxRecDepth 4000
theorem pgInside_any (A : Option Addr) (c : Nat) (l : List (Int × Int)) (w : World) (hg : Good l) (hR : Rd w w.heap.size A l) :
    Calls Try.prog 78 #[.slice A l.length c] w fun e w' => e = .returned (.int .i64 (insN l)) ∧ Below w.heap.size w w' := by
  have K1 := Lib.hid (pgArea_any A c l w hg.few.1 hg.few.2 hg.pegs hR)
  have K2 := Lib.hid (fun W (hb : Below w.heap.size w W) => pgRound_any A c l W (by have := hg.few; omega) hg.few.2 hg.pegs (rd_more (rd_below hR hb (Nat.le_refl _)) hb.size))
  obtain ⟨a1, a2⟩ := area_bd hg
  obtain ⟨o1, o2⟩ := on_bd hg
  have K3 := Lib.hid (fun W => l1Abs_any (areaN l) W (by omega) (by omega))
  unfold insN
  have nb : (0 : Int) ≤ ((areaN l).natAbs : Int) ∧ ((areaN l).natAbs : Int) ≤ 40000 := by omega
  obtain ⟨nb1, nb2⟩ := nb
  generalize ((areaN l).natAbs : Int) = m at *
  generalize areaN l = v at *
  generalize onN l = o at *
  clear hg hR
  go_enter Try.func78, Try.ntmps78
  go_wp2_with fail
  refine K1.out.mono ?_; rintro e w1 ⟨rfl, hb1⟩
  go_wp2_with fail
  refine (K3.out _).mono ?_; rintro e _ ⟨rfl, rfl⟩
  go_wp2_with fail
  refine (K2.out w1 hb1).mono ?_; rintro e w2 ⟨rfl, hb2⟩
  have B2 := hb1.trans (hb2.mono hb1.size)
  go_wp2_with fail
  go_ret
  exact ⟨rfl, B2⟩
end Go.Proofs.Ytieimijkkjhegaa
