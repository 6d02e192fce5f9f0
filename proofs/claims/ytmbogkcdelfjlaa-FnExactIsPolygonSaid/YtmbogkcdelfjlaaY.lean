/- the walk of the law IsPolygon; an argument that is a list of points, opened -/
import Derived.Test.YtmbogkcdelfjlaaX
import Derived.Test.YtmbogkcdelfjlaaTp
import Derived.Test.YtmbogkcdelfjlaaK
import Derived.Deep.Slices
import Derived.Deep.Fields
namespace Go.Proofs.Ytmbogkcdelfjlaa
open Go.ChangeShapes Go.WideShapes Go.ChangeAt Go.RowKit Go.Joins
set_option linter.unusedVariables false
set_option linter.unusedSimpArgs false
set_option maxRecDepth 4000
open Go.Deep
theorem isPolygon_walk (A : Option Addr) (c : Nat) (l : List (Int × Int)) (w : World) (hcap : l.length ≤ c) (hc2 : c ≤ 9223372036854775807) (hR : Rd w w.heap.size A l) :
    Calls Try.prog 3 #[.slice A l.length c] w fun e w' => e = .returned (.bool true) ∧ Below w.heap.size w w' := by
  have K0 := Lib.hid (szPegS_any A l.length c 1048576 w (by omega) (by omega) (by omega))
  by_cases hbig : 1048576 < l.length
  · rw [if_pos (by omega)] at K0
    clear hR
    go_enter Try.func3, Try.ntmps3
    go_wp2_with fail
    refine K0.out.mono ?_; rintro e _ ⟨rfl, rfl⟩
    go_wp2_with fail
    go_ret
    exact ⟨rfl, Below.refl _ _⟩
  · rw [if_neg (by omega)] at K0
    have hle : l.length ≤ 1048576 := by omega
    have hz : (0 : Int) ≤ 1048576 - (l.length : Int) := by omega
    have KT := Lib.hid (fun W (hb : Below w.heap.size w W) => toPegS_any A c l W hle (rd_more (rd_below hR hb (Nat.le_refl _)) hb.size))
    have KS := Lib.hid (fun W g (h : Set W g l.length l.length l) => specIsPolygon_any (some ⟨g, 0, none⟩) l.length l W hle (Nat.le_refl _) (by omega) (rd_of_set h))
    have KI := Lib.hid (fun W g (h : Set W g l.length l.length l) => implIsPolygon_any (some ⟨g, 0, none⟩) l.length l W hle (rd_of_set h))
    have KE := Lib.hid (fun W g g' (h : Set W g l.length l.length l) (h' : Set W g' l.length l.length l) => (eqPegS_any (some ⟨g, 0, none⟩) (some ⟨g', 0, none⟩) l.length l.length l l W hle hle (rd_of_set h) (rd_of_set h')).mono fun e w' hh => (show e = .returned (.bool true) ∧ Below W.heap.size W w' from ⟨hh.1.trans (ret_bool (by simp)), hh.2⟩))
    clear hR hbig hle
    generalize goodB l = b at *
    go_enter Try.func3, Try.ntmps3
    go_wp2_with fail
    refine K0.out.mono ?_; rintro e _ ⟨rfl, rfl⟩
    go_wp2_with fail
    refine (KT.out w (Below.refl _ _)).mono ?_; rintro e w1 ⟨rfl, hb1, hs1⟩
    go_wp2_with fail
    refine (KS.out w1 _ hs1).mono ?_; rintro e w2 ⟨rfl, hb2⟩
    have B2 : Below w.heap.size w w2 := hb1.trans (hb2.mono hb1.size)
    clear hb1 hs1 hb2
    go_wp2_with fail
    refine (KT.out w2 B2).mono ?_; rintro e w3 ⟨rfl, hb3, hs3⟩
    have B3 : Below w.heap.size w w3 := B2.trans (hb3.mono B2.size)
    generalize w2.heap.size = g at *
    clear hb3 B2
    go_wp2_with fail
    refine (KI.out w3 _ hs3).mono ?_; rintro e w4 ⟨rfl, hb4⟩
    have B4 : Below w.heap.size w w4 := B3.trans (hb4.mono B3.size)
    have hs4 := set_below hs3 hb4
    clear hb4 B3 hs3
    go_wp2_with fail
    refine (KT.out w4 B4).mono ?_; rintro e w5 ⟨rfl, hb5, hs5⟩
    have B5 : Below w.heap.size w w5 := B4.trans (hb5.mono B4.size)
    have hs6 := set_below hs4 hb5
    generalize w4.heap.size = g' at *
    clear hb5 B4 hs4
    go_wp2_with fail
    refine (KE.out w5 _ _ hs6 hs5).mono ?_; rintro e w6 ⟨rfl, hb6⟩
    have B6 : Below w.heap.size w w6 := B5.trans (hb6.mono B5.size)
    go_wp2_with fail
    go_ret
    exact ⟨rfl, B6⟩
end Go.Proofs.Ytmbogkcdelfjlaa
