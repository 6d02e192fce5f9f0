/- contracts: polygons told backwards, turned, mirrored and moved, on both sides -/
import Derived.Test.YtjkfdcjfoliboaaLd
import Derived.Test.YtjkfdcjfoliboaaQg
import Derived.Test.YtjkfdcjfoliboaaLb
import Derived.Test.YtjkfdcjfoliboaaLk
namespace Go.Proofs.Ytjkfdcjfoliboaa
open Go.ChangeShapes Go.WideShapes Go.ChangeAt Go.RowKit Go.Joins
set_option linter.unusedVariables false
set_option linter.unusedSimpArgs false
set_option maxRecDepth 4000
theorem backF_mod (l : List (Int × Int)) : firsts (fun i => vx l ((l.length - i) % l.length)) l.length = firsts (backF l) l.length := by
  unfold firsts backF
  congr 1
  funext i
  exact vx_per l _
theorem specBackPolygon_any (A : Option Addr) (c : Nat) (l : List (Int × Int)) (w : World) (hn : l.length ≤ 1048576) (hcap : l.length ≤ c) (hc2 : c ≤ 9223372036854775807) (hR : Rd w w.heap.size A l) :
    Calls Try.prog 25 #[.slice A l.length c] w (RetL w (sel (goodB l) (firsts (backF l) l.length)) (goodB l)) := by
  have K := Lib.hid (pgGood_any A c l w hn hcap hc2 hR)
  by_cases hg : Good l
  · have hgt := goodB_true hg
    rw [hgt] at K ⊢
    have K2 := Lib.hid (fun W (hb : Below w.heap.size w W) => pgBack_any A c l W (good_pos hg) hg.few.2 (rd_more (rd_below hR hb (Nat.le_refl _)) hb.size))
    clear hgt hg hR
    go_enter Try.func25, Try.ntmps25
    go_wp2_with fail
    refine K.out.mono ?_; rintro e w1 ⟨rfl, hb1⟩
    go_wp2_with fail
    refine (K2.out w1 hb1).mono ?_; rintro e w2 ⟨A2, c2, rfl, q1, q2, hb2, q3⟩
    go_wp2_with fail
    go_ret2
    exact retL_of_P hb1 q1 q2 hb2 q3
  · have hgf := goodB_false hg
    rw [hgf] at K ⊢
    clear hgf hg hR
    go_enter Try.func25, Try.ntmps25
    go_wp2_with fail
    refine K.out.mono ?_; rintro e w1 ⟨rfl, hb1⟩
    go_wp2_with fail
    go_ret2
    exact retL_nil hb1
theorem implBackPolygon_any (A : Option Addr) (c : Nat) (l : List (Int × Int)) (w : World) (hn : l.length ≤ 1048576) (hR : Rd w w.heap.size A l) :
    Calls Try.prog 26 #[.slice A l.length c] w (RetL w (sel (goodB l) (firsts (backF l) l.length)) (goodB l)) := by
  have K := Lib.hid (implIsPolygon_any A c l w hn hR)
  by_cases hg : Good l
  · have hgt := goodB_true hg
    rw [hgt] at K ⊢
    have K2 := Lib.hid (fun W (hb : Below w.heap.size w W) => (show Calls Try.prog 51 #[.slice A l.length c, .int .i64 0, .int .i64 (-1)] W (RetP W (firsts (backF l) l.length)) from by
      rw [← backF_mod]
      exact tellFrom_any A c l 0 (-1) (fun i => (l.length - i) % l.length) W (good_pos hg) hg.few.2 (rd_more (rd_below hR hb (Nat.le_refl _)) hb.size) (good_pos hg) (Or.inr rfl)
        (fun i hi => by rw [Int.natCast_emod]; congr 1; omega)))
    clear hgt hg hR
    go_enter Try.func26, Try.ntmps26
    go_wp2_with fail
    refine K.out.mono ?_; rintro e w1 ⟨rfl, hb1⟩
    go_wp2_with fail
    refine (K2.out w1 hb1).mono ?_; rintro e w2 ⟨A2, c2, rfl, q1, q2, hb2, q3⟩
    go_wp2_with fail
    go_ret2
    exact retL_of_P hb1 q1 q2 hb2 q3
  · have hgf := goodB_false hg
    rw [hgf] at K ⊢
    clear hgf hg hR
    go_enter Try.func26, Try.ntmps26
    go_wp2_with fail
    refine K.out.mono ?_; rintro e w1 ⟨rfl, hb1⟩
    go_wp2_with fail
    go_ret2
    exact retL_nil hb1
end Go.Proofs.Ytjkfdcjfoliboaa
