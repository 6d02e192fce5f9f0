/- contracts: desks, on both sides -/
import Derived.Test.YtieimijkkjhegaaX
import Derived.Test.YtieimijkkjhegaaQg
import Derived.Test.YtieimijkkjhegaaSax
import Derived.OneCell
namespace Go.Proofs.Ytieimijkkjhegaa
open Go.ChangeShapes Go.WideShapes Go.ChangeAt Go.RowKit Go.Joins
set_option linter.unusedVariables false
set_option linter.unusedSimpArgs false
set_option maxRecDepth 4000
theorem coGood_any (A1 A2 : Option Addr) (c1 c2 : Nat) (l1 l2 : List (Int × Int)) (w : World) (hn1 : l1.length ≤ 1048576) (hn2 : l2.length ≤ 1048576) (hc1 : l1.length ≤ c1) (hm1 : c1 ≤ 9223372036854775807) (hc2 : l2.length ≤ c2) (hm2 : c2 ≤ 9223372036854775807) (hR1 : Rd w w.heap.size A1 l1) (hR2 : Rd w w.heap.size A2 l2) :
    Calls Try.prog 86 #[.agg #[.slice A1 l1.length c1, .slice A2 l2.length c2]] w fun e w' => e = .returned (.bool (goodB l1 && goodB l2)) ∧ Below w.heap.size w w' := by
  have K1 := Lib.hid (fun W (hb : Below w.heap.size w W) => pgGood_any A1 c1 l1 W hn1 hc1 hm1 (rd_more (rd_below hR1 hb (Nat.le_refl _)) hb.size))
  have K2 := Lib.hid (fun W (hb : Below w.heap.size w W) => pgGood_any A2 c2 l2 W hn2 hc2 hm2 (rd_more (rd_below hR2 hb (Nat.le_refl _)) hb.size))
  have HB := Lib.hid (Below.alloc (Below.refl w.heap.size w) (Nat.le_refl _) (.cells #[.slice A1 l1.length c1, .slice A2 l2.length c2] 53))
  clear hR1 hR2
  generalize goodB l1 = g1 at *
  generalize goodB l2 = g2 at *
  generalize l1.length = n1 at *
  generalize l2.length = n2 at *
  cases g1
  · go_enter Try.func86, Try.ntmps86
    go_wp2_with fail
    refine (K1.out _ HB.out).mono ?_; rintro e w1 ⟨rfl, hb1⟩
    go_wp2_with fail
    go_ret
    exact ⟨rfl, HB.out.trans (hb1.mono HB.out.size)⟩
  · go_enter Try.func86, Try.ntmps86
    go_wp2_with fail
    refine (K1.out _ HB.out).mono ?_; rintro e w1 ⟨rfl, hb1⟩
    have B1 := HB.out.trans (hb1.mono HB.out.size)
    have y1 : w1.cell? ⟨w.heap.size, 1, none⟩ = some (.slice A2 n2 c2) := ((bcell hb1).1 w.heap.size 1 (by simp)).trans (by go_simp)
    have z1 : w.heap.size < w1.heap.size := by have := hb1.size; simp at this; omega
    clear hb1
    go_wp2_with fail
    refine (K2.out _ B1).mono ?_; rintro e w2 ⟨rfl, hb2⟩
    go_wp2_with fail
    go_ret
    exact ⟨rfl, B1.trans (hb2.mono B1.size)⟩
theorem specIsDesk_any (A1 A2 : Option Addr) (c1 c2 : Nat) (l1 l2 : List (Int × Int)) (w : World) (hn1 : l1.length ≤ 1048576) (hn2 : l2.length ≤ 1048576) (hc1 : l1.length ≤ c1) (hm1 : c1 ≤ 9223372036854775807) (hc2 : l2.length ≤ c2) (hm2 : c2 ≤ 9223372036854775807) (hR1 : Rd w w.heap.size A1 l1) (hR2 : Rd w w.heap.size A2 l2) :
    Calls Try.prog 37 #[.agg #[.slice A1 l1.length c1, .slice A2 l2.length c2]] w fun e w' => e = .returned (.bool (goodB l1 && goodB l2)) ∧ Below w.heap.size w w' := by
  have K := Lib.hid (fun W (hb : Below w.heap.size w W) => coGood_any A1 A2 c1 c2 l1 l2 W hn1 hn2 hc1 hm1 hc2 hm2 (rd_more (rd_below hR1 hb (Nat.le_refl _)) hb.size) (rd_more (rd_below hR2 hb (Nat.le_refl _)) hb.size))
  have HB := Lib.hid (Below.alloc (Below.refl w.heap.size w) (Nat.le_refl _) (.cells #[.slice A1 l1.length c1, .slice A2 l2.length c2] 53))
  clear hR1 hR2
  generalize (goodB l1 && goodB l2) = g1 at *
  generalize l1.length = n1 at *
  generalize l2.length = n2 at *
  go_enter Try.func37, Try.ntmps37
  go_wp2_with fail
  refine (K.out _ HB.out).mono ?_; rintro e w1 ⟨rfl, hb1⟩
  go_wp2_with fail
  go_ret
  exact ⟨rfl, HB.out.trans (hb1.mono HB.out.size)⟩
theorem implIsDesk_any (A1 A2 : Option Addr) (c1 c2 : Nat) (l1 l2 : List (Int × Int)) (w : World) (hn1 : l1.length ≤ 1048576) (hn2 : l2.length ≤ 1048576) (hR1 : Rd w w.heap.size A1 l1) (hR2 : Rd w w.heap.size A2 l2) :
    Calls Try.prog 39 #[.agg #[.slice A1 l1.length c1, .slice A2 l2.length c2]] w fun e w' => e = .returned (.bool (goodB l1 && goodB l2)) ∧ Below w.heap.size w w' := by
  have K1 := Lib.hid (fun W (hb : Below w.heap.size w W) => implIsPolygon_any A1 c1 l1 W hn1 (rd_more (rd_below hR1 hb (Nat.le_refl _)) hb.size))
  have K2 := Lib.hid (fun W (hb : Below w.heap.size w W) => implIsPolygon_any A2 c2 l2 W hn2 (rd_more (rd_below hR2 hb (Nat.le_refl _)) hb.size))
  have HB := Lib.hid (Below.alloc (Below.refl w.heap.size w) (Nat.le_refl _) (.cells #[.slice A1 l1.length c1, .slice A2 l2.length c2] 53))
  clear hR1 hR2
  generalize goodB l1 = g1 at *
  generalize goodB l2 = g2 at *
  generalize l1.length = n1 at *
  generalize l2.length = n2 at *
  cases g1
  · go_enter Try.func39, Try.ntmps39
    go_wp2_with fail
    refine (K1.out _ HB.out).mono ?_; rintro e w1 ⟨rfl, hb1⟩
    go_wp2_with fail
    go_ret
    exact ⟨rfl, HB.out.trans (hb1.mono HB.out.size)⟩
  · go_enter Try.func39, Try.ntmps39
    go_wp2_with fail
    refine (K1.out _ HB.out).mono ?_; rintro e w1 ⟨rfl, hb1⟩
    have B1 := HB.out.trans (hb1.mono HB.out.size)
    have y1 : w1.cell? ⟨w.heap.size, 1, none⟩ = some (.slice A2 n2 c2) := ((bcell hb1).1 w.heap.size 1 (by simp)).trans (by go_simp)
    have z1 : w.heap.size < w1.heap.size := by have := hb1.size; simp at this; omega
    clear hb1
    go_wp2_with fail
    refine (K2.out _ B1).mono ?_; rintro e w2 ⟨rfl, hb2⟩
    go_wp2_with fail
    go_ret
    exact ⟨rfl, B1.trans (hb2.mono B1.size)⟩
end Go.Proofs.Ytieimijkkjhegaa
