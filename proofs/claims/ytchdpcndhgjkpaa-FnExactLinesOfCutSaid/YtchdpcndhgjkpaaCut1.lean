/- contracts: TrianglesOfCut and LinesOfCut, on both sides -/
import Derived.Test.YtchdpcndhgjkpaaSei
import Derived.Test.YtchdpcndhgjkpaaQg
import Derived.Test.YtchdpcndhgjkpaaSa
import Derived.Test.YtchdpcndhgjkpaaSb
import Derived.Test.YtchdpcndhgjkpaaSj
namespace Go.Proofs.Ytchdpcndhgjkpaa
open Go.ChangeShapes Go.WideShapes Go.ChangeAt Go.RowKit Go.Joins
set_option linter.unusedVariables false
set_option linter.unusedSimpArgs false
set_option maxRecDepth 4000
set_option maxHeartbeats 1000000
/-- a polygon with a small area -/
noncomputable def cutB (l : List (Int × Int)) : Bool := goodB l && decide (((areaN l).natAbs : Int) ≤ 10)
theorem cut_bad {l : List (Int × Int)} (h : ¬ Good l) : cutB l = false := by unfold cutB; rw [goodB_false h]; rfl
theorem cut_good {l : List (Int × Int)} (h : Good l) : cutB l = decide (((areaN l).natAbs : Int) ≤ 10) := by unfold cutB; rw [goodB_true h]; rfl
theorem cuGood_any (A : Option Addr) (c : Nat) (l : List (Int × Int)) (w : World) (hn : l.length ≤ 1048576) (hcap : l.length ≤ c) (hc2 : c ≤ 9223372036854775807) (hR : Rd w w.heap.size A l) :
    Calls Try.prog 33 #[.slice A l.length c] w fun e w' => e = .returned (.bool (cutB l)) ∧ Below w.heap.size w w' := by
  have K := Lib.hid (pgGood_any A c l w hn hcap hc2 hR)
  by_cases hg : Good l
  · have hgt := goodB_true hg
    rw [hgt] at K
    rw [cut_good hg]
    have K2 := Lib.hid (fun W (hb : Below w.heap.size w W) => pgArea_any A c l W hg.few.1 hg.few.2 hg.pegs (rd_more (rd_below hR hb (Nat.le_refl _)) hb.size))
    obtain ⟨a1, a2⟩ := area_bd hg
    have K3 := Lib.hid (fun W => l1Abs_any (areaN l) W (by omega) (by omega))
    generalize ((areaN l).natAbs : Int) = m at *
    generalize areaN l = v at *
    clear hgt hg hR a1 a2
    go_enter Try.func33, Try.ntmps33
    go_wp2_with fail
    refine K.out.mono ?_; rintro e w1 ⟨rfl, hb1⟩
    go_wp2_with fail
    refine (K2.out w1 hb1).mono ?_; rintro e w2 ⟨rfl, hb2⟩
    have B2 := hb1.trans (hb2.mono hb1.size)
    go_wp2_with fail
    refine (K3.out _).mono ?_; rintro e _ ⟨rfl, rfl⟩
    go_wp2_with fail
    go_ret
    exact ⟨rfl, B2⟩
  · have hgf := goodB_false hg
    rw [hgf] at K
    rw [cut_bad hg]
    clear hgf hg hR
    go_enter Try.func33, Try.ntmps33
    go_wp2_with fail
    refine K.out.mono ?_; rintro e w1 ⟨rfl, hb1⟩
    go_wp2_with fail
    go_ret
    exact ⟨rfl, hb1⟩
theorem specTrianglesOfCut_any (A : Option Addr) (c : Nat) (l : List (Int × Int)) (w : World) (hn : l.length ≤ 1048576) (hcap : l.length ≤ c) (hc2 : c ≤ 9223372036854775807) (hR : Rd w w.heap.size A l) :
    Calls Try.prog 11 #[.slice A l.length c] w fun e w' => e = .returned (.tuple #[.int .i64 (gi (cutB l) ((areaN l).natAbs : Int)), .bool (cutB l)]) ∧ Below w.heap.size w w' := by
  have K := Lib.hid (cuGood_any A c l w hn hcap hc2 hR)
  by_cases hc : cutB l = true
  · have hg : Good l := Classical.byContradiction fun h => by rw [cut_bad h] at hc; cases hc
    rw [hc] at K ⊢
    rw [gi_true]
    have K2 := Lib.hid (fun W (hb : Below w.heap.size w W) => pgArea_any A c l W hg.few.1 hg.few.2 hg.pegs (rd_more (rd_below hR hb (Nat.le_refl _)) hb.size))
    obtain ⟨a1, a2⟩ := area_bd hg
    have K3 := Lib.hid (fun W => l1Abs_any (areaN l) W (by omega) (by omega))
    generalize ((areaN l).natAbs : Int) = m at *
    generalize areaN l = v at *
    clear hg hR a1 a2 hc
    go_enter Try.func11, Try.ntmps11
    go_wp2_with fail
    refine K.out.mono ?_; rintro e w1 ⟨rfl, hb1⟩
    go_wp2_with fail
    refine (K2.out w1 hb1).mono ?_; rintro e w2 ⟨rfl, hb2⟩
    have B2 := hb1.trans (hb2.mono hb1.size)
    go_wp2_with fail
    refine (K3.out _).mono ?_; rintro e _ ⟨rfl, rfl⟩
    go_wp2_with fail
    go_ret2
    exact ⟨rfl, B2⟩
  · have hcf : cutB l = false := by simpa using hc
    rw [hcf] at K ⊢
    rw [gi_false]
    clear hc hcf hR
    go_enter Try.func11, Try.ntmps11
    go_wp2_with fail
    refine K.out.mono ?_; rintro e w1 ⟨rfl, hb1⟩
    go_wp2_with fail
    go_ret2
    exact ⟨rfl, hb1⟩
theorem implTrianglesOfCut_any (A : Option Addr) (c : Nat) (l : List (Int × Int)) (w : World) (hn : l.length ≤ 1048576) (hR : Rd w w.heap.size A l) :
    Calls Try.prog 13 #[.slice A l.length c] w fun e w' => e = .returned (.tuple #[.int .i64 (gi (cutB l) ((areaN l).natAbs : Int)), .bool (cutB l)]) ∧ Below w.heap.size w w' := by
  have K := Lib.hid (implTwiceArea_any A c l w hn hR)
  by_cases hg : Good l
  · have hgt := goodB_true hg
    rw [hgt, gi_true] at K
    rw [cut_good hg]
    obtain ⟨a1, a2⟩ := area_bd hg
    have K3 := Lib.hid (fun W => isOfSize_any (areaN l) 10 W (by omega) (by omega))
    generalize areaN l = v at *
    clear hgt hg hR
    by_cases hs : (v.natAbs : Int) ≤ 10
    · have e : (decide (-(10 : Int) ≤ v) && decide (v ≤ 10)) = true := by simp; omega
      rw [e] at K3
      rw [decide_eq_true hs, gi_true]
      clear e
      go_enter Try.func13, Try.ntmps13
      go_wp2_with fail
      refine K.out.mono ?_; rintro e w1 ⟨rfl, hb1⟩
      go_wp2_with fail
      refine (K3.out _).mono ?_; rintro e _ ⟨rfl, rfl⟩
      go_wp2_with fail
      all_goals
        go_ret2
        first | exact ⟨ret_tup (by omega), hb1⟩ | exact ⟨rfl, hb1⟩
    · have e : (decide (-(10 : Int) ≤ v) && decide (v ≤ 10)) = false := by simp; omega
      rw [e] at K3
      rw [decide_eq_false hs, gi_false]
      clear e
      go_enter Try.func13, Try.ntmps13
      go_wp2_with fail
      refine K.out.mono ?_; rintro e w1 ⟨rfl, hb1⟩
      go_wp2_with fail
      refine (K3.out _).mono ?_; rintro e _ ⟨rfl, rfl⟩
      go_wp2_with fail
      go_ret2
      exact ⟨rfl, hb1⟩
  · have hgf := goodB_false hg
    rw [hgf, gi_false] at K
    rw [cut_bad hg, gi_false]
    clear hgf hg hR
    go_enter Try.func13, Try.ntmps13
    go_wp2_with fail
    refine K.out.mono ?_; rintro e w1 ⟨rfl, hb1⟩
    go_wp2_with fail
    go_ret2
    exact ⟨rfl, hb1⟩
theorem specLinesOfCut_any (A : Option Addr) (c : Nat) (l : List (Int × Int)) (w : World) (hn : l.length ≤ 1048576) (hcap : l.length ≤ c) (hc2 : c ≤ 9223372036854775807) (hR : Rd w w.heap.size A l) :
    Calls Try.prog 15 #[.slice A l.length c] w fun e w' => e = .returned (.tuple #[.int .i64 (gi (cutB l) ((3 * ((areaN l).natAbs : Int) + onN l).tdiv 2)), .bool (cutB l)]) ∧ Below w.heap.size w w' := by
  have K := Lib.hid (cuGood_any A c l w hn hcap hc2 hR)
  by_cases hc : cutB l = true
  · have hg : Good l := Classical.byContradiction fun h => by rw [cut_bad h] at hc; cases hc
    rw [hc] at K ⊢
    rw [gi_true]
    have K2 := Lib.hid (fun W (hb : Below w.heap.size w W) => pgArea_any A c l W hg.few.1 hg.few.2 hg.pegs (rd_more (rd_below hR hb (Nat.le_refl _)) hb.size))
    have K4 := Lib.hid (fun W (hb : Below w.heap.size w W) => pgRound_any A c l W (by have := hg.few; omega) hg.few.2 hg.pegs (rd_more (rd_below hR hb (Nat.le_refl _)) hb.size))
    obtain ⟨a1, a2⟩ := area_bd hg
    obtain ⟨o1, o2⟩ := on_bd hg
    have K3 := Lib.hid (fun W => l1Abs_any (areaN l) W (by omega) (by omega))
    have nb : (0 : Int) ≤ ((areaN l).natAbs : Int) ∧ ((areaN l).natAbs : Int) ≤ 40000 := by omega
    obtain ⟨nb1, nb2⟩ := nb
    generalize ((areaN l).natAbs : Int) = m at *
    generalize areaN l = v at *
    generalize onN l = o at *
    clear hg hR hc
    have e1 : IntKind.i64.wrap (3 * m) = 3 * m := IntWalk.i64_in _ (by omega)
    have e2 : IntKind.i64.wrap (3 * m + o) = 3 * m + o := IntWalk.i64_in _ (by omega)
    go_enter Try.func15, Try.ntmps15
    go_wp2_with fail
    refine K.out.mono ?_; rintro e w1 ⟨rfl, hb1⟩
    go_wp2_with fail
    refine (K2.out w1 hb1).mono ?_; rintro e w2 ⟨rfl, hb2⟩
    have B2 := hb1.trans (hb2.mono hb1.size)
    go_wp2_with fail
    refine (K3.out _).mono ?_; rintro e _ ⟨rfl, rfl⟩
    go_wp2_with fail
    refine (K4.out w2 B2).mono ?_; rintro e w3 ⟨rfl, hb3⟩
    have B3 := B2.trans (hb3.mono B2.size)
    go_wp2_with fail
    go_ret2
    exact ⟨rfl, B3⟩
  · have hcf : cutB l = false := by simpa using hc
    rw [hcf] at K ⊢
    rw [gi_false]
    clear hc hcf hR
    go_enter Try.func15, Try.ntmps15
    go_wp2_with fail
    refine K.out.mono ?_; rintro e w1 ⟨rfl, hb1⟩
    go_wp2_with fail
    go_ret2
    exact ⟨rfl, hb1⟩
theorem implLinesOfCut_any (A : Option Addr) (c : Nat) (l : List (Int × Int)) (w : World) (hn : l.length ≤ 1048576) (hR : Rd w w.heap.size A l) :
    Calls Try.prog 16 #[.slice A l.length c] w fun e w' => e = .returned (.tuple #[.int .i64 (gi (cutB l) ((3 * ((areaN l).natAbs : Int) + onN l).tdiv 2)), .bool (cutB l)]) ∧ Below w.heap.size w w' := by
  have K := Lib.hid (implTrianglesOfCut_any A c l w hn hR)
  by_cases hc : cutB l = true
  · have hg : Good l := Classical.byContradiction fun h => by rw [cut_bad h] at hc; cases hc
    rw [hc, gi_true] at K
    rw [hc, gi_true]
    have K3 := Lib.hid (fun W (hb : Below w.heap.size w W) => sumPegsOn_any A c l W hg (rd_more (rd_below hR hb (Nat.le_refl _)) hb.size))
    obtain ⟨a1, a2⟩ := area_bd hg
    obtain ⟨o1, o2⟩ := on_bd hg
    have nb : (0 : Int) ≤ ((areaN l).natAbs : Int) ∧ ((areaN l).natAbs : Int) ≤ 40000 := by omega
    obtain ⟨nb1, nb2⟩ := nb
    generalize ((areaN l).natAbs : Int) = m at *
    generalize areaN l = v at *
    generalize onN l = o at *
    clear hg hR hc
    have e1 : IntKind.i64.wrap (3 * m) = 3 * m := IntWalk.i64_in _ (by omega)
    have e2 : IntKind.i64.wrap (3 * m + o) = 3 * m + o := IntWalk.i64_in _ (by omega)
    go_enter Try.func16, Try.ntmps16
    go_wp2_with fail
    refine K.out.mono ?_; rintro e w1 ⟨rfl, hb1⟩
    go_wp2_with fail
    refine (K3.out w1 hb1).mono ?_; rintro e w2 ⟨rfl, hb2⟩
    have B2 := hb1.trans (hb2.mono hb1.size)
    go_wp2_with fail
    go_ret2
    exact ⟨rfl, B2⟩
  · have hcf : cutB l = false := by simpa using hc
    rw [hcf, gi_false] at K
    rw [hcf, gi_false]
    clear hc hcf hR
    go_enter Try.func16, Try.ntmps16
    go_wp2_with fail
    refine K.out.mono ?_; rintro e w1 ⟨rfl, hb1⟩
    go_wp2_with fail
    go_ret2
    exact ⟨rfl, hb1⟩
end Go.Proofs.Ytchdpcndhgjkpaa
