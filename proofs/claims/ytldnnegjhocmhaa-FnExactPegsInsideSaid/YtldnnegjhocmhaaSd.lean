/- contracts: TwiceArea, PegsOn and PegsInside, on both sides -/
import Derived.Test.YtldnnegjhocmhaaSb
import Derived.Test.YtldnnegjhocmhaaSc
import Derived.Test.YtldnnegjhocmhaaX
namespace Go.Proofs.Ytldnnegjhocmhaa
open Go.ChangeShapes Go.WideShapes Go.ChangeAt Go.RowKit Go.Joins
set_option linter.unusedVariables false
set_option linter.unusedSimpArgs false
def gi (b : Bool) (x : Int) : Int := if b = true then x else 0
theorem ret_tup {a b : Int} {c : Bool} (h : a = b) : Ending.returned (.tuple #[.int .i64 a, .bool c]) = .returned (.tuple #[.int .i64 b, .bool c]) := by rw [h]
theorem gi_true (x : Int) : gi true x = x := rfl
theorem gi_false (x : Int) : gi false x = 0 := rfl
theorem good_pos {l : List (Int × Int)} (h : Good l) : 0 < l.length := by have := h.few.1; omega
theorem sumTwiceArea_any (A : Option Addr) (c : Nat) (l : List (Int × Int)) (w : World) (hg : Good l) (hR : Rd w w.heap.size A l) :
    Calls Try.prog 33 #[.slice A l.length c, .func (.func 34) #[] #[]] w fun e w' => e = .returned (.int .i64 (areaN l)) ∧ Below w.heap.size w w' :=
  sumAround_any A c l w 34 (fun i => cr (vx l i) (vx l (i + 1))) (good_pos hg) hg.few.2 hR Try.call34
    (fun i _ => by have := cr_bd (vx_pg hg.pegs (good_pos hg) i) (vx_pg hg.pegs (good_pos hg) (i + 1)); omega)
    (fun i _ W => areaPart_any _ _ _ _ W (vx_pg hg.pegs (good_pos hg) i) (vx_pg hg.pegs (good_pos hg) (i + 1)))
theorem sumPegsOn_any (A : Option Addr) (c : Nat) (l : List (Int × Int)) (w : World) (hg : Good l) (hR : Rd w w.heap.size A l) :
    Calls Try.prog 33 #[.slice A l.length c, .func (.func 37) #[] #[]] w fun e w' => e = .returned (.int .i64 (onN l)) ∧ Below w.heap.size w w' :=
  sumAround_any A c l w 37 (fun i => stepN (vx l i).1 (vx l i).2 (vx l (i + 1)).1 (vx l (i + 1)).2) (good_pos hg) hg.few.2 hR Try.call37
    (fun i _ => by have := stepN_bd (a1 := (vx l i).1) (a2 := (vx l i).2) (b1 := (vx l (i + 1)).1) (b2 := (vx l (i + 1)).2) (vx_pg hg.pegs (good_pos hg) i) (vx_pg hg.pegs (good_pos hg) (i + 1)); omega)
    (fun i _ W => steps_any _ _ _ _ W (vx_pg hg.pegs (good_pos hg) i) (vx_pg hg.pegs (good_pos hg) (i + 1)))
theorem specTwiceArea_any (A : Option Addr) (c : Nat) (l : List (Int × Int)) (w : World) (hn : l.length ≤ 1048576) (hcap : l.length ≤ c) (hc2 : c ≤ 9223372036854775807) (hR : Rd w w.heap.size A l) :
    Calls Try.prog 11 #[.slice A l.length c] w fun e w' => e = .returned (.tuple #[.int .i64 (gi (goodB l) (areaN l)), .bool (goodB l)]) ∧ Below w.heap.size w w' := by
  have K := Lib.hid (pgGood_any A c l w hn hcap hc2 hR)
  by_cases hg : Good l
  · have hgt := goodB_true hg
    rw [hgt] at K ⊢
    have K2 := Lib.hid (fun W (hb : Below w.heap.size w W) => pgArea_any A c l W hg.few.1 hg.few.2 hg.pegs (rd_more (rd_below hR hb (Nat.le_refl _)) hb.size))
    rw [gi_true]
    generalize areaN l = v at *
    clear hgt hg hR
    go_enter Try.func11, Try.ntmps11
    go_wp2_with fail
    refine K.out.mono ?_; rintro e w1 ⟨rfl, hb1⟩
    go_wp2_with fail
    refine (K2.out w1 hb1).mono ?_; rintro e w2 ⟨rfl, hb2⟩
    have B2 := hb1.trans (hb2.mono hb1.size)
    go_wp2_with fail
    go_ret2
    exact ⟨rfl, B2⟩
  · have hgf := goodB_false hg
    rw [hgf] at K ⊢
    rw [gi_false]
    clear hgf hg hR
    go_enter Try.func11, Try.ntmps11
    go_wp2_with fail
    refine K.out.mono ?_; rintro e w1 ⟨rfl, hb1⟩
    go_wp2_with fail
    go_ret2
    exact ⟨rfl, hb1⟩
theorem implTwiceArea_any (A : Option Addr) (c : Nat) (l : List (Int × Int)) (w : World) (hn : l.length ≤ 1048576) (hR : Rd w w.heap.size A l) :
    Calls Try.prog 13 #[.slice A l.length c] w fun e w' => e = .returned (.tuple #[.int .i64 (gi (goodB l) (areaN l)), .bool (goodB l)]) ∧ Below w.heap.size w w' := by
  have K := Lib.hid (implIsPolygon_any A c l w hn hR)
  by_cases hg : Good l
  · have hgt := goodB_true hg
    rw [hgt] at K ⊢
    have K2 := Lib.hid (fun W (hb : Below w.heap.size w W) => sumTwiceArea_any A c l W hg (rd_more (rd_below hR hb (Nat.le_refl _)) hb.size))
    rw [gi_true]
    generalize areaN l = v at *
    clear hgt hg hR
    go_enter Try.func13, Try.ntmps13
    go_wp2_with fail
    refine K.out.mono ?_; rintro e w1 ⟨rfl, hb1⟩
    go_wp2_with fail
    refine (K2.out w1 hb1).mono ?_; rintro e w2 ⟨rfl, hb2⟩
    have B2 := hb1.trans (hb2.mono hb1.size)
    go_wp2_with fail
    go_ret2
    exact ⟨rfl, B2⟩
  · have hgf := goodB_false hg
    rw [hgf] at K ⊢
    rw [gi_false]
    clear hgf hg hR
    go_enter Try.func13, Try.ntmps13
    go_wp2_with fail
    refine K.out.mono ?_; rintro e w1 ⟨rfl, hb1⟩
    go_wp2_with fail
    go_ret2
    exact ⟨rfl, hb1⟩
theorem specPegsOn_any (A : Option Addr) (c : Nat) (l : List (Int × Int)) (w : World) (hn : l.length ≤ 1048576) (hcap : l.length ≤ c) (hc2 : c ≤ 9223372036854775807) (hR : Rd w w.heap.size A l) :
    Calls Try.prog 15 #[.slice A l.length c] w fun e w' => e = .returned (.tuple #[.int .i64 (gi (goodB l) (onN l)), .bool (goodB l)]) ∧ Below w.heap.size w w' := by
  have K := Lib.hid (pgGood_any A c l w hn hcap hc2 hR)
  by_cases hg : Good l
  · have hgt := goodB_true hg
    rw [hgt] at K ⊢
    have K2 := Lib.hid (fun W (hb : Below w.heap.size w W) => pgRound_any A c l W (by have := hg.few; omega) hg.few.2 hg.pegs (rd_more (rd_below hR hb (Nat.le_refl _)) hb.size))
    rw [gi_true]
    generalize onN l = v at *
    clear hgt hg hR
    go_enter Try.func15, Try.ntmps15
    go_wp2_with fail
    refine K.out.mono ?_; rintro e w1 ⟨rfl, hb1⟩
    go_wp2_with fail
    refine (K2.out w1 hb1).mono ?_; rintro e w2 ⟨rfl, hb2⟩
    have B2 := hb1.trans (hb2.mono hb1.size)
    go_wp2_with fail
    go_ret2
    exact ⟨rfl, B2⟩
  · have hgf := goodB_false hg
    rw [hgf] at K ⊢
    rw [gi_false]
    clear hgf hg hR
    go_enter Try.func15, Try.ntmps15
    go_wp2_with fail
    refine K.out.mono ?_; rintro e w1 ⟨rfl, hb1⟩
    go_wp2_with fail
    go_ret2
    exact ⟨rfl, hb1⟩
theorem implPegsOn_any (A : Option Addr) (c : Nat) (l : List (Int × Int)) (w : World) (hn : l.length ≤ 1048576) (hR : Rd w w.heap.size A l) :
    Calls Try.prog 16 #[.slice A l.length c] w fun e w' => e = .returned (.tuple #[.int .i64 (gi (goodB l) (onN l)), .bool (goodB l)]) ∧ Below w.heap.size w w' := by
  have K := Lib.hid (implIsPolygon_any A c l w hn hR)
  by_cases hg : Good l
  · have hgt := goodB_true hg
    rw [hgt] at K ⊢
    have K2 := Lib.hid (fun W (hb : Below w.heap.size w W) => sumPegsOn_any A c l W hg (rd_more (rd_below hR hb (Nat.le_refl _)) hb.size))
    rw [gi_true]
    generalize onN l = v at *
    clear hgt hg hR
    go_enter Try.func16, Try.ntmps16
    go_wp2_with fail
    refine K.out.mono ?_; rintro e w1 ⟨rfl, hb1⟩
    go_wp2_with fail
    refine (K2.out w1 hb1).mono ?_; rintro e w2 ⟨rfl, hb2⟩
    have B2 := hb1.trans (hb2.mono hb1.size)
    go_wp2_with fail
    go_ret2
    exact ⟨rfl, B2⟩
  · have hgf := goodB_false hg
    rw [hgf] at K ⊢
    rw [gi_false]
    clear hgf hg hR
    go_enter Try.func16, Try.ntmps16
    go_wp2_with fail
    refine K.out.mono ?_; rintro e w1 ⟨rfl, hb1⟩
    go_wp2_with fail
    go_ret2
    exact ⟨rfl, hb1⟩
theorem area_bd {l : List (Int × Int)} (hg : Good l) : -40000 ≤ areaN l ∧ areaN l ≤ 40000 := by
  have := sh_bd hg.pegs (good_pos hg) l.length
  have h1 := hg.few
  unfold areaN
  omega
theorem on_bd {l : List (Int × Int)} (hg : Good l) : -1600 ≤ onN l ∧ onN l ≤ 1600 := by
  have := rn_bd hg.pegs (good_pos hg) l.length
  have h1 := hg.few
  unfold onN
  omega
theorem pgInside_any (A : Option Addr) (c : Nat) (l : List (Int × Int)) (w : World) (hg : Good l) (hR : Rd w w.heap.size A l) :
    Calls Try.prog 38 #[.slice A l.length c] w fun e w' => e = .returned (.int .i64 (insN l)) ∧ Below w.heap.size w w' := by
  have K1 := Lib.hid (pgArea_any A c l w hg.few.1 hg.few.2 hg.pegs hR)
  have K2 := Lib.hid (fun W (hb : Below w.heap.size w W) => pgRound_any A c l W (by have := hg.few; omega) hg.few.2 hg.pegs (rd_more (rd_below hR hb (Nat.le_refl _)) hb.size))
  obtain ⟨a1, a2⟩ := area_bd hg
  obtain ⟨o1, o2⟩ := on_bd hg
  have K3 := Lib.hid (fun W => l1Abs_any (areaN l) W (by omega) (by omega))
  unfold insN
  have nb : (0 : Int) ≤ ((areaN l).natAbs : Int) ∧ ((areaN l).natAbs : Int) ≤ 40000 := by omega
  obtain ⟨nb1, nb2⟩ := nb
  generalize ((areaN l).natAbs : Int) = m at *
  generalize areaN l = v at *
  generalize onN l = o at *
  clear hg hR
  go_enter Try.func38, Try.ntmps38
  go_wp2_with fail
  refine K1.out.mono ?_; rintro e w1 ⟨rfl, hb1⟩
  go_wp2_with fail
  refine (K3.out _).mono ?_; rintro e _ ⟨rfl, rfl⟩
  go_wp2_with fail
  refine (K2.out w1 hb1).mono ?_; rintro e w2 ⟨rfl, hb2⟩
  have B2 := hb1.trans (hb2.mono hb1.size)
  go_wp2_with fail
  go_ret
  exact ⟨rfl, B2⟩
theorem specPegsInside_any (A : Option Addr) (c : Nat) (l : List (Int × Int)) (w : World) (hn : l.length ≤ 1048576) (hcap : l.length ≤ c) (hc2 : c ≤ 9223372036854775807) (hR : Rd w w.heap.size A l) :
    Calls Try.prog 17 #[.slice A l.length c] w fun e w' => e = .returned (.tuple #[.int .i64 (gi (goodB l) (insN l)), .bool (goodB l)]) ∧ Below w.heap.size w w' := by
  have K := Lib.hid (pgGood_any A c l w hn hcap hc2 hR)
  by_cases hg : Good l
  · have hgt := goodB_true hg
    rw [hgt] at K ⊢
    have K2 := Lib.hid (fun W (hb : Below w.heap.size w W) => pgInside_any A c l W hg (rd_more (rd_below hR hb (Nat.le_refl _)) hb.size))
    rw [gi_true]
    generalize insN l = v at *
    clear hgt hg hR
    go_enter Try.func17, Try.ntmps17
    go_wp2_with fail
    refine K.out.mono ?_; rintro e w1 ⟨rfl, hb1⟩
    go_wp2_with fail
    refine (K2.out w1 hb1).mono ?_; rintro e w2 ⟨rfl, hb2⟩
    have B2 := hb1.trans (hb2.mono hb1.size)
    go_wp2_with fail
    go_ret2
    exact ⟨rfl, B2⟩
  · have hgf := goodB_false hg
    rw [hgf] at K ⊢
    rw [gi_false]
    clear hgf hg hR
    go_enter Try.func17, Try.ntmps17
    go_wp2_with fail
    refine K.out.mono ?_; rintro e w1 ⟨rfl, hb1⟩
    go_wp2_with fail
    go_ret2
    exact ⟨rfl, hb1⟩
theorem implPegsInside_any (A : Option Addr) (c : Nat) (l : List (Int × Int)) (w : World) (hn : l.length ≤ 1048576) (hR : Rd w w.heap.size A l) :
    Calls Try.prog 18 #[.slice A l.length c] w fun e w' => e = .returned (.tuple #[.int .i64 (gi (goodB l) (insN l)), .bool (goodB l)]) ∧ Below w.heap.size w w' := by
  have K := Lib.hid (implIsPolygon_any A c l w hn hR)
  by_cases hg : Good l
  · have hgt := goodB_true hg
    rw [hgt] at K ⊢
    have K2 := Lib.hid (fun W (hb : Below w.heap.size w W) => sumTwiceArea_any A c l W hg (rd_more (rd_below hR hb (Nat.le_refl _)) hb.size))
    have K3 := Lib.hid (fun W (hb : Below w.heap.size w W) => sumPegsOn_any A c l W hg (rd_more (rd_below hR hb (Nat.le_refl _)) hb.size))
    obtain ⟨a1, a2⟩ := area_bd hg
    obtain ⟨o1, o2⟩ := on_bd hg
    rw [gi_true]
    unfold insN
    generalize areaN l = v at *
    generalize onN l = o at *
    clear hgt hg hR
    go_enter Try.func18, Try.ntmps18
    go_wp2_with fail
    refine K.out.mono ?_; rintro e w1 ⟨rfl, hb1⟩
    go_wp2_with fail
    refine (K2.out w1 hb1).mono ?_; rintro e w2 ⟨rfl, hb2⟩
    have B2 := hb1.trans (hb2.mono hb1.size)
    go_wp2_with fail
    refine (K3.out w2 B2).mono ?_; rintro e w3 ⟨rfl, hb3⟩
    have B3 := B2.trans (hb3.mono B2.size)
    go_wp2_with fail
    all_goals
      go_ret2
      first | exact ⟨ret_tup (by rw [show (v.natAbs : Int) = -v by omega]), B3⟩ | exact ⟨ret_tup (by rw [show (v.natAbs : Int) = v by omega]), B3⟩
  · have hgf := goodB_false hg
    rw [hgf] at K ⊢
    rw [gi_false]
    clear hgf hg hR
    go_enter Try.func18, Try.ntmps18
    go_wp2_with fail
    refine K.out.mono ?_; rintro e w1 ⟨rfl, hb1⟩
    go_wp2_with fail
    go_ret2
    exact ⟨rfl, hb1⟩
end Go.Proofs.Ytldnnegjhocmhaa
