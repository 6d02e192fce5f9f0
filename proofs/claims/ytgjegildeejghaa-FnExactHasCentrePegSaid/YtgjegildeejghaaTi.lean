/- contracts: HasCentrePeg, on both sides -/
import Derived.Test.YtgjegildeejghaaTs
import Derived.Test.YtgjegildeejghaaTh
import Derived.Test.YtgjegildeejghaaTd
namespace Go.Proofs.Ytgjegildeejghaa
open Go.ChangeShapes Go.WideShapes Go.ChangeAt Go.RowKit Go.Joins
set_option linter.unusedVariables false
set_option linter.unusedSimpArgs false
set_option maxRecDepth 4000
theorem c_bd {l : List (Int × Int)} {a1 a2 b1 b2 c1 c2 : Int} (h : Tri l a1 a2 b1 b2 c1 c2) : (-120 ≤ cX l ∧ cX l ≤ 120) ∧ (-120 ≤ cY l ∧ cY l ≤ 120) := by
  have := tri_bd h
  rw [tri_cX h, tri_cY h]
  omega
theorem specHasCentrePeg_any (A : Option Addr) (c : Nat) (l : List (Int × Int)) (w : World) (hn : l.length ≤ 1048576) (hcap : l.length ≤ c) (hc2 : c ≤ 9223372036854775807) (hR : Rd w w.heap.size A l) :
    Calls Try.prog 37 #[.slice A l.length c] w fun e w' => e = .returned (.tuple #[.bool (bsel (tB l) (decide ((cX l).tmod 3 = 0) && decide ((cY l).tmod 3 = 0))), .bool (tB l)]) ∧ Below w.heap.size w w' := by
  have K := Lib.hid (specThriceCentre_any A c l w hn hcap hc2 hR)
  by_cases ht : tB l = true
  · obtain ⟨a1, a2, b1, b2, c1, c2, htr⟩ := tB_true ht
    obtain ⟨⟨u1, u2⟩, ⟨u3, u4⟩⟩ := c_bd htr
    rw [ht, isel_t, isel_t] at K
    rw [ht, bsel_t]
    generalize cX l = x at *
    generalize cY l = y at *
    clear ht htr hR
    by_cases h1 : x.tmod 3 = 0
    · by_cases h2 : y.tmod 3 = 0
      · go_enter Try.func37, Try.ntmps37
        go_wp2_with fail
        refine K.out.mono ?_; rintro e w1 ⟨rfl, hb1⟩
        go_wp2_with fail
        go_ret2
        exact ⟨by simp [h1, h2], hb1⟩
      · have h2b : (y.tmod 3 == 0) = false := by simpa using h2
        go_enter Try.func37, Try.ntmps37
        go_wp2_with fail
        refine K.out.mono ?_; rintro e w1 ⟨rfl, hb1⟩
        go_wp2_with fail
        go_ret2
        exact ⟨by simp [h1, h2], hb1⟩
    · have h1b : (x.tmod 3 == 0) = false := by simpa using h1
      go_enter Try.func37, Try.ntmps37
      go_wp2_with fail
      refine K.out.mono ?_; rintro e w1 ⟨rfl, hb1⟩
      go_wp2_with fail
      go_ret2
      exact ⟨by simp [h1], hb1⟩
  · have htf : tB l = false := by simpa using ht
    rw [htf, isel_f, isel_f] at K
    rw [htf, bsel_f]
    clear ht htf hR
    go_enter Try.func37, Try.ntmps37
    go_wp2_with fail
    refine K.out.mono ?_; rintro e w1 ⟨rfl, hb1⟩
    go_wp2_with fail
    go_ret2
    exact ⟨by simp, hb1⟩
theorem implHasCentrePeg_any (A : Option Addr) (c : Nat) (l : List (Int × Int)) (w : World) (hn : l.length ≤ 1048576) (hR : Rd w w.heap.size A l) :
    Calls Try.prog 38 #[.slice A l.length c] w fun e w' => e = .returned (.tuple #[.bool (bsel (tB l) (decide ((cX l).tmod 3 = 0) && decide ((cY l).tmod 3 = 0))), .bool (tB l)]) ∧ Below w.heap.size w w' := by
  by_cases ht : tB l = true
  · obtain ⟨a1, a2, b1, b2, c1, c2, htr⟩ := tB_true ht
    have K := Lib.hid (threeOf_t A c l a1 a2 b1 b2 c1 c2 w hR htr)
    rw [ht, bsel_t, tri_cX htr, tri_cY htr]
    have hbd := tri_bd htr
    have K3 := Lib.hid (fun W => three_sum_any a1 a2 b1 b2 c1 c2 W (by unfold Mid; omega) (by unfold Mid; omega) (by unfold Mid; omega) (by unfold Mid; omega))
    have K4 := Lib.hid (fun W => dividedBy_any (a1 + b1 + c1) (a2 + b2 + c2) 3 W (by unfold Mid; omega) (by unfold Mid; omega) (by omega))
    clear ht htr hR hbd
    generalize a1 + b1 + c1 = s1 at *
    generalize a2 + b2 + c2 = s2 at *
    generalize (decide (s1.tmod 3 = 0) && decide (s2.tmod 3 = 0)) = r at *
    generalize s1.tdiv 3 = q1 at *
    generalize s2.tdiv 3 = q2 at *
    go_enter Try.func38, Try.ntmps38
    go_wp2_with fail
    refine K.out.mono ?_; rintro e w1 ⟨rfl, hb1⟩
    have BA := Below.alloc hb1 hb1.size (.cells #[.int .i64 a1, .int .i64 a2, .int .i64 b1, .int .i64 b2, .int .i64 c1, .int .i64 c2] 67)
    go_wp2_with fail
    refine (K3.out _).mono ?_; rintro e w2 ⟨rfl, hb2⟩
    have B2 := BA.trans (hb2.mono BA.size)
    go_wp2_with fail
    refine (K4.out _).mono ?_; rintro e w3 ⟨rfl, hb3⟩
    have B3 := B2.trans (hb3.mono B2.size)
    have zz := B3.size
    go_wp2_with fail
    go_ret2
    refine ⟨rfl, ?_⟩
    repeat (first | with_reducible assumption | with_reducible exact Below.refl _ _ | with_reducible apply Below.drew | ((with_reducible refine Below.setCell ?_ ?_ _); rotate_left; (first | exact Nat.le_refl _ | omega | (simp <;> omega))) | ((with_reducible refine Below.alloc ?_ ?_ _); rotate_left; (first | omega | (simp <;> omega))))
  · have K := Lib.hid (threeOf_f A c l w hn hR ht)
    have htf : tB l = false := by simpa using ht
    rw [htf, bsel_f]
    clear ht htf hR
    go_enter Try.func38, Try.ntmps38
    go_wp2_with fail
    refine K.out.mono ?_; rintro e w1 ⟨rfl, hb1⟩
    have BA := Below.alloc hb1 hb1.size (.cells #[.int .i64 0, .int .i64 0, .int .i64 0, .int .i64 0, .int .i64 0, .int .i64 0] 67)
    go_wp2_with fail
    go_ret2
    exact ⟨by simp, BA⟩
end Go.Proofs.Ytgjegildeejghaa
