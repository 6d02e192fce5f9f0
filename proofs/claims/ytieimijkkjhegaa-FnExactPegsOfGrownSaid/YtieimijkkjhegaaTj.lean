/- contracts: PegsOfGrown, on both sides -/
import Derived.Test.YtieimijkkjhegaaSb
import Derived.Test.YtieimijkkjhegaaTe
import Derived.Test.YtieimijkkjhegaaSj
import Derived.Test.YtieimijkkjhegaaSp
import Derived.Test.YtieimijkkjhegaaTc
namespace Go.Proofs.Ytieimijkkjhegaa
open Go.ChangeShapes Go.WideShapes Go.ChangeAt Go.RowKit Go.Joins
set_option linter.unusedVariables false
set_option linter.unusedSimpArgs false
set_option maxRecDepth 4000
/-- is a number within bounds? -/
def inR (lo hi k : Int) : Bool := decide (lo ≤ k) && decide (k ≤ hi)
def gsel (b : Bool) (x : Int) : Int := if b = true then x else 0
theorem gsel_t (x : Int) : gsel true x = x := rfl
theorem gsel_f (x : Int) : gsel false x = 0 := rfl
/-- how many points a grown triangle has -/
def grownN (l : List (Int × Int)) (k : Int) : Int := (k * k * ((areaN l).natAbs : Int) + k * onN l + 2).tdiv 2
theorem l1In_r (n lo hi : Int) (w : World) : Calls Try.prog 56 #[.int .i64 n, .int .i64 lo, .int .i64 hi] w fun e w' => e = .returned (.bool (inR lo hi n)) ∧ w = w' := l1In_any n lo hi w
theorem grown_bd {k m o : Int} (h1 : 0 ≤ k) (h2 : k ≤ 20) (h3 : 0 ≤ m) (h4 : m ≤ 40000) (h5 : -1600 ≤ o) (h6 : o ≤ 1600) : (0 ≤ k * k ∧ k * k ≤ 400) ∧ (0 ≤ k * k * m ∧ k * k * m ≤ 16000000) ∧ (-32000 ≤ k * o ∧ k * o ≤ 32000) := by
  have a1 := mul_bd (x := k) (y := k) (m := 20) (n := 20) (by omega) (by omega) (by omega) (by omega)
  have a0 := Int.mul_nonneg h1 h1
  have a2 := mul_bd (x := k * k) (y := m) (m := 400) (n := 40000) (by omega) (by omega) (by omega) (by omega)
  have a3 := Int.mul_nonneg a0 h3
  have a4 := mul_bd (x := k) (y := o) (m := 20) (n := 1600) (by omega) (by omega) (by omega) (by omega)
  omega
set_option maxHeartbeats 1000000 in
theorem specPegsOfGrown_any (A : Option Addr) (c : Nat) (l : List (Int × Int)) (k : Int) (w : World) (hn : l.length ≤ 1048576) (hcap : l.length ≤ c) (hc2 : c ≤ 9223372036854775807) (hR : Rd w w.heap.size A l) :
    Calls Try.prog 16 #[.slice A l.length c, .int .i64 k] w fun e w' => e = .returned (.tuple #[.int .i64 (gsel (tB l && inR 0 20 k) (grownN l k)), .bool (tB l && inR 0 20 k)]) ∧ Below w.heap.size w w' := by
  have K := Lib.hid (trThree_any A c l w hn hcap hc2 hR)
  by_cases ht : tB l = true
  · obtain ⟨a1, a2, b1, b2, c1, c2, htr⟩ := tB_true ht
    have hg := htr.2
    rw [ht] at K ⊢
    rw [Bool.true_and]
    by_cases hk : inR 0 20 k = true
    · have KL := Lib.hid (fun W => l1In_r k 0 20 W)
      rw [hk] at KL ⊢
      rw [gsel_t]
      have K2 := Lib.hid (fun W (hb : Below w.heap.size w W) => pgArea_any A c l W hg.few.1 hg.few.2 hg.pegs (rd_more (rd_below hR hb (Nat.le_refl _)) hb.size))
      have K4 := Lib.hid (fun W (hb : Below w.heap.size w W) => pgRound_any A c l W (by have := hg.few; omega) hg.few.2 hg.pegs (rd_more (rd_below hR hb (Nat.le_refl _)) hb.size))
      obtain ⟨q1, q2⟩ := area_bd hg
      obtain ⟨o1, o2⟩ := on_bd hg
      have K3 := Lib.hid (fun W => l1Abs_any (areaN l) W (by omega) (by omega))
      unfold inR at hk
      simp only [Bool.and_eq_true, decide_eq_true_eq] at hk
      obtain ⟨⟨g1, g2⟩, ⟨g3, g4⟩, ⟨g5, g6⟩⟩ := grown_bd (k := k) (m := ((areaN l).natAbs : Int)) (o := onN l) hk.1 hk.2 (by omega) (by omega) o1 o2
      unfold grownN
      have nb : (0 : Int) ≤ ((areaN l).natAbs : Int) := by omega
      generalize ((areaN l).natAbs : Int) = m at *
      generalize areaN l = v at *
      generalize onN l = o at *
      clear ht hg htr hR hk
      go_enter Try.func16, Try.ntmps16
      go_wp2_with fail
      refine K.out.mono ?_; rintro e w1 ⟨rfl, hb1⟩
      go_wp2_with fail
      refine (KL.out _).mono ?_; rintro e _ ⟨rfl, rfl⟩
      go_wp2_with fail
      refine (K2.out w1 hb1).mono ?_; rintro e w2 ⟨rfl, hb2⟩
      have B2 := hb1.trans (hb2.mono hb1.size)
      go_wp2_with fail
      refine (K3.out _).mono ?_; rintro e _ ⟨rfl, rfl⟩
      go_wp2_with fail
      refine (K4.out w2 B2).mono ?_; rintro e w3 ⟨rfl, hb3⟩
      have B3 := B2.trans (hb3.mono B2.size)
      go_wp2_with fail
      go_ret2
      exact ⟨rfl, B3⟩
    · have hkf : inR 0 20 k = false := by simpa using hk
      have KL := Lib.hid (fun W => l1In_r k 0 20 W)
      rw [hkf] at KL ⊢
      rw [gsel_f]
      clear ht hg htr hR hk hkf
      go_enter Try.func16, Try.ntmps16
      go_wp2_with fail
      refine K.out.mono ?_; rintro e w1 ⟨rfl, hb1⟩
      go_wp2_with fail
      refine (KL.out _).mono ?_; rintro e _ ⟨rfl, rfl⟩
      go_wp2_with fail
      go_ret2
      exact ⟨rfl, hb1⟩
  · have htf : tB l = false := by simpa using ht
    rw [htf] at K ⊢
    rw [Bool.false_and, gsel_f]
    clear ht htf hR
    go_enter Try.func16, Try.ntmps16
    go_wp2_with fail
    refine K.out.mono ?_; rintro e w1 ⟨rfl, hb1⟩
    go_wp2_with fail
    go_ret2
    exact ⟨rfl, hb1⟩
set_option maxHeartbeats 1000000 in
theorem implPegsOfGrown_any (A : Option Addr) (c : Nat) (l : List (Int × Int)) (k : Int) (w : World) (hn : l.length ≤ 1048576) (hR : Rd w w.heap.size A l) :
    Calls Try.prog 18 #[.slice A l.length c, .int .i64 k] w fun e w' => e = .returned (.tuple #[.int .i64 (gsel (tB l && inR 0 20 k) (grownN l k)), .bool (tB l && inR 0 20 k)]) ∧ Below w.heap.size w w' := by
  by_cases ht : tB l = true
  · obtain ⟨a1, a2, b1, b2, c1, c2, htr⟩ := tB_true ht
    have K := Lib.hid (threeOf_t A c l a1 a2 b1 b2 c1 c2 w hR htr)
    rw [ht, Bool.true_and]
    by_cases hk : inR 0 20 k = true
    · rw [hk, gsel_t]
      have hg := htr.2
      have K4 := Lib.hid (fun W (hb : Below w.heap.size w W) => (show Calls Try.prog 62 #[.slice A l.length c] W fun e w' => e = .returned (.tuple #[.int .i64 (onN l), .bool true]) ∧ Below W.heap.size W w' from by
        have := implPegsOn_any A c l W hn (rd_more (rd_below hR hb (Nat.le_refl _)) hb.size)
        rw [goodB_true hg, gi_true] at this
        exact this))
      have K3 := Lib.hid (fun W => (show Calls Try.prog 63 #[.agg #[.int .i64 a1, .int .i64 a2, .int .i64 b1, .int .i64 b2, .int .i64 c1, .int .i64 c2]] W fun e w' => e = .returned (.int .i64 ((areaN l).natAbs : Int)) ∧ Below W.heap.size W w' from by
        rw [tri_area htr]; exact twiceSize_any a1 a2 b1 b2 c1 c2 W (tri_sz htr).1 (tri_sz htr).2.1 (tri_sz htr).2.2))
      obtain ⟨q1, q2⟩ := area_bd hg
      obtain ⟨o1, o2⟩ := on_bd hg
      unfold inR at hk
      simp only [Bool.and_eq_true, decide_eq_true_eq] at hk
      obtain ⟨⟨g1, g2⟩, ⟨g3, g4⟩, ⟨g5, g6⟩⟩ := grown_bd (k := k) (m := ((areaN l).natAbs : Int)) (o := onN l) hk.1 hk.2 (by omega) (by omega) o1 o2
      unfold grownN
      have nb : (0 : Int) ≤ ((areaN l).natAbs : Int) := by omega
      generalize ((areaN l).natAbs : Int) = m at *
      generalize onN l = o at *
      obtain ⟨k1, k2⟩ := hk
      have k3 : ¬ k < 0 := by omega
      have k4 : ¬ 20 < k := by omega
      clear ht hg htr hR q1 q2
      go_enter Try.func18, Try.ntmps18
      go_wp2_with fail
      refine K.out.mono ?_; rintro e w1 ⟨rfl, hb1⟩
      have BA := Below.alloc hb1 hb1.size (.cells #[.int .i64 a1, .int .i64 a2, .int .i64 b1, .int .i64 b2, .int .i64 c1, .int .i64 c2] 76)
      go_wp2_with fail
      refine (K4.out _ BA).mono ?_; rintro e w2 ⟨rfl, hb2⟩
      obtain ⟨hcA, hfA⟩ := bcell hb2
      have zz : w1.heap.size < w2.heap.size := by (have := hb2.size; simp at this; omega)
      have B2 := BA.trans (hb2.mono BA.size)
      go_wp2_with fail
      refine (K3.out _).mono ?_; rintro e w3 ⟨rfl, hb3⟩
      have B3 := B2.trans (hb3.mono B2.size)
      go_wp2_with fail
      go_ret2
      exact ⟨rfl, B3⟩
    · have hkf : inR 0 20 k = false := by simpa using hk
      rw [hkf, gsel_f]
      unfold inR at hkf
      simp at hkf
      clear ht htr hR hk
      by_cases k3 : k < 0
      · go_enter Try.func18, Try.ntmps18
        go_wp2_with fail
        refine K.out.mono ?_; rintro e w1 ⟨rfl, hb1⟩
        have BA := Below.alloc hb1 hb1.size (.cells #[.int .i64 a1, .int .i64 a2, .int .i64 b1, .int .i64 b2, .int .i64 c1, .int .i64 c2] 76)
        go_wp2_with fail
        go_ret2
        exact ⟨rfl, BA⟩
      · have k4 : 20 < k := by omega
        clear hkf
        go_enter Try.func18, Try.ntmps18
        go_wp2_with fail
        refine K.out.mono ?_; rintro e w1 ⟨rfl, hb1⟩
        have BA := Below.alloc hb1 hb1.size (.cells #[.int .i64 a1, .int .i64 a2, .int .i64 b1, .int .i64 b2, .int .i64 c1, .int .i64 c2] 76)
        go_wp2_with fail
        go_ret2
        exact ⟨rfl, BA⟩
  · have K := Lib.hid (threeOf_f A c l w hn hR ht)
    have htf : tB l = false := by simpa using ht
    rw [htf, Bool.false_and, gsel_f]
    clear ht htf hR
    go_enter Try.func18, Try.ntmps18
    go_wp2_with fail
    refine K.out.mono ?_; rintro e w1 ⟨rfl, hb1⟩
    have BA := Below.alloc hb1 hb1.size (.cells #[.int .i64 0, .int .i64 0, .int .i64 0, .int .i64 0, .int .i64 0, .int .i64 0] 76)
    go_wp2_with fail
    go_ret2
    exact ⟨rfl, BA⟩
end Go.Proofs.Ytieimijkkjhegaa
