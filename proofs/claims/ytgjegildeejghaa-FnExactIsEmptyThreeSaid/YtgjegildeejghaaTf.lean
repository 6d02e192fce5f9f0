/- contracts: IsEmptyThree, on both sides -/
import Derived.Test.YtgjegildeejghaaTe
import Derived.Test.YtgjegildeejghaaSd
import Derived.Test.YtgjegildeejghaaTc
namespace Go.Proofs.Ytgjegildeejghaa
open Go.ChangeShapes Go.WideShapes Go.ChangeAt Go.RowKit Go.Joins
set_option linter.unusedVariables false
set_option linter.unusedSimpArgs false
set_option maxRecDepth 4000
theorem specIsEmptyThree_any (A : Option Addr) (c : Nat) (l : List (Int × Int)) (w : World) (hn : l.length ≤ 1048576) (hcap : l.length ≤ c) (hc2 : c ≤ 9223372036854775807) (hR : Rd w w.heap.size A l) :
    Calls Try.prog 16 #[.slice A l.length c] w fun e w' => e = .returned (.tuple #[.bool (bsel (tB l) (decide ((areaN l).natAbs = 1))), .bool (tB l)]) ∧ Below w.heap.size w w' := by
  have K := Lib.hid (trThree_any A c l w hn hcap hc2 hR)
  by_cases ht : tB l = true
  · obtain ⟨a1, a2, b1, b2, c1, c2, htr⟩ := tB_true ht
    have hg := htr.2
    rw [ht] at K ⊢
    rw [bsel_t]
    have K2 := Lib.hid (fun W (hb : Below w.heap.size w W) => pgArea_any A c l W hg.few.1 hg.few.2 hg.pegs (rd_more (rd_below hR hb (Nat.le_refl _)) hb.size))
    obtain ⟨q1, q2⟩ := twI_bd (tri_sz htr).1 (tri_sz htr).2.1 (tri_sz htr).2.2
    rw [← tri_area htr] at q1 q2
    have K3 := Lib.hid (fun W => l1Abs_any (areaN l) W (by omega) (by omega))
    have he : decide ((areaN l).natAbs = 1) = decide (((areaN l).natAbs : Int) = 1) := by rw [decide_eq_decide]; omega
    rw [he]
    generalize ((areaN l).natAbs : Int) = m at *
    generalize areaN l = v at *
    clear ht hg htr hR he
    by_cases hm : m = 1
    · subst hm
      go_enter Try.func16, Try.ntmps16
      go_wp2_with fail
      refine K.out.mono ?_; rintro e w1 ⟨rfl, hb1⟩
      go_wp2_with fail
      refine (K2.out w1 hb1).mono ?_; rintro e w2 ⟨rfl, hb2⟩
      have B2 := hb1.trans (hb2.mono hb1.size)
      go_wp2_with fail
      refine (K3.out _).mono ?_; rintro e _ ⟨rfl, rfl⟩
      go_wp2_with fail
      go_ret2
      exact ⟨by simp, B2⟩
    · have hmb : (m == 1) = false := by simpa using hm
      go_enter Try.func16, Try.ntmps16
      go_wp2_with fail
      refine K.out.mono ?_; rintro e w1 ⟨rfl, hb1⟩
      go_wp2_with fail
      refine (K2.out w1 hb1).mono ?_; rintro e w2 ⟨rfl, hb2⟩
      have B2 := hb1.trans (hb2.mono hb1.size)
      go_wp2_with fail
      refine (K3.out _).mono ?_; rintro e _ ⟨rfl, rfl⟩
      go_wp2_with fail
      go_ret2
      exact ⟨by simp [hm], B2⟩
  · have htf : tB l = false := by simpa using ht
    rw [htf] at K ⊢
    rw [bsel_f]
    clear ht htf hR
    go_enter Try.func16, Try.ntmps16
    go_wp2_with fail
    refine K.out.mono ?_; rintro e w1 ⟨rfl, hb1⟩
    go_wp2_with fail
    go_ret2
    exact ⟨rfl, hb1⟩
theorem implIsEmptyThree_any (A : Option Addr) (c : Nat) (l : List (Int × Int)) (w : World) (hn : l.length ≤ 1048576) (hR : Rd w w.heap.size A l) :
    Calls Try.prog 18 #[.slice A l.length c] w fun e w' => e = .returned (.tuple #[.bool (bsel (tB l) (decide ((areaN l).natAbs = 1))), .bool (tB l)]) ∧ Below w.heap.size w w' := by
  by_cases ht : tB l = true
  · obtain ⟨a1, a2, b1, b2, c1, c2, htr⟩ := tB_true ht
    have K := Lib.hid (threeOf_t A c l a1 a2 b1 b2 c1 c2 w hR htr)
    rw [ht, bsel_t]
    have K3 := Lib.hid (fun W => twiceSize_any a1 a2 b1 b2 c1 c2 W (tri_sz htr).1 (tri_sz htr).2.1 (tri_sz htr).2.2)
    have he : decide ((areaN l).natAbs = 1) = decide (((twI a1 a2 b1 b2 c1 c2).natAbs : Int) = 1) := by rw [decide_eq_decide, tri_area htr]; omega
    rw [he]
    generalize ((twI a1 a2 b1 b2 c1 c2).natAbs : Int) = m at *
    clear ht htr hR he
    by_cases hm : m = 1
    · subst hm
      go_enter Try.func18, Try.ntmps18
      go_wp2_with fail
      refine K.out.mono ?_; rintro e w1 ⟨rfl, hb1⟩
      have BA := Below.alloc hb1 hb1.size (.cells #[.int .i64 a1, .int .i64 a2, .int .i64 b1, .int .i64 b2, .int .i64 c1, .int .i64 c2] 67)
      go_wp2_with fail
      refine (K3.out _).mono ?_; rintro e w2 ⟨rfl, hb2⟩
      have B2 := BA.trans (hb2.mono BA.size)
      go_wp2_with fail
      go_ret2
      exact ⟨by simp, B2⟩
    · have hmb : (m == 1) = false := by simpa using hm
      go_enter Try.func18, Try.ntmps18
      go_wp2_with fail
      refine K.out.mono ?_; rintro e w1 ⟨rfl, hb1⟩
      have BA := Below.alloc hb1 hb1.size (.cells #[.int .i64 a1, .int .i64 a2, .int .i64 b1, .int .i64 b2, .int .i64 c1, .int .i64 c2] 67)
      go_wp2_with fail
      refine (K3.out _).mono ?_; rintro e w2 ⟨rfl, hb2⟩
      have B2 := BA.trans (hb2.mono BA.size)
      go_wp2_with fail
      go_ret2
      exact ⟨by simp [hm], B2⟩
  · have K := Lib.hid (threeOf_f A c l w hn hR ht)
    have htf : tB l = false := by simpa using ht
    rw [htf, bsel_f]
    clear ht htf hR
    go_enter Try.func18, Try.ntmps18
    go_wp2_with fail
    refine K.out.mono ?_; rintro e w1 ⟨rfl, hb1⟩
    have BA := Below.alloc hb1 hb1.size (.cells #[.int .i64 0, .int .i64 0, .int .i64 0, .int .i64 0, .int .i64 0, .int .i64 0] 67)
    go_wp2_with fail
    go_ret2
    exact ⟨by simp, BA⟩
end Go.Proofs.Ytgjegildeejghaa
