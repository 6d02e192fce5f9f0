/- contracts: IsHollowThree, on both sides -/
import Derived.Test.YtgjegildeejghaaTe
import Derived.Test.YtgjegildeejghaaSi
namespace Go.Proofs.Ytgjegildeejghaa
open Go.ChangeShapes Go.WideShapes Go.ChangeAt Go.RowKit Go.Joins
set_option linter.unusedVariables false
set_option linter.unusedSimpArgs false
set_option maxRecDepth 4000
theorem specIsHollowThree_any (A : Option Addr) (c : Nat) (l : List (Int × Int)) (w : World) (hn : l.length ≤ 1048576) (hcap : l.length ≤ c) (hc2 : c ≤ 9223372036854775807) (hR : Rd w w.heap.size A l) :
    Calls Try.prog 20 #[.slice A l.length c] w fun e w' => e = .returned (.tuple #[.bool (bsel (tB l) (decide (insN l = 0))), .bool (tB l)]) ∧ Below w.heap.size w w' := by
  have K := Lib.hid (trThree_any A c l w hn hcap hc2 hR)
  by_cases ht : tB l = true
  · obtain ⟨a1, a2, b1, b2, c1, c2, htr⟩ := tB_true ht
    have hg := htr.2
    rw [ht] at K ⊢
    rw [bsel_t]
    have K2 := Lib.hid (fun W (hb : Below w.heap.size w W) => pgInside_any A c l W hg (rd_more (rd_below hR hb (Nat.le_refl _)) hb.size))
    generalize insN l = m at *
    clear ht hg htr hR
    by_cases hm : m = 0
    · subst hm
      go_enter Try.func20, Try.ntmps20
      go_wp2_with fail
      refine K.out.mono ?_; rintro e w1 ⟨rfl, hb1⟩
      go_wp2_with fail
      refine (K2.out w1 hb1).mono ?_; rintro e w2 ⟨rfl, hb2⟩
      have B2 := hb1.trans (hb2.mono hb1.size)
      go_wp2_with fail
      go_ret2
      exact ⟨by simp, B2⟩
    · have hmb : (m == 0) = false := by simpa using hm
      go_enter Try.func20, Try.ntmps20
      go_wp2_with fail
      refine K.out.mono ?_; rintro e w1 ⟨rfl, hb1⟩
      go_wp2_with fail
      refine (K2.out w1 hb1).mono ?_; rintro e w2 ⟨rfl, hb2⟩
      have B2 := hb1.trans (hb2.mono hb1.size)
      go_wp2_with fail
      go_ret2
      exact ⟨by simp [hm], B2⟩
  · have htf : tB l = false := by simpa using ht
    rw [htf] at K ⊢
    rw [bsel_f]
    clear ht htf hR
    go_enter Try.func20, Try.ntmps20
    go_wp2_with fail
    refine K.out.mono ?_; rintro e w1 ⟨rfl, hb1⟩
    go_wp2_with fail
    go_ret2
    exact ⟨rfl, hb1⟩
theorem implIsHollowThree_any (A : Option Addr) (c : Nat) (l : List (Int × Int)) (w : World) (hn : l.length ≤ 1048576) (hR : Rd w w.heap.size A l) :
    Calls Try.prog 21 #[.slice A l.length c] w fun e w' => e = .returned (.tuple #[.bool (bsel (tB l) (decide (insN l = 0))), .bool (tB l)]) ∧ Below w.heap.size w w' := by
  by_cases ht : tB l = true
  · obtain ⟨a1, a2, b1, b2, c1, c2, htr⟩ := tB_true ht
    have K := Lib.hid (threeOf_t A c l a1 a2 b1 b2 c1 c2 w hR htr)
    rw [ht, bsel_t]
    have K3 := Lib.hid (fun W (hb : Below w.heap.size w W) => (show Calls Try.prog 59 #[.slice A l.length c] W fun e w' => e = .returned (.tuple #[.int .i64 (insN l), .bool true]) ∧ Below W.heap.size W w' from by
      have := implPegsInside_any A c l W hn (rd_more (rd_below hR hb (Nat.le_refl _)) hb.size)
      rw [goodB_true htr.2, gi_true] at this
      exact this))
    generalize insN l = m at *
    clear ht htr hR
    by_cases hm : m = 0
    · subst hm
      go_enter Try.func21, Try.ntmps21
      go_wp2_with fail
      refine K.out.mono ?_; rintro e w1 ⟨rfl, hb1⟩
      have BA := Below.alloc hb1 hb1.size (.cells #[.int .i64 a1, .int .i64 a2, .int .i64 b1, .int .i64 b2, .int .i64 c1, .int .i64 c2] 67)
      go_wp2_with fail
      refine (K3.out _ BA).mono ?_; rintro e w2 ⟨rfl, hb2⟩
      have B2 := BA.trans (hb2.mono BA.size)
      go_wp2_with fail
      go_ret2
      exact ⟨by simp, B2⟩
    · have hmb : (m == 0) = false := by simpa using hm
      go_enter Try.func21, Try.ntmps21
      go_wp2_with fail
      refine K.out.mono ?_; rintro e w1 ⟨rfl, hb1⟩
      have BA := Below.alloc hb1 hb1.size (.cells #[.int .i64 a1, .int .i64 a2, .int .i64 b1, .int .i64 b2, .int .i64 c1, .int .i64 c2] 67)
      go_wp2_with fail
      refine (K3.out _ BA).mono ?_; rintro e w2 ⟨rfl, hb2⟩
      have B2 := BA.trans (hb2.mono BA.size)
      go_wp2_with fail
      go_ret2
      exact ⟨by simp [hm], B2⟩
  · have K := Lib.hid (threeOf_f A c l w hn hR ht)
    have htf : tB l = false := by simpa using ht
    rw [htf, bsel_f]
    clear ht htf hR
    go_enter Try.func21, Try.ntmps21
    go_wp2_with fail
    refine K.out.mono ?_; rintro e w1 ⟨rfl, hb1⟩
    have BA := Below.alloc hb1 hb1.size (.cells #[.int .i64 0, .int .i64 0, .int .i64 0, .int .i64 0, .int .i64 0, .int .i64 0] 67)
    go_wp2_with fail
    go_ret2
    exact ⟨by simp, BA⟩
end Go.Proofs.Ytgjegildeejghaa
