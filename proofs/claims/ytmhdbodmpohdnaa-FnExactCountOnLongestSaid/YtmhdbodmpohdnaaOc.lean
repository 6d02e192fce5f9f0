/- contracts: the greatest triangle, upright rectangles, both sides -/
import Derived.Test.YtmhdbodmpohdnaaOb
namespace Go.Proofs.Ytmhdbodmpohdnaa
open Go.ChangeShapes Go.WideShapes Go.ChangeAt Go.RowKit Go.Joins
set_option linter.unusedVariables false
set_option linter.unusedSimpArgs false
set_option maxRecDepth 4000
set_option maxHeartbeats 1000000 in
theorem specGreatestTriangle_any (w h : Int) (W : World) :
    Calls Try.prog 15 #[.int .i64 w, .int .i64 h] W fun e w' => e = .returned (.tuple #[.int .i64 (bdV (bdB 12 w h) ((w - 1) * (h - 1))), .bool (bdB 12 w h)]) ∧ Below W.heap.size W w' := by
  have K := Lib.hid (ctBoard_any w h 12 W)
  by_cases hg : bdB 12 w h = true
  · obtain ⟨h1, h2, h3, h4⟩ := bdB_true hg
    obtain ⟨g1, g2⟩ := gr_bd h1 h2 h3 h4
    rw [hg] at K ⊢
    rw [bdV_t]
    clear hg
    go_enter Try.func15, Try.ntmps15
    go_wp2_with fail
    refine K.out.mono ?_; rintro e w1 ⟨rfl, hb1⟩
    go_wp2_with fail
    go_ret2
    exact ⟨rfl, hb1⟩
  · have hf : bdB 12 w h = false := by simpa using hg
    rw [hf] at K ⊢
    rw [bdV_f]
    clear hg hf
    go_enter Try.func15, Try.ntmps15
    go_wp2_with fail
    refine K.out.mono ?_; rintro e w1 ⟨rfl, hb1⟩
    go_wp2_with fail
    go_ret2
    exact ⟨rfl, hb1⟩
set_option maxHeartbeats 1000000 in
theorem implGreatestTriangle_any (w h : Int) (W : World) :
    Calls Try.prog 16 #[.int .i64 w, .int .i64 h] W fun e w' => e = .returned (.tuple #[.int .i64 (bdV (bdB 12 w h) ((w - 1) * (h - 1))), .bool (bdB 12 w h)]) ∧ Below W.heap.size W w' := by
  by_cases hg : bdB 12 w h = true
  · have K := Lib.hid (boardUpTo_t 12 w h W hg)
    obtain ⟨h1, h2, h3, h4⟩ := bdB_true hg
    obtain ⟨g1, g2⟩ := gr_bd h1 h2 h3 h4
    rw [hg, bdV_t]
    clear hg
    go_enter Try.func16, Try.ntmps16
    go_wp2_with fail
    refine K.out.mono ?_; rintro e w1 ⟨rfl, hb1⟩
    have BA := Below.alloc hb1 hb1.size (.cells #[.int .i64 w, .int .i64 h] 34)
    go_wp2_with fail
    go_ret2
    exact ⟨rfl, BA⟩
  · have hf : bdB 12 w h = false := by simpa using hg
    have K := Lib.hid (boardUpTo_f 12 w h W hf)
    rw [hf, bdV_f]
    clear hg hf
    go_enter Try.func16, Try.ntmps16
    go_wp2_with fail
    refine K.out.mono ?_; rintro e w1 ⟨rfl, hb1⟩
    have BA := Below.alloc hb1 hb1.size (.cells #[.int .i64 0, .int .i64 0] 34)
    go_wp2_with fail
    go_ret2
    exact ⟨rfl, BA⟩
set_option maxHeartbeats 1000000 in
theorem specCountUpright_any (w h : Int) (W : World) :
    Calls Try.prog 17 #[.int .i64 w, .int .i64 h] W fun e w' => e = .returned (.tuple #[.int .i64 (bdV (bdB 12 w h) (uprN w h)), .bool (bdB 12 w h)]) ∧ Below W.heap.size W w' := by
  have K := Lib.hid (ctBoard_any w h 12 W)
  by_cases hg : bdB 12 w h = true
  · obtain ⟨h1, h2, h3, h4⟩ := bdB_true hg
    obtain ⟨g1, g2⟩ := upr_bd h1 h2
    obtain ⟨g3, g4⟩ := upr_bd h3 h4
    obtain ⟨g5, g6⟩ := upp_bd g1 g2 g3 g4
    unfold uprN
    rw [hg] at K ⊢
    rw [bdV_t]
    clear hg
    go_enter Try.func17, Try.ntmps17
    go_wp2_with fail
    refine K.out.mono ?_; rintro e w1 ⟨rfl, hb1⟩
    go_wp2_with fail
    go_ret2
    exact ⟨rfl, hb1⟩
  · have hf : bdB 12 w h = false := by simpa using hg
    rw [hf] at K ⊢
    rw [bdV_f]
    clear hg hf
    go_enter Try.func17, Try.ntmps17
    go_wp2_with fail
    refine K.out.mono ?_; rintro e w1 ⟨rfl, hb1⟩
    go_wp2_with fail
    go_ret2
    exact ⟨rfl, hb1⟩
set_option maxHeartbeats 1000000 in
theorem implCountUpright_any (w h : Int) (W : World) :
    Calls Try.prog 18 #[.int .i64 w, .int .i64 h] W fun e w' => e = .returned (.tuple #[.int .i64 (bdV (bdB 12 w h) (uprN w h)), .bool (bdB 12 w h)]) ∧ Below W.heap.size W w' := by
  by_cases hg : bdB 12 w h = true
  · have K := Lib.hid (boardUpTo_t 12 w h W hg)
    obtain ⟨h1, h2, h3, h4⟩ := bdB_true hg
    obtain ⟨g1, g2⟩ := upr_bd h1 h2
    obtain ⟨g3, g4⟩ := upr_bd h3 h4
    obtain ⟨g5, g6⟩ := upp_bd g1 g2 g3 g4
    unfold uprN
    rw [hg, bdV_t]
    clear hg
    go_enter Try.func18, Try.ntmps18
    go_wp2_with fail
    refine K.out.mono ?_; rintro e w1 ⟨rfl, hb1⟩
    have BA := Below.alloc hb1 hb1.size (.cells #[.int .i64 w, .int .i64 h] 34)
    go_wp2_with fail
    go_ret2
    exact ⟨rfl, BA⟩
  · have hf : bdB 12 w h = false := by simpa using hg
    have K := Lib.hid (boardUpTo_f 12 w h W hf)
    rw [hf, bdV_f]
    clear hg hf
    go_enter Try.func18, Try.ntmps18
    go_wp2_with fail
    refine K.out.mono ?_; rintro e w1 ⟨rfl, hb1⟩
    have BA := Below.alloc hb1 hb1.size (.cells #[.int .i64 0, .int .i64 0] 34)
    go_wp2_with fail
    go_ret2
    exact ⟨rfl, BA⟩
end Go.Proofs.Ytmhdbodmpohdnaa
