/- contracts: IsOnLine and DoLinesMeet, on both sides -/
import Derived.Test.YtmbogkcdelfjlaaEp
import Derived.Test.YtmbogkcdelfjlaaHm
import Derived.Test.YtmbogkcdelfjlaaGm
namespace Go.Proofs.Ytmbogkcdelfjlaa
open Go.ChangeShapes Go.WideShapes Go.ChangeAt Go.RowKit Go.Joins
set_option linter.unusedVariables false
set_option linter.unusedSimpArgs false
set_option maxRecDepth 4000
theorem line_pegs {a1 a2 b1 b2 : Int} (h : lineB a1 a2 b1 b2 = true) : isPegB a1 a2 = true ∧ isPegB b1 b2 = true := by
  unfold lineB at h
  rw [Bool.and_eq_true, Bool.and_eq_true] at h
  exact h.1
theorem specMeet_any (a1 a2 b1 b2 c1 c2 d1 d2 : Int) (w : World) :
    Calls Try.prog 16 #[.agg #[.int .i64 a1, .int .i64 a2], .agg #[.int .i64 b1, .int .i64 b2], .agg #[.int .i64 c1, .int .i64 c2], .agg #[.int .i64 d1, .int .i64 d2]] w fun e w' => e = .returned (.tuple #[.bool (lineB a1 a2 b1 b2 && lineB c1 c2 d1 d2 && meetB a1 a2 b1 b2 c1 c2 d1 d2), .bool (lineB a1 a2 b1 b2 && lineB c1 c2 d1 d2)]) ∧ Below w.heap.size w w' := by
  have K1 := Lib.hid (fun W => pgLine_any a1 a2 b1 b2 W)
  have K2 := Lib.hid (fun W => pgLine_any c1 c2 d1 d2 W)
  by_cases h1 : lineB a1 a2 b1 b2 = true
  · obtain ⟨pa, pb⟩ := line_pegs h1
    by_cases h2 : lineB c1 c2 d1 d2 = true
    · obtain ⟨pc, pd⟩ := line_pegs h2
      have K3 := Lib.hid (fun W => pgMeet_any a1 a2 b1 b2 c1 c2 d1 d2 W (sz_of pa) (sz_of pb) (sz_of pc) (sz_of pd))
      rw [h1] at K1 ⊢
      rw [h2] at K2 ⊢
      clear h1 h2 pa pb pc pd
      generalize meetB a1 a2 b1 b2 c1 c2 d1 d2 = o at *
      go_enter Try.func16, Try.ntmps16
      go_wp2_with fail
      refine (K1.out _).mono ?_; rintro e w1 ⟨rfl, hb1⟩
      obtain ⟨hc1, hf1⟩ := bcell hb1
      have z1_0 : w.heap.size < w1.heap.size := by (have := hb1.size; simp at this; omega)
      have z1_1 : w.heap.size + 1 < w1.heap.size := by (have := hb1.size; simp at this; omega)
      have z1_2 : w.heap.size + 2 < w1.heap.size := by (have := hb1.size; simp at this; omega)
      have z1_3 : w.heap.size + 3 < w1.heap.size := by (have := hb1.size; simp at this; omega)
      have B1 : Below w.heap.size w w1 := (Below.alloc (Below.alloc (Below.alloc (Below.alloc (Below.refl _ _) (by simp <;> omega) _) (by simp <;> omega) _) (by simp <;> omega) _) (by simp <;> omega) _).trans (hb1.mono (by simp <;> omega))
      go_wp2_with fail
      refine (K2.out _).mono ?_; rintro e w2 ⟨rfl, hb2⟩
      obtain ⟨hc2, hf2⟩ := bcell hb2
      have z2_0 : w.heap.size < w2.heap.size := by (have := hb2.size; omega)
      have z2_1 : w.heap.size + 1 < w2.heap.size := by (have := hb2.size; omega)
      have z2_2 : w.heap.size + 2 < w2.heap.size := by (have := hb2.size; omega)
      have z2_3 : w.heap.size + 3 < w2.heap.size := by (have := hb2.size; omega)
      have B2 : Below w.heap.size w w2 := B1.trans (hb2.mono (by have := B1.size; omega))
      go_wp2_with fail
      refine (K3.out _).mono ?_; rintro e w3 ⟨rfl, hb3⟩
      obtain ⟨hc3, hf3⟩ := bcell hb3
      have z3_0 : w.heap.size < w3.heap.size := by (have := hb3.size; omega)
      have z3_1 : w.heap.size + 1 < w3.heap.size := by (have := hb3.size; omega)
      have z3_2 : w.heap.size + 2 < w3.heap.size := by (have := hb3.size; omega)
      have z3_3 : w.heap.size + 3 < w3.heap.size := by (have := hb3.size; omega)
      have B3 : Below w.heap.size w w3 := B2.trans (hb3.mono (by have := B2.size; omega))
      go_wp2_with fail
      go_ret2
      exact ⟨by simp, B3⟩
    · have h3 : lineB c1 c2 d1 d2 = false := by simpa using h2
      rw [h1] at K1 ⊢
      rw [h3] at K2 ⊢
      clear h1 h2 h3 pa pb
      go_enter Try.func16, Try.ntmps16
      go_wp2_with fail
      refine (K1.out _).mono ?_; rintro e w1 ⟨rfl, hb1⟩
      obtain ⟨hc1, hf1⟩ := bcell hb1
      have z1_0 : w.heap.size < w1.heap.size := by (have := hb1.size; simp at this; omega)
      have z1_1 : w.heap.size + 1 < w1.heap.size := by (have := hb1.size; simp at this; omega)
      have z1_2 : w.heap.size + 2 < w1.heap.size := by (have := hb1.size; simp at this; omega)
      have z1_3 : w.heap.size + 3 < w1.heap.size := by (have := hb1.size; simp at this; omega)
      have B1 : Below w.heap.size w w1 := (Below.alloc (Below.alloc (Below.alloc (Below.alloc (Below.refl _ _) (by simp <;> omega) _) (by simp <;> omega) _) (by simp <;> omega) _) (by simp <;> omega) _).trans (hb1.mono (by simp <;> omega))
      go_wp2_with fail
      refine (K2.out _).mono ?_; rintro e w2 ⟨rfl, hb2⟩
      obtain ⟨hc2, hf2⟩ := bcell hb2
      have z2_0 : w.heap.size < w2.heap.size := by (have := hb2.size; omega)
      have z2_1 : w.heap.size + 1 < w2.heap.size := by (have := hb2.size; omega)
      have z2_2 : w.heap.size + 2 < w2.heap.size := by (have := hb2.size; omega)
      have z2_3 : w.heap.size + 3 < w2.heap.size := by (have := hb2.size; omega)
      have B2 : Below w.heap.size w w2 := B1.trans (hb2.mono (by have := B1.size; omega))
      go_wp2_with fail
      go_ret2
      exact ⟨by simp, B2⟩
  · have h3 : lineB a1 a2 b1 b2 = false := by simpa using h1
    rw [h3] at K1 ⊢
    clear h1 h3
    go_enter Try.func16, Try.ntmps16
    go_wp2_with fail
    refine (K1.out _).mono ?_; rintro e w1 ⟨rfl, hb1⟩
    obtain ⟨hc1, hf1⟩ := bcell hb1
    have z1_0 : w.heap.size < w1.heap.size := by (have := hb1.size; simp at this; omega)
    have z1_1 : w.heap.size + 1 < w1.heap.size := by (have := hb1.size; simp at this; omega)
    have z1_2 : w.heap.size + 2 < w1.heap.size := by (have := hb1.size; simp at this; omega)
    have z1_3 : w.heap.size + 3 < w1.heap.size := by (have := hb1.size; simp at this; omega)
    have B1 : Below w.heap.size w w1 := (Below.alloc (Below.alloc (Below.alloc (Below.alloc (Below.refl _ _) (by simp <;> omega) _) (by simp <;> omega) _) (by simp <;> omega) _) (by simp <;> omega) _).trans (hb1.mono (by simp <;> omega))
    go_wp2_with fail
    go_ret2
    exact ⟨by simp, B1⟩
theorem implMeet_any (a1 a2 b1 b2 c1 c2 d1 d2 : Int) (w : World) :
    Calls Try.prog 18 #[.agg #[.int .i64 a1, .int .i64 a2], .agg #[.int .i64 b1, .int .i64 b2], .agg #[.int .i64 c1, .int .i64 c2], .agg #[.int .i64 d1, .int .i64 d2]] w fun e w' => e = .returned (.tuple #[.bool (lineB a1 a2 b1 b2 && lineB c1 c2 d1 d2 && meetB a1 a2 b1 b2 c1 c2 d1 d2), .bool (lineB a1 a2 b1 b2 && lineB c1 c2 d1 d2)]) ∧ Below w.heap.size w w' := by
  have K1 := Lib.hid (fun W => isLine_any a1 a2 b1 b2 W)
  have K2 := Lib.hid (fun W => isLine_any c1 c2 d1 d2 W)
  by_cases h1 : lineB a1 a2 b1 b2 = true
  · obtain ⟨pa, pb⟩ := line_pegs h1
    by_cases h2 : lineB c1 c2 d1 d2 = true
    · obtain ⟨pc, pd⟩ := line_pegs h2
      have K3 := Lib.hid (fun W => linesMeet_any a1 a2 b1 b2 c1 c2 d1 d2 W pa pb pc pd)
      rw [h1] at K1 ⊢
      rw [h2] at K2 ⊢
      clear h1 h2 pa pb pc pd
      generalize meetB a1 a2 b1 b2 c1 c2 d1 d2 = o at *
      go_enter Try.func18, Try.ntmps18
      go_wp2_with fail
      refine (K1.out _).mono ?_; rintro e w1 ⟨rfl, hb1⟩
      obtain ⟨hc1, hf1⟩ := bcell hb1
      have z1_0 : w.heap.size < w1.heap.size := by (have := hb1.size; simp at this; omega)
      have z1_1 : w.heap.size + 1 < w1.heap.size := by (have := hb1.size; simp at this; omega)
      have z1_2 : w.heap.size + 2 < w1.heap.size := by (have := hb1.size; simp at this; omega)
      have z1_3 : w.heap.size + 3 < w1.heap.size := by (have := hb1.size; simp at this; omega)
      have B1 : Below w.heap.size w w1 := (Below.alloc (Below.alloc (Below.alloc (Below.alloc (Below.refl _ _) (by simp <;> omega) _) (by simp <;> omega) _) (by simp <;> omega) _) (by simp <;> omega) _).trans (hb1.mono (by simp <;> omega))
      go_wp2_with fail
      refine (K2.out _).mono ?_; rintro e w2 ⟨rfl, hb2⟩
      obtain ⟨hc2, hf2⟩ := bcell hb2
      have z2_0 : w.heap.size < w2.heap.size := by (have := hb2.size; omega)
      have z2_1 : w.heap.size + 1 < w2.heap.size := by (have := hb2.size; omega)
      have z2_2 : w.heap.size + 2 < w2.heap.size := by (have := hb2.size; omega)
      have z2_3 : w.heap.size + 3 < w2.heap.size := by (have := hb2.size; omega)
      have B2 : Below w.heap.size w w2 := B1.trans (hb2.mono (by have := B1.size; omega))
      go_wp2_with fail
      refine (K3.out _).mono ?_; rintro e w3 ⟨rfl, hb3⟩
      obtain ⟨hc3, hf3⟩ := bcell hb3
      have z3_0 : w.heap.size < w3.heap.size := by (have := hb3.size; omega)
      have z3_1 : w.heap.size + 1 < w3.heap.size := by (have := hb3.size; omega)
      have z3_2 : w.heap.size + 2 < w3.heap.size := by (have := hb3.size; omega)
      have z3_3 : w.heap.size + 3 < w3.heap.size := by (have := hb3.size; omega)
      have B3 : Below w.heap.size w w3 := B2.trans (hb3.mono (by have := B2.size; omega))
      go_wp2_with fail
      go_ret2
      exact ⟨by simp, B3⟩
    · have h3 : lineB c1 c2 d1 d2 = false := by simpa using h2
      rw [h1] at K1 ⊢
      rw [h3] at K2 ⊢
      clear h1 h2 h3 pa pb
      go_enter Try.func18, Try.ntmps18
      go_wp2_with fail
      refine (K1.out _).mono ?_; rintro e w1 ⟨rfl, hb1⟩
      obtain ⟨hc1, hf1⟩ := bcell hb1
      have z1_0 : w.heap.size < w1.heap.size := by (have := hb1.size; simp at this; omega)
      have z1_1 : w.heap.size + 1 < w1.heap.size := by (have := hb1.size; simp at this; omega)
      have z1_2 : w.heap.size + 2 < w1.heap.size := by (have := hb1.size; simp at this; omega)
      have z1_3 : w.heap.size + 3 < w1.heap.size := by (have := hb1.size; simp at this; omega)
      have B1 : Below w.heap.size w w1 := (Below.alloc (Below.alloc (Below.alloc (Below.alloc (Below.refl _ _) (by simp <;> omega) _) (by simp <;> omega) _) (by simp <;> omega) _) (by simp <;> omega) _).trans (hb1.mono (by simp <;> omega))
      go_wp2_with fail
      refine (K2.out _).mono ?_; rintro e w2 ⟨rfl, hb2⟩
      obtain ⟨hc2, hf2⟩ := bcell hb2
      have z2_0 : w.heap.size < w2.heap.size := by (have := hb2.size; omega)
      have z2_1 : w.heap.size + 1 < w2.heap.size := by (have := hb2.size; omega)
      have z2_2 : w.heap.size + 2 < w2.heap.size := by (have := hb2.size; omega)
      have z2_3 : w.heap.size + 3 < w2.heap.size := by (have := hb2.size; omega)
      have B2 : Below w.heap.size w w2 := B1.trans (hb2.mono (by have := B1.size; omega))
      go_wp2_with fail
      go_ret2
      exact ⟨by simp, B2⟩
  · have h3 : lineB a1 a2 b1 b2 = false := by simpa using h1
    rw [h3] at K1 ⊢
    clear h1 h3
    go_enter Try.func18, Try.ntmps18
    go_wp2_with fail
    refine (K1.out _).mono ?_; rintro e w1 ⟨rfl, hb1⟩
    obtain ⟨hc1, hf1⟩ := bcell hb1
    have z1_0 : w.heap.size < w1.heap.size := by (have := hb1.size; simp at this; omega)
    have z1_1 : w.heap.size + 1 < w1.heap.size := by (have := hb1.size; simp at this; omega)
    have z1_2 : w.heap.size + 2 < w1.heap.size := by (have := hb1.size; simp at this; omega)
    have z1_3 : w.heap.size + 3 < w1.heap.size := by (have := hb1.size; simp at this; omega)
    have B1 : Below w.heap.size w w1 := (Below.alloc (Below.alloc (Below.alloc (Below.alloc (Below.refl _ _) (by simp <;> omega) _) (by simp <;> omega) _) (by simp <;> omega) _) (by simp <;> omega) _).trans (hb1.mono (by simp <;> omega))
    go_wp2_with fail
    go_ret2
    exact ⟨by simp, B1⟩
end Go.Proofs.Ytmbogkcdelfjlaa
