/- contracts: IsMove, the program -/
import Derived.Test.YtieimijkkjhegaaMc
import Derived.Test.YtieimijkkjhegaaMe0
import Derived.Test.YtieimijkkjhegaaRt
import Derived.Test.YtieimijkkjhegaaR
import Derived.BigRegion
namespace Go.Proofs.Ytieimijkkjhegaa
open Go.ChangeShapes Go.WideShapes Go.ChangeAt Go.RowKit Go.Joins
set_option linter.unusedVariables false
set_option linter.unusedSimpArgs false
set_option maxRecDepth 4000
theorem btk {w W W' : World} (h : Below w.heap.size w W) (hb : Below W.heap.size W W') : Below w.heap.size w W' := h.trans (hb.mono h.size)
theorem clip_in {m v : Int} (h : inQ (-m) m v = true) : clip m v = v := by
  unfold inQ at h; unfold clip; simp only [Bool.and_eq_true, decide_eq_true_eq] at h; omega
theorem clip_out {m v : Int} (h : ¬ inQ (-m) m v = true) (hm : 0 ≤ m) : clip m v ≠ v := by
  unfold inQ at h; unfold clip; simp only [Bool.and_eq_true, decide_eq_true_eq] at h; omega
theorem boxM_clip (a b c d x y : Int) : boxM a b c d x y = true ↔ (clip 20 a = a ∧ clip 20 b = b ∧ clip 20 c = c ∧ clip 20 d = d ∧ clip 80 x = x ∧ clip 80 y = y) := by
  unfold boxM
  rw [all4, all2]
  simp only [Bool.and_eq_true]
  constructor
  · rintro ⟨⟨⟨⟨h1, h2⟩, h3⟩, h4⟩, h5, h6⟩
    exact ⟨clip_in h1, clip_in h2, clip_in h3, clip_in h4, clip_in h5, clip_in h6⟩
  · rintro ⟨h1, h2, h3, h4, h5, h6⟩
    refine ⟨⟨⟨⟨?_, ?_⟩, ?_⟩, ?_⟩, ?_, ?_⟩
    · by_cases h : inQ (-20) 20 a = true; exact h; exact absurd h1 (clip_out (m := 20) h (by omega))
    · by_cases h : inQ (-20) 20 b = true; exact h; exact absurd h2 (clip_out (m := 20) h (by omega))
    · by_cases h : inQ (-20) 20 c = true; exact h; exact absurd h3 (clip_out (m := 20) h (by omega))
    · by_cases h : inQ (-20) 20 d = true; exact h; exact absurd h4 (clip_out (m := 20) h (by omega))
    · by_cases h : inQ (-80) 80 x = true; exact h; exact absurd h5 (clip_out (m := 80) h (by omega))
    · by_cases h : inQ (-80) 80 y = true; exact h; exact absurd h6 (clip_out (m := 80) h (by omega))
theorem boxM_all4 {a b c d x y : Int} (h : boxM a b c d x y = true) : allIn (-20) 20 (q4 a b c d) 4 = true := by
  unfold boxM at h; simp only [Bool.and_eq_true] at h; exact h.1
set_option maxHeartbeats 1000000 in
theorem implIsMove_any (a b c d x y : Int) (w : World) :
    Calls Try.prog 70 #[.agg #[.int .i64 a, .int .i64 b, .int .i64 c, .int .i64 d, .int .i64 x, .int .i64 y]] w fun e w' => e = .returned (.bool (goodM a b c d x y)) ∧ Below w.heap.size w w' := by
  have KW := Lib.hid (fun W => whole_any a b c d x y W)
  have KC := Lib.hid (fun W => clipped_any a b c d x y W)
  by_cases hb : boxM a b c d x y = true
  · have KS := Lib.hid (fun W => side_any a b c d x y W (wide4 (boxM_all4 hb)).1 (wide4 (boxM_all4 hb)).2.1 (wide4 (boxM_all4 hb)).2.2.1 (wide4 (boxM_all4 hb)).2.2.2)
    obtain ⟨e1, e2, e3, e4, e5, e6⟩ := (boxM_clip a b c d x y).1 hb
    rw [e1, e2, e3, e4, e5, e6] at KC
    have e : goodM a b c d x y = decide (((a * d - b * c).natAbs : Int) = 1) := by unfold goodM; rw [hb]; rfl
    rw [e]
    clear e e1 e2 e3 e4 e5 e6 hb
    generalize a * d - b * c = s at *
    have EQ := Lib.hid (fun W => (eq6 a b c d x y a b c d x y W).trans (by rw [decide_eq_true ⟨rfl, rfl, rfl, rfl, rfl, rfl⟩] : _ = Result.ok true W))
    by_cases s1 : s = 1
    · have hr : Hid (decide ((s.natAbs : Int) = 1) = true) := Lib.hid (by simp; omega)
      go_enter Try.func70, Try.ntmps70
      go_wp2_with fail
      have B0 := Below.alloc (Below.refl w.heap.size w) (Nat.le_refl _) (.cells #[.int .i64 a, .int .i64 b, .int .i64 c, .int .i64 d, .int .i64 x, .int .i64 y] 37)
      refine (KW.out _).mono ?_; rintro e w2 ⟨rfl, hb2⟩
      have B2 := B0.trans (hb2.mono B0.size)
      clear hb2 B0
      go_wp2_with fail
      obtain ⟨W3, hW3⟩ : ∃ W3, W3 = (w2.alloc (.cells #[.int .i64 a, .int .i64 b, .int .i64 c, .int .i64 d, .int .i64 x, .int .i64 y] 89)) := ⟨_, rfl⟩
      rw [← hW3]
      have yW30_0 : W3.cell? ⟨w2.heap.size, 0, none⟩ = some (.int .i64 a) := by rw [hW3]; go_simp
      have yW30_1 : W3.cell? ⟨w2.heap.size, 1, none⟩ = some (.int .i64 b) := by rw [hW3]; go_simp
      have yW30_2 : W3.cell? ⟨w2.heap.size, 2, none⟩ = some (.int .i64 c) := by rw [hW3]; go_simp
      have yW30_3 : W3.cell? ⟨w2.heap.size, 3, none⟩ = some (.int .i64 d) := by rw [hW3]; go_simp
      have yW30_4 : W3.cell? ⟨w2.heap.size, 4, none⟩ = some (.int .i64 x) := by rw [hW3]; go_simp
      have yW30_5 : W3.cell? ⟨w2.heap.size, 5, none⟩ = some (.int .i64 y) := by rw [hW3]; go_simp
      have fW30 : ∀ o, W3.frozen? ⟨w2.heap.size, o, none⟩ = false := by intro o; rw [hW3]; (repeat rw [frozen?_alloc_cells]); simp [World.frozen?]
      have zW30 : w2.heap.size < W3.heap.size := by rw [hW3]; simp <;> omega
      have BW3 : Below w2.heap.size w2 W3 := by rw [hW3]; exact (Below.alloc (Below.refl _ _) (by simp <;> omega) _)
      have eW3 : Hid (W3.heap.size = w2.heap.size + 1) := Lib.hid (by rw [hW3]; simp)
      clear hW3
      refine wp_region_B (fun W => Below W3.heap.size W3 W) (by kernel_rfl) (by repeat (first | exact Below.refl _ _ | apply Below.drew)) ?_
      first | refine wpB_skip 0 rfl (by kernel_rfl) (by kernel_rfl) (by kernel_rfl) (by rfl) ?_ | (refine wpB_text 0 (v := ?_) rfl (by kernel_rfl) (by kernel_rfl) (by kernel_rfl) (by rfl) (fun W hW => ?_) ?_; rotate_left; (have k1 := hW; obtain ⟨hc1, hf1⟩ := bcell k1; have he := EQ.out W; go_simp; refine comes_v ?_; exact k1))
      (try simp only [Act.put, List.setIfInBounds_toArray, List.set_cons_zero, List.set_cons_succ])
      first | refine wpB_skip 1 rfl (by kernel_rfl) (by kernel_rfl) (by kernel_rfl) (by rfl) ?_ | (refine wpB_text 1 (v := ?_) rfl (by kernel_rfl) (by kernel_rfl) (by kernel_rfl) (by rfl) (fun W hW => ?_) ?_; rotate_left; (have k1 := hW; obtain ⟨hc1, hf1⟩ := bcell k1; have he := EQ.out W; go_simp; refine comes_v ?_; exact k1))
      (try simp only [Act.put, List.setIfInBounds_toArray, List.set_cons_zero, List.set_cons_succ])
      first | refine wpB_skip 2 rfl (by kernel_rfl) (by kernel_rfl) (by kernel_rfl) (by rfl) ?_ | (refine wpB_text 2 (v := .agg #[.int .i64 a, .int .i64 b, .int .i64 c, .int .i64 d, .int .i64 x, .int .i64 y]) rfl (by kernel_rfl) (by kernel_rfl) (by kernel_rfl) (by rfl) (fun W hW => ?_) ?_; (have k1 := hW; obtain ⟨hc1, hf1⟩ := bcell k1; have he := EQ.out W; go_simp; exact comes_c ( KC.out _) (fun wn hbn => btk k1 hbn)))
      (try simp only [Act.put, List.setIfInBounds_toArray, List.set_cons_zero, List.set_cons_succ])
      first | refine wpB_skip 3 rfl (by kernel_rfl) (by kernel_rfl) (by kernel_rfl) (by rfl) ?_ | (refine wpB_text 3 (v := ?_) rfl (by kernel_rfl) (by kernel_rfl) (by kernel_rfl) (by rfl) (fun W hW => ?_) ?_; rotate_left; (have k1 := hW; obtain ⟨hc1, hf1⟩ := bcell k1; have he := EQ.out W; go_simp; refine comes_v ?_; exact k1))
      (try simp only [Act.put, List.setIfInBounds_toArray, List.set_cons_zero, List.set_cons_succ])
      refine wpB_done (by kernel_rfl) ?_ _
      intro W hW; have k1 := hW
      have B4 := B2.trans ((BW3.mono B2.size).trans (k1.mono (by have := BW3.size; have := B2.size; omega)))
      clear B2 BW3
      obtain ⟨z4, c0, c1, c2, c3, c4, c5⟩ := at6_below (B := W3.heap.size) (w := W3) (w' := W) ⟨zW30, yW30_0, yW30_1, yW30_2, yW30_3, yW30_4, yW30_5⟩ k1 zW30
      go_wp2_with fail
      refine (KS.out _).mono ?_; rintro e w5 ⟨rfl, hb5⟩
      have B5 := B4.trans (hb5.mono B4.size)
      go_wp2_with fail
      go_ret
      exact ⟨ret_bool hr.out.symm, B5⟩
    · by_cases s2 : s = -1
      · have hr : Hid (decide ((s.natAbs : Int) = 1) = true) := Lib.hid (by simp; omega)
        go_enter Try.func70, Try.ntmps70
        go_wp2_with fail
        have B0 := Below.alloc (Below.refl w.heap.size w) (Nat.le_refl _) (.cells #[.int .i64 a, .int .i64 b, .int .i64 c, .int .i64 d, .int .i64 x, .int .i64 y] 37)
        refine (KW.out _).mono ?_; rintro e w2 ⟨rfl, hb2⟩
        have B2 := B0.trans (hb2.mono B0.size)
        clear hb2 B0
        go_wp2_with fail
        obtain ⟨W3, hW3⟩ : ∃ W3, W3 = (w2.alloc (.cells #[.int .i64 a, .int .i64 b, .int .i64 c, .int .i64 d, .int .i64 x, .int .i64 y] 89)) := ⟨_, rfl⟩
        rw [← hW3]
        have yW30_0 : W3.cell? ⟨w2.heap.size, 0, none⟩ = some (.int .i64 a) := by rw [hW3]; go_simp
        have yW30_1 : W3.cell? ⟨w2.heap.size, 1, none⟩ = some (.int .i64 b) := by rw [hW3]; go_simp
        have yW30_2 : W3.cell? ⟨w2.heap.size, 2, none⟩ = some (.int .i64 c) := by rw [hW3]; go_simp
        have yW30_3 : W3.cell? ⟨w2.heap.size, 3, none⟩ = some (.int .i64 d) := by rw [hW3]; go_simp
        have yW30_4 : W3.cell? ⟨w2.heap.size, 4, none⟩ = some (.int .i64 x) := by rw [hW3]; go_simp
        have yW30_5 : W3.cell? ⟨w2.heap.size, 5, none⟩ = some (.int .i64 y) := by rw [hW3]; go_simp
        have fW30 : ∀ o, W3.frozen? ⟨w2.heap.size, o, none⟩ = false := by intro o; rw [hW3]; (repeat rw [frozen?_alloc_cells]); simp [World.frozen?]
        have zW30 : w2.heap.size < W3.heap.size := by rw [hW3]; simp <;> omega
        have BW3 : Below w2.heap.size w2 W3 := by rw [hW3]; exact (Below.alloc (Below.refl _ _) (by simp <;> omega) _)
        have eW3 : Hid (W3.heap.size = w2.heap.size + 1) := Lib.hid (by rw [hW3]; simp)
        clear hW3
        refine wp_region_B (fun W => Below W3.heap.size W3 W) (by kernel_rfl) (by repeat (first | exact Below.refl _ _ | apply Below.drew)) ?_
        first | refine wpB_skip 0 rfl (by kernel_rfl) (by kernel_rfl) (by kernel_rfl) (by rfl) ?_ | (refine wpB_text 0 (v := ?_) rfl (by kernel_rfl) (by kernel_rfl) (by kernel_rfl) (by rfl) (fun W hW => ?_) ?_; rotate_left; (have k1 := hW; obtain ⟨hc1, hf1⟩ := bcell k1; have he := EQ.out W; go_simp; refine comes_v ?_; exact k1))
        (try simp only [Act.put, List.setIfInBounds_toArray, List.set_cons_zero, List.set_cons_succ])
        first | refine wpB_skip 1 rfl (by kernel_rfl) (by kernel_rfl) (by kernel_rfl) (by rfl) ?_ | (refine wpB_text 1 (v := ?_) rfl (by kernel_rfl) (by kernel_rfl) (by kernel_rfl) (by rfl) (fun W hW => ?_) ?_; rotate_left; (have k1 := hW; obtain ⟨hc1, hf1⟩ := bcell k1; have he := EQ.out W; go_simp; refine comes_v ?_; exact k1))
        (try simp only [Act.put, List.setIfInBounds_toArray, List.set_cons_zero, List.set_cons_succ])
        first | refine wpB_skip 2 rfl (by kernel_rfl) (by kernel_rfl) (by kernel_rfl) (by rfl) ?_ | (refine wpB_text 2 (v := .agg #[.int .i64 a, .int .i64 b, .int .i64 c, .int .i64 d, .int .i64 x, .int .i64 y]) rfl (by kernel_rfl) (by kernel_rfl) (by kernel_rfl) (by rfl) (fun W hW => ?_) ?_; (have k1 := hW; obtain ⟨hc1, hf1⟩ := bcell k1; have he := EQ.out W; go_simp; exact comes_c ( KC.out _) (fun wn hbn => btk k1 hbn)))
        (try simp only [Act.put, List.setIfInBounds_toArray, List.set_cons_zero, List.set_cons_succ])
        first | refine wpB_skip 3 rfl (by kernel_rfl) (by kernel_rfl) (by kernel_rfl) (by rfl) ?_ | (refine wpB_text 3 (v := ?_) rfl (by kernel_rfl) (by kernel_rfl) (by kernel_rfl) (by rfl) (fun W hW => ?_) ?_; rotate_left; (have k1 := hW; obtain ⟨hc1, hf1⟩ := bcell k1; have he := EQ.out W; go_simp; refine comes_v ?_; exact k1))
        (try simp only [Act.put, List.setIfInBounds_toArray, List.set_cons_zero, List.set_cons_succ])
        refine wpB_done (by kernel_rfl) ?_ _
        intro W hW; have k1 := hW
        have B4 := B2.trans ((BW3.mono B2.size).trans (k1.mono (by have := BW3.size; have := B2.size; omega)))
        clear B2 BW3
        obtain ⟨z4, c0, c1, c2, c3, c4, c5⟩ := at6_below (B := W3.heap.size) (w := W3) (w' := W) ⟨zW30, yW30_0, yW30_1, yW30_2, yW30_3, yW30_4, yW30_5⟩ k1 zW30
        go_wp2_with fail
        refine (KS.out _).mono ?_; rintro e w5 ⟨rfl, hb5⟩
        have B5 := B4.trans (hb5.mono B4.size)
        go_wp2_with fail
        go_ret
        exact ⟨ret_bool hr.out.symm, B5⟩
      · have hr : Hid (decide ((s.natAbs : Int) = 1) = false) := Lib.hid (by simp; omega)
        go_enter Try.func70, Try.ntmps70
        go_wp2_with fail
        have B0 := Below.alloc (Below.refl w.heap.size w) (Nat.le_refl _) (.cells #[.int .i64 a, .int .i64 b, .int .i64 c, .int .i64 d, .int .i64 x, .int .i64 y] 37)
        refine (KW.out _).mono ?_; rintro e w2 ⟨rfl, hb2⟩
        have B2 := B0.trans (hb2.mono B0.size)
        clear hb2 B0
        go_wp2_with fail
        obtain ⟨W3, hW3⟩ : ∃ W3, W3 = (w2.alloc (.cells #[.int .i64 a, .int .i64 b, .int .i64 c, .int .i64 d, .int .i64 x, .int .i64 y] 89)) := ⟨_, rfl⟩
        rw [← hW3]
        have yW30_0 : W3.cell? ⟨w2.heap.size, 0, none⟩ = some (.int .i64 a) := by rw [hW3]; go_simp
        have yW30_1 : W3.cell? ⟨w2.heap.size, 1, none⟩ = some (.int .i64 b) := by rw [hW3]; go_simp
        have yW30_2 : W3.cell? ⟨w2.heap.size, 2, none⟩ = some (.int .i64 c) := by rw [hW3]; go_simp
        have yW30_3 : W3.cell? ⟨w2.heap.size, 3, none⟩ = some (.int .i64 d) := by rw [hW3]; go_simp
        have yW30_4 : W3.cell? ⟨w2.heap.size, 4, none⟩ = some (.int .i64 x) := by rw [hW3]; go_simp
        have yW30_5 : W3.cell? ⟨w2.heap.size, 5, none⟩ = some (.int .i64 y) := by rw [hW3]; go_simp
        have fW30 : ∀ o, W3.frozen? ⟨w2.heap.size, o, none⟩ = false := by intro o; rw [hW3]; (repeat rw [frozen?_alloc_cells]); simp [World.frozen?]
        have zW30 : w2.heap.size < W3.heap.size := by rw [hW3]; simp <;> omega
        have BW3 : Below w2.heap.size w2 W3 := by rw [hW3]; exact (Below.alloc (Below.refl _ _) (by simp <;> omega) _)
        have eW3 : Hid (W3.heap.size = w2.heap.size + 1) := Lib.hid (by rw [hW3]; simp)
        clear hW3
        refine wp_region_B (fun W => Below W3.heap.size W3 W) (by kernel_rfl) (by repeat (first | exact Below.refl _ _ | apply Below.drew)) ?_
        first | refine wpB_skip 0 rfl (by kernel_rfl) (by kernel_rfl) (by kernel_rfl) (by rfl) ?_ | (refine wpB_text 0 (v := ?_) rfl (by kernel_rfl) (by kernel_rfl) (by kernel_rfl) (by rfl) (fun W hW => ?_) ?_; rotate_left; (have k1 := hW; obtain ⟨hc1, hf1⟩ := bcell k1; have he := EQ.out W; go_simp; refine comes_v ?_; exact k1))
        (try simp only [Act.put, List.setIfInBounds_toArray, List.set_cons_zero, List.set_cons_succ])
        first | refine wpB_skip 1 rfl (by kernel_rfl) (by kernel_rfl) (by kernel_rfl) (by rfl) ?_ | (refine wpB_text 1 (v := ?_) rfl (by kernel_rfl) (by kernel_rfl) (by kernel_rfl) (by rfl) (fun W hW => ?_) ?_; rotate_left; (have k1 := hW; obtain ⟨hc1, hf1⟩ := bcell k1; have he := EQ.out W; go_simp; refine comes_v ?_; exact k1))
        (try simp only [Act.put, List.setIfInBounds_toArray, List.set_cons_zero, List.set_cons_succ])
        first | refine wpB_skip 2 rfl (by kernel_rfl) (by kernel_rfl) (by kernel_rfl) (by rfl) ?_ | (refine wpB_text 2 (v := .agg #[.int .i64 a, .int .i64 b, .int .i64 c, .int .i64 d, .int .i64 x, .int .i64 y]) rfl (by kernel_rfl) (by kernel_rfl) (by kernel_rfl) (by rfl) (fun W hW => ?_) ?_; (have k1 := hW; obtain ⟨hc1, hf1⟩ := bcell k1; have he := EQ.out W; go_simp; exact comes_c ( KC.out _) (fun wn hbn => btk k1 hbn)))
        (try simp only [Act.put, List.setIfInBounds_toArray, List.set_cons_zero, List.set_cons_succ])
        first | refine wpB_skip 3 rfl (by kernel_rfl) (by kernel_rfl) (by kernel_rfl) (by rfl) ?_ | (refine wpB_text 3 (v := ?_) rfl (by kernel_rfl) (by kernel_rfl) (by kernel_rfl) (by rfl) (fun W hW => ?_) ?_; rotate_left; (have k1 := hW; obtain ⟨hc1, hf1⟩ := bcell k1; have he := EQ.out W; go_simp; refine comes_v ?_; exact k1))
        (try simp only [Act.put, List.setIfInBounds_toArray, List.set_cons_zero, List.set_cons_succ])
        refine wpB_done (by kernel_rfl) ?_ _
        intro W hW; have k1 := hW
        have B4 := B2.trans ((BW3.mono B2.size).trans (k1.mono (by have := BW3.size; have := B2.size; omega)))
        clear B2 BW3
        obtain ⟨z4, c0, c1, c2, c3, c4, c5⟩ := at6_below (B := W3.heap.size) (w := W3) (w' := W) ⟨zW30, yW30_0, yW30_1, yW30_2, yW30_3, yW30_4, yW30_5⟩ k1 zW30
        go_wp2_with fail
        refine (KS.out _).mono ?_; rintro e w5 ⟨rfl, hb5⟩
        have B5 := B4.trans (hb5.mono B4.size)
        go_wp2_with fail
        go_ret
        exact ⟨ret_bool (by rw [hr.out]; simp [s1, s2]), B5⟩
  · have hn := mt (boxM_clip a b c d x y).2 hb
    have e : goodM a b c d x y = false := by unfold goodM; rw [show boxM a b c d x y = false by simpa using hb]; rfl
    rw [e]
    clear e hb
    generalize clip 20 a = a' at *
    generalize clip 20 b = b' at *
    generalize clip 20 c = c' at *
    generalize clip 20 d = d' at *
    generalize clip 80 x = x' at *
    generalize clip 80 y = y' at *
    have hn2 : ¬ (a = a' ∧ b = b' ∧ c = c' ∧ d = d' ∧ x = x' ∧ y = y') := fun ⟨h1, h2, h3, h4, h5, h6⟩ => hn ⟨h1.symm, h2.symm, h3.symm, h4.symm, h5.symm, h6.symm⟩
    have EQ := Lib.hid (fun W => (eq6 a b c d x y a' b' c' d' x' y' W).trans (by rw [decide_eq_false hn2] : _ = Result.ok false W))
    clear hn hn2
    go_enter Try.func70, Try.ntmps70
    go_wp2_with fail
    have B0 := Below.alloc (Below.refl w.heap.size w) (Nat.le_refl _) (.cells #[.int .i64 a, .int .i64 b, .int .i64 c, .int .i64 d, .int .i64 x, .int .i64 y] 37)
    refine (KW.out _).mono ?_; rintro e w2 ⟨rfl, hb2⟩
    have B2 := B0.trans (hb2.mono B0.size)
    clear hb2 B0
    go_wp2_with fail
    obtain ⟨W3, hW3⟩ : ∃ W3, W3 = (w2.alloc (.cells #[.int .i64 a, .int .i64 b, .int .i64 c, .int .i64 d, .int .i64 x, .int .i64 y] 89)) := ⟨_, rfl⟩
    rw [← hW3]
    have yW30_0 : W3.cell? ⟨w2.heap.size, 0, none⟩ = some (.int .i64 a) := by rw [hW3]; go_simp
    have yW30_1 : W3.cell? ⟨w2.heap.size, 1, none⟩ = some (.int .i64 b) := by rw [hW3]; go_simp
    have yW30_2 : W3.cell? ⟨w2.heap.size, 2, none⟩ = some (.int .i64 c) := by rw [hW3]; go_simp
    have yW30_3 : W3.cell? ⟨w2.heap.size, 3, none⟩ = some (.int .i64 d) := by rw [hW3]; go_simp
    have yW30_4 : W3.cell? ⟨w2.heap.size, 4, none⟩ = some (.int .i64 x) := by rw [hW3]; go_simp
    have yW30_5 : W3.cell? ⟨w2.heap.size, 5, none⟩ = some (.int .i64 y) := by rw [hW3]; go_simp
    have fW30 : ∀ o, W3.frozen? ⟨w2.heap.size, o, none⟩ = false := by intro o; rw [hW3]; (repeat rw [frozen?_alloc_cells]); simp [World.frozen?]
    have zW30 : w2.heap.size < W3.heap.size := by rw [hW3]; simp <;> omega
    have BW3 : Below w2.heap.size w2 W3 := by rw [hW3]; exact (Below.alloc (Below.refl _ _) (by simp <;> omega) _)
    have eW3 : Hid (W3.heap.size = w2.heap.size + 1) := Lib.hid (by rw [hW3]; simp)
    clear hW3
    refine wp_region_B (fun W => Below W3.heap.size W3 W) (by kernel_rfl) (by repeat (first | exact Below.refl _ _ | apply Below.drew)) ?_
    first | refine wpB_skip 0 rfl (by kernel_rfl) (by kernel_rfl) (by kernel_rfl) (by rfl) ?_ | (refine wpB_text 0 (v := ?_) rfl (by kernel_rfl) (by kernel_rfl) (by kernel_rfl) (by rfl) (fun W hW => ?_) ?_; rotate_left; (have k1 := hW; obtain ⟨hc1, hf1⟩ := bcell k1; have he := EQ.out W; go_simp; refine comes_v ?_; exact k1))
    (try simp only [Act.put, List.setIfInBounds_toArray, List.set_cons_zero, List.set_cons_succ])
    first | refine wpB_skip 1 rfl (by kernel_rfl) (by kernel_rfl) (by kernel_rfl) (by rfl) ?_ | (refine wpB_text 1 (v := ?_) rfl (by kernel_rfl) (by kernel_rfl) (by kernel_rfl) (by rfl) (fun W hW => ?_) ?_; rotate_left; (have k1 := hW; obtain ⟨hc1, hf1⟩ := bcell k1; have he := EQ.out W; go_simp; refine comes_v ?_; exact k1))
    (try simp only [Act.put, List.setIfInBounds_toArray, List.set_cons_zero, List.set_cons_succ])
    first | refine wpB_skip 2 rfl (by kernel_rfl) (by kernel_rfl) (by kernel_rfl) (by rfl) ?_ | (refine wpB_text 2 (v := .agg #[.int .i64 a', .int .i64 b', .int .i64 c', .int .i64 d', .int .i64 x', .int .i64 y']) rfl (by kernel_rfl) (by kernel_rfl) (by kernel_rfl) (by rfl) (fun W hW => ?_) ?_; (have k1 := hW; obtain ⟨hc1, hf1⟩ := bcell k1; have he := EQ.out W; go_simp; exact comes_c ( KC.out _) (fun wn hbn => btk k1 hbn)))
    (try simp only [Act.put, List.setIfInBounds_toArray, List.set_cons_zero, List.set_cons_succ])
    first | refine wpB_skip 3 rfl (by kernel_rfl) (by kernel_rfl) (by kernel_rfl) (by rfl) ?_ | (refine wpB_text 3 (v := ?_) rfl (by kernel_rfl) (by kernel_rfl) (by kernel_rfl) (by rfl) (fun W hW => ?_) ?_; rotate_left; (have k1 := hW; obtain ⟨hc1, hf1⟩ := bcell k1; have he := EQ.out W; go_simp; refine comes_v ?_; exact k1))
    (try simp only [Act.put, List.setIfInBounds_toArray, List.set_cons_zero, List.set_cons_succ])
    refine wpB_done (by kernel_rfl) ?_ _
    intro W hW; have k1 := hW
    have B4 := B2.trans ((BW3.mono B2.size).trans (k1.mono (by have := BW3.size; have := B2.size; omega)))
    clear B2 BW3
    go_wp2_with fail
    go_ret
    exact ⟨rfl, B4⟩
end Go.Proofs.Ytieimijkkjhegaa
