/- contracts: a move if it is one; shears; pegs that are brought, on both sides -/
import Derived.Test.YtjlihafpnppchaaMf
namespace Go.Proofs.Ytjlihafpnppchaa
open Go.ChangeShapes Go.WideShapes Go.ChangeAt Go.RowKit Go.Joins
set_option linter.unusedVariables false
set_option linter.unusedSimpArgs false
theorem at2_set0 {w : World} {g : Nat} {a b : Int} (h : g < w.heap.size ∧ w.cell? ⟨g, 0, none⟩ = some (.int .i64 a) ∧ w.cell? ⟨g, 1, none⟩ = some (.int .i64 b)) (v : Int) :
    g < (w.setCell ⟨g, 0, none⟩ (.int .i64 v)).heap.size ∧ (w.setCell ⟨g, 0, none⟩ (.int .i64 v)).cell? ⟨g, 0, none⟩ = some (.int .i64 v) ∧ (w.setCell ⟨g, 0, none⟩ (.int .i64 v)).cell? ⟨g, 1, none⟩ = some (.int .i64 b) := by
  obtain ⟨h0, h1, h2⟩ := h
  exact ⟨by simpa [World.setCell] using h0, World.cell?_setCell_same w _ _ h1, by rw [World.cell?_setCell_other w _ _ _ (fun e => by injection e with e1 e2; cases e2)]; exact h2⟩
theorem at2_set1 {w : World} {g : Nat} {a b : Int} (h : g < w.heap.size ∧ w.cell? ⟨g, 0, none⟩ = some (.int .i64 a) ∧ w.cell? ⟨g, 1, none⟩ = some (.int .i64 b)) (v : Int) :
    g < (w.setCell ⟨g, 1, none⟩ (.int .i64 v)).heap.size ∧ (w.setCell ⟨g, 1, none⟩ (.int .i64 v)).cell? ⟨g, 0, none⟩ = some (.int .i64 a) ∧ (w.setCell ⟨g, 1, none⟩ (.int .i64 v)).cell? ⟨g, 1, none⟩ = some (.int .i64 v) := by
  obtain ⟨h0, h1, h2⟩ := h
  exact ⟨by simpa [World.setCell] using h0, by rw [World.cell?_setCell_other w _ _ _ (fun e => by injection e with e1 e2; cases e2)]; exact h1, World.cell?_setCell_same w _ _ h2⟩
set_option maxHeartbeats 1000000 in
theorem mvIf_any (a b c d x y : Int) (w : World) :
    Calls Try.prog 44 #[.agg #[.int .i64 a, .int .i64 b, .int .i64 c, .int .i64 d, .int .i64 x, .int .i64 y]] w fun e w' => e = .returned (.tuple #[.agg #[.int .i64 (bsel (goodM a b c d x y) a), .int .i64 (bsel (goodM a b c d x y) b), .int .i64 (bsel (goodM a b c d x y) c), .int .i64 (bsel (goodM a b c d x y) d), .int .i64 (bsel (goodM a b c d x y) x), .int .i64 (bsel (goodM a b c d x y) y)], .bool (goodM a b c d x y)]) ∧ Below w.heap.size w w' := by
  have K := Lib.hid (fun W => mvGood_any a b c d x y W)
  by_cases hg : goodM a b c d x y = true
  · rw [hg] at K ⊢
    clear hg
    go_enter Try.func44, Try.ntmps44
    go_wp2_with fail
    obtain ⟨W0, hW0⟩ : ∃ W0, W0 = ((w.alloc (.cells #[.int .i64 a, .int .i64 b, .int .i64 c, .int .i64 d, .int .i64 x, .int .i64 y] 25)).alloc (.cells #[.int .i64 0, .int .i64 0, .int .i64 0, .int .i64 0, .int .i64 0, .int .i64 0] 25)) := ⟨_, rfl⟩
    rw [← hW0]
    have yW00_0 : W0.cell? ⟨w.heap.size, 0, none⟩ = some (.int .i64 a) := by rw [hW0]; go_simp
    have yW00_1 : W0.cell? ⟨w.heap.size, 1, none⟩ = some (.int .i64 b) := by rw [hW0]; go_simp
    have yW00_2 : W0.cell? ⟨w.heap.size, 2, none⟩ = some (.int .i64 c) := by rw [hW0]; go_simp
    have yW00_3 : W0.cell? ⟨w.heap.size, 3, none⟩ = some (.int .i64 d) := by rw [hW0]; go_simp
    have yW00_4 : W0.cell? ⟨w.heap.size, 4, none⟩ = some (.int .i64 x) := by rw [hW0]; go_simp
    have yW00_5 : W0.cell? ⟨w.heap.size, 5, none⟩ = some (.int .i64 y) := by rw [hW0]; go_simp
    have fW00 : ∀ o, W0.frozen? ⟨w.heap.size, o, none⟩ = false := by intro o; rw [hW0]; (repeat rw [frozen?_alloc_cells]); simp [World.frozen?]
    have zW00 : w.heap.size < W0.heap.size := by rw [hW0]; simp <;> omega
    have yW01_0 : W0.cell? ⟨w.heap.size + 1, 0, none⟩ = some (.int .i64 0) := by rw [hW0]; go_simp
    have yW01_1 : W0.cell? ⟨w.heap.size + 1, 1, none⟩ = some (.int .i64 0) := by rw [hW0]; go_simp
    have yW01_2 : W0.cell? ⟨w.heap.size + 1, 2, none⟩ = some (.int .i64 0) := by rw [hW0]; go_simp
    have yW01_3 : W0.cell? ⟨w.heap.size + 1, 3, none⟩ = some (.int .i64 0) := by rw [hW0]; go_simp
    have yW01_4 : W0.cell? ⟨w.heap.size + 1, 4, none⟩ = some (.int .i64 0) := by rw [hW0]; go_simp
    have yW01_5 : W0.cell? ⟨w.heap.size + 1, 5, none⟩ = some (.int .i64 0) := by rw [hW0]; go_simp
    have fW01 : ∀ o, W0.frozen? ⟨w.heap.size + 1, o, none⟩ = false := by intro o; rw [hW0]; (repeat rw [frozen?_alloc_cells]); simp [World.frozen?]
    have zW01 : w.heap.size + 1 < W0.heap.size := by rw [hW0]; simp <;> omega
    have BW0 : Below w.heap.size w W0 := by rw [hW0]; exact (Below.alloc (Below.alloc (Below.refl _ _) (by simp <;> omega) _) (by simp <;> omega) _)
    have eW0 : Hid (W0.heap.size = w.heap.size + 2) := Lib.hid (by rw [hW0]; simp)
    clear hW0
    have E6 := Lib.hid (show Own6 W0 (w.heap.size) a b c d x y from ⟨⟨zW00, yW00_0, yW00_1, yW00_2, yW00_3, yW00_4, yW00_5⟩, fW00⟩)
    have R6 := Lib.hid (show Own6 W0 (w.heap.size + 1) 0 0 0 0 0 0 from ⟨⟨zW01, yW01_0, yW01_1, yW01_2, yW01_3, yW01_4, yW01_5⟩, fW01⟩)
    clear zW00 fW00 yW00_0 yW00_1 yW00_2 yW00_3 yW00_4 yW00_5 zW01 fW01 yW01_0 yW01_1 yW01_2 yW01_3 yW01_4 yW01_5 eW0
    refine (K.out _).mono ?_; rintro e w1 ⟨rfl, hbw1⟩
    have Bw1 := BW0.trans (hbw1.mono BW0.size)
    have E6 := Lib.hid (own6_below E6.out hbw1 E6.out.1.1)
    have R6 := Lib.hid (own6_below R6.out hbw1 R6.out.1.1)
    clear hbw1 BW0
    have R7 := Lib.hid (at6_set5 (at6_set4 (at6_set3 (at6_set2 (at6_set1 (at6_set0 (R6.out.1) a) b) c) d) x) y)
    have B7 := Lib.hid ((((((Bw1.setCell (p := ⟨w.heap.size + 1, 0, none⟩) (Nat.le_add_right _ _) (.int .i64 a)).setCell (p := ⟨w.heap.size + 1, 1, none⟩) (Nat.le_add_right _ _) (.int .i64 b)).setCell (p := ⟨w.heap.size + 1, 2, none⟩) (Nat.le_add_right _ _) (.int .i64 c)).setCell (p := ⟨w.heap.size + 1, 3, none⟩) (Nat.le_add_right _ _) (.int .i64 d)).setCell (p := ⟨w.heap.size + 1, 4, none⟩) (Nat.le_add_right _ _) (.int .i64 x)).setCell (p := ⟨w.heap.size + 1, 5, none⟩) (Nat.le_add_right _ _) (.int .i64 y))
    obtain ⟨⟨zp, cp0, cp1, cp2, cp3, cp4, cp5⟩, fp⟩ := E6.out
    unfold Fz at fp
    obtain ⟨⟨zr, cr0, cr1, cr2, cr3, cr4, cr5⟩, fr⟩ := R6.out
    unfold Fz at fr
    go_wp2_with fail
    have R8 := R7.out
    have B8 := B7.out
    clear R7 B7
    revert R8 B8
    generalize ((((((w1.setCell ⟨w.heap.size + 1, 0, none⟩ (.int .i64 a)).setCell ⟨w.heap.size + 1, 1, none⟩ (.int .i64 b)).setCell ⟨w.heap.size + 1, 2, none⟩ (.int .i64 c)).setCell ⟨w.heap.size + 1, 3, none⟩ (.int .i64 d)).setCell ⟨w.heap.size + 1, 4, none⟩ (.int .i64 x)).setCell ⟨w.heap.size + 1, 5, none⟩ (.int .i64 y)) = W9
    intro R8 B8
    obtain ⟨zz, s0, s1, s2, s3, s4, s5⟩ := R8
    exact bodyPost_ret (v := .tuple #[.agg #[.int .i64 a, .int .i64 b, .int .i64 c, .int .i64 d, .int .i64 x, .int .i64 y], .bool true]) (by simp [results, Try.results44, go_sem, s0, s1, s2, s3, s4, s5]) rfl ⟨rfl, B8⟩
  · have hg : goodM a b c d x y = false := by simpa using hg
    rw [hg] at K ⊢
    clear hg
    go_enter Try.func44, Try.ntmps44
    go_wp2_with fail
    obtain ⟨W0, hW0⟩ : ∃ W0, W0 = ((w.alloc (.cells #[.int .i64 a, .int .i64 b, .int .i64 c, .int .i64 d, .int .i64 x, .int .i64 y] 25)).alloc (.cells #[.int .i64 0, .int .i64 0, .int .i64 0, .int .i64 0, .int .i64 0, .int .i64 0] 25)) := ⟨_, rfl⟩
    rw [← hW0]
    have yW00_0 : W0.cell? ⟨w.heap.size, 0, none⟩ = some (.int .i64 a) := by rw [hW0]; go_simp
    have yW00_1 : W0.cell? ⟨w.heap.size, 1, none⟩ = some (.int .i64 b) := by rw [hW0]; go_simp
    have yW00_2 : W0.cell? ⟨w.heap.size, 2, none⟩ = some (.int .i64 c) := by rw [hW0]; go_simp
    have yW00_3 : W0.cell? ⟨w.heap.size, 3, none⟩ = some (.int .i64 d) := by rw [hW0]; go_simp
    have yW00_4 : W0.cell? ⟨w.heap.size, 4, none⟩ = some (.int .i64 x) := by rw [hW0]; go_simp
    have yW00_5 : W0.cell? ⟨w.heap.size, 5, none⟩ = some (.int .i64 y) := by rw [hW0]; go_simp
    have fW00 : ∀ o, W0.frozen? ⟨w.heap.size, o, none⟩ = false := by intro o; rw [hW0]; (repeat rw [frozen?_alloc_cells]); simp [World.frozen?]
    have zW00 : w.heap.size < W0.heap.size := by rw [hW0]; simp <;> omega
    have yW01_0 : W0.cell? ⟨w.heap.size + 1, 0, none⟩ = some (.int .i64 0) := by rw [hW0]; go_simp
    have yW01_1 : W0.cell? ⟨w.heap.size + 1, 1, none⟩ = some (.int .i64 0) := by rw [hW0]; go_simp
    have yW01_2 : W0.cell? ⟨w.heap.size + 1, 2, none⟩ = some (.int .i64 0) := by rw [hW0]; go_simp
    have yW01_3 : W0.cell? ⟨w.heap.size + 1, 3, none⟩ = some (.int .i64 0) := by rw [hW0]; go_simp
    have yW01_4 : W0.cell? ⟨w.heap.size + 1, 4, none⟩ = some (.int .i64 0) := by rw [hW0]; go_simp
    have yW01_5 : W0.cell? ⟨w.heap.size + 1, 5, none⟩ = some (.int .i64 0) := by rw [hW0]; go_simp
    have fW01 : ∀ o, W0.frozen? ⟨w.heap.size + 1, o, none⟩ = false := by intro o; rw [hW0]; (repeat rw [frozen?_alloc_cells]); simp [World.frozen?]
    have zW01 : w.heap.size + 1 < W0.heap.size := by rw [hW0]; simp <;> omega
    have BW0 : Below w.heap.size w W0 := by rw [hW0]; exact (Below.alloc (Below.alloc (Below.refl _ _) (by simp <;> omega) _) (by simp <;> omega) _)
    have eW0 : Hid (W0.heap.size = w.heap.size + 2) := Lib.hid (by rw [hW0]; simp)
    clear hW0
    have E6 := Lib.hid (show Own6 W0 (w.heap.size) a b c d x y from ⟨⟨zW00, yW00_0, yW00_1, yW00_2, yW00_3, yW00_4, yW00_5⟩, fW00⟩)
    have R6 := Lib.hid (show Own6 W0 (w.heap.size + 1) 0 0 0 0 0 0 from ⟨⟨zW01, yW01_0, yW01_1, yW01_2, yW01_3, yW01_4, yW01_5⟩, fW01⟩)
    clear zW00 fW00 yW00_0 yW00_1 yW00_2 yW00_3 yW00_4 yW00_5 zW01 fW01 yW01_0 yW01_1 yW01_2 yW01_3 yW01_4 yW01_5 eW0
    refine (K.out _).mono ?_; rintro e w1 ⟨rfl, hbw1⟩
    have Bw1 := BW0.trans (hbw1.mono BW0.size)
    have E6 := Lib.hid (own6_below E6.out hbw1 E6.out.1.1)
    have R6 := Lib.hid (own6_below R6.out hbw1 R6.out.1.1)
    clear hbw1 BW0
    have R7 := Lib.hid (at6_set5 (at6_set4 (at6_set3 (at6_set2 (at6_set1 (at6_set0 (R6.out.1) 0) 0) 0) 0) 0) 0)
    have B7 := Lib.hid ((((((Bw1.setCell (p := ⟨w.heap.size + 1, 0, none⟩) (Nat.le_add_right _ _) (.int .i64 0)).setCell (p := ⟨w.heap.size + 1, 1, none⟩) (Nat.le_add_right _ _) (.int .i64 0)).setCell (p := ⟨w.heap.size + 1, 2, none⟩) (Nat.le_add_right _ _) (.int .i64 0)).setCell (p := ⟨w.heap.size + 1, 3, none⟩) (Nat.le_add_right _ _) (.int .i64 0)).setCell (p := ⟨w.heap.size + 1, 4, none⟩) (Nat.le_add_right _ _) (.int .i64 0)).setCell (p := ⟨w.heap.size + 1, 5, none⟩) (Nat.le_add_right _ _) (.int .i64 0))
    obtain ⟨⟨zp, cp0, cp1, cp2, cp3, cp4, cp5⟩, fp⟩ := E6.out
    unfold Fz at fp
    obtain ⟨⟨zr, cr0, cr1, cr2, cr3, cr4, cr5⟩, fr⟩ := R6.out
    unfold Fz at fr
    go_wp2_with fail
    have R8 := R7.out
    have B8 := B7.out
    clear R7 B7
    revert R8 B8
    generalize ((((((w1.setCell ⟨w.heap.size + 1, 0, none⟩ (.int .i64 0)).setCell ⟨w.heap.size + 1, 1, none⟩ (.int .i64 0)).setCell ⟨w.heap.size + 1, 2, none⟩ (.int .i64 0)).setCell ⟨w.heap.size + 1, 3, none⟩ (.int .i64 0)).setCell ⟨w.heap.size + 1, 4, none⟩ (.int .i64 0)).setCell ⟨w.heap.size + 1, 5, none⟩ (.int .i64 0)) = W9
    intro R8 B8
    obtain ⟨zz, s0, s1, s2, s3, s4, s5⟩ := R8
    exact bodyPost_ret (v := .tuple #[.agg #[.int .i64 0, .int .i64 0, .int .i64 0, .int .i64 0, .int .i64 0, .int .i64 0], .bool false]) (by simp [results, Try.results44, go_sem, s0, s1, s2, s3, s4, s5]) rfl ⟨rfl, B8⟩
set_option maxHeartbeats 1000000 in
theorem asMove_any (a b c d x y : Int) (w : World) :
    Calls Try.prog 43 #[.agg #[.int .i64 a, .int .i64 b, .int .i64 c, .int .i64 d, .int .i64 x, .int .i64 y]] w fun e w' => e = .returned (.tuple #[.agg #[.int .i64 (bsel (goodM a b c d x y) a), .int .i64 (bsel (goodM a b c d x y) b), .int .i64 (bsel (goodM a b c d x y) c), .int .i64 (bsel (goodM a b c d x y) d), .int .i64 (bsel (goodM a b c d x y) x), .int .i64 (bsel (goodM a b c d x y) y)], .bool (goodM a b c d x y)]) ∧ Below w.heap.size w w' := by
  have K := Lib.hid (fun W => implIsMove_any a b c d x y W)
  by_cases hg : goodM a b c d x y = true
  · rw [hg] at K ⊢
    clear hg
    go_enter Try.func43, Try.ntmps43
    go_wp2_with fail
    obtain ⟨W0, hW0⟩ : ∃ W0, W0 = (((w.alloc (.cells #[.int .i64 a, .int .i64 b, .int .i64 c, .int .i64 d, .int .i64 x, .int .i64 y] 55)).alloc (.cells #[.int .i64 0, .int .i64 0, .int .i64 0, .int .i64 0, .int .i64 0, .int .i64 0] 25)).alloc (.cells #[.int .i64 a, .int .i64 b, .int .i64 c, .int .i64 d, .int .i64 x, .int .i64 y] 25)) := ⟨_, rfl⟩
    rw [← hW0]
    have yW00_0 : W0.cell? ⟨w.heap.size, 0, none⟩ = some (.int .i64 a) := by rw [hW0]; go_simp
    have yW00_1 : W0.cell? ⟨w.heap.size, 1, none⟩ = some (.int .i64 b) := by rw [hW0]; go_simp
    have yW00_2 : W0.cell? ⟨w.heap.size, 2, none⟩ = some (.int .i64 c) := by rw [hW0]; go_simp
    have yW00_3 : W0.cell? ⟨w.heap.size, 3, none⟩ = some (.int .i64 d) := by rw [hW0]; go_simp
    have yW00_4 : W0.cell? ⟨w.heap.size, 4, none⟩ = some (.int .i64 x) := by rw [hW0]; go_simp
    have yW00_5 : W0.cell? ⟨w.heap.size, 5, none⟩ = some (.int .i64 y) := by rw [hW0]; go_simp
    have fW00 : ∀ o, W0.frozen? ⟨w.heap.size, o, none⟩ = false := by intro o; rw [hW0]; (repeat rw [frozen?_alloc_cells]); simp [World.frozen?]
    have zW00 : w.heap.size < W0.heap.size := by rw [hW0]; simp <;> omega
    have yW01_0 : W0.cell? ⟨w.heap.size + 1, 0, none⟩ = some (.int .i64 0) := by rw [hW0]; go_simp
    have yW01_1 : W0.cell? ⟨w.heap.size + 1, 1, none⟩ = some (.int .i64 0) := by rw [hW0]; go_simp
    have yW01_2 : W0.cell? ⟨w.heap.size + 1, 2, none⟩ = some (.int .i64 0) := by rw [hW0]; go_simp
    have yW01_3 : W0.cell? ⟨w.heap.size + 1, 3, none⟩ = some (.int .i64 0) := by rw [hW0]; go_simp
    have yW01_4 : W0.cell? ⟨w.heap.size + 1, 4, none⟩ = some (.int .i64 0) := by rw [hW0]; go_simp
    have yW01_5 : W0.cell? ⟨w.heap.size + 1, 5, none⟩ = some (.int .i64 0) := by rw [hW0]; go_simp
    have fW01 : ∀ o, W0.frozen? ⟨w.heap.size + 1, o, none⟩ = false := by intro o; rw [hW0]; (repeat rw [frozen?_alloc_cells]); simp [World.frozen?]
    have zW01 : w.heap.size + 1 < W0.heap.size := by rw [hW0]; simp <;> omega
    have yW02_0 : W0.cell? ⟨w.heap.size + 2, 0, none⟩ = some (.int .i64 a) := by rw [hW0]; go_simp
    have yW02_1 : W0.cell? ⟨w.heap.size + 2, 1, none⟩ = some (.int .i64 b) := by rw [hW0]; go_simp
    have yW02_2 : W0.cell? ⟨w.heap.size + 2, 2, none⟩ = some (.int .i64 c) := by rw [hW0]; go_simp
    have yW02_3 : W0.cell? ⟨w.heap.size + 2, 3, none⟩ = some (.int .i64 d) := by rw [hW0]; go_simp
    have yW02_4 : W0.cell? ⟨w.heap.size + 2, 4, none⟩ = some (.int .i64 x) := by rw [hW0]; go_simp
    have yW02_5 : W0.cell? ⟨w.heap.size + 2, 5, none⟩ = some (.int .i64 y) := by rw [hW0]; go_simp
    have fW02 : ∀ o, W0.frozen? ⟨w.heap.size + 2, o, none⟩ = false := by intro o; rw [hW0]; (repeat rw [frozen?_alloc_cells]); simp [World.frozen?]
    have zW02 : w.heap.size + 2 < W0.heap.size := by rw [hW0]; simp <;> omega
    have BW0 : Below w.heap.size w W0 := by rw [hW0]; exact (Below.alloc (Below.alloc (Below.alloc (Below.refl _ _) (by simp <;> omega) _) (by simp <;> omega) _) (by simp <;> omega) _)
    have eW0 : Hid (W0.heap.size = w.heap.size + 3) := Lib.hid (by rw [hW0]; simp)
    clear hW0
    have E6 := Lib.hid (show Own6 W0 (w.heap.size + 2) a b c d x y from ⟨⟨zW02, yW02_0, yW02_1, yW02_2, yW02_3, yW02_4, yW02_5⟩, fW02⟩)
    have R6 := Lib.hid (show Own6 W0 (w.heap.size + 1) 0 0 0 0 0 0 from ⟨⟨zW01, yW01_0, yW01_1, yW01_2, yW01_3, yW01_4, yW01_5⟩, fW01⟩)
    clear zW00 fW00 yW00_0 yW00_1 yW00_2 yW00_3 yW00_4 yW00_5 zW01 fW01 yW01_0 yW01_1 yW01_2 yW01_3 yW01_4 yW01_5 zW02 fW02 yW02_0 yW02_1 yW02_2 yW02_3 yW02_4 yW02_5 eW0
    obtain ⟨⟨zp, cp0, cp1, cp2, cp3, cp4, cp5⟩, fp⟩ := E6.out
    unfold Fz at fp
    go_wp2_with fail
    clear zp fp cp0 cp1 cp2 cp3 cp4 cp5
    refine (K.out _).mono ?_; rintro e w1 ⟨rfl, hbw1⟩
    have Bw1 := BW0.trans (hbw1.mono BW0.size)
    have E6 := Lib.hid (own6_below E6.out hbw1 E6.out.1.1)
    have R6 := Lib.hid (own6_below R6.out hbw1 R6.out.1.1)
    clear hbw1 BW0
    have R7 := Lib.hid (at6_set5 (at6_set4 (at6_set3 (at6_set2 (at6_set1 (at6_set0 (R6.out.1) a) b) c) d) x) y)
    have B7 := Lib.hid ((((((Bw1.setCell (p := ⟨w.heap.size + 1, 0, none⟩) (Nat.le_add_right _ _) (.int .i64 a)).setCell (p := ⟨w.heap.size + 1, 1, none⟩) (Nat.le_add_right _ _) (.int .i64 b)).setCell (p := ⟨w.heap.size + 1, 2, none⟩) (Nat.le_add_right _ _) (.int .i64 c)).setCell (p := ⟨w.heap.size + 1, 3, none⟩) (Nat.le_add_right _ _) (.int .i64 d)).setCell (p := ⟨w.heap.size + 1, 4, none⟩) (Nat.le_add_right _ _) (.int .i64 x)).setCell (p := ⟨w.heap.size + 1, 5, none⟩) (Nat.le_add_right _ _) (.int .i64 y))
    obtain ⟨⟨zp, cp0, cp1, cp2, cp3, cp4, cp5⟩, fp⟩ := E6.out
    unfold Fz at fp
    obtain ⟨⟨zr, cr0, cr1, cr2, cr3, cr4, cr5⟩, fr⟩ := R6.out
    unfold Fz at fr
    go_wp2_with fail
    have R8 := R7.out
    have B8 := B7.out
    clear R7 B7
    revert R8 B8
    generalize ((((((w1.setCell ⟨w.heap.size + 1, 0, none⟩ (.int .i64 a)).setCell ⟨w.heap.size + 1, 1, none⟩ (.int .i64 b)).setCell ⟨w.heap.size + 1, 2, none⟩ (.int .i64 c)).setCell ⟨w.heap.size + 1, 3, none⟩ (.int .i64 d)).setCell ⟨w.heap.size + 1, 4, none⟩ (.int .i64 x)).setCell ⟨w.heap.size + 1, 5, none⟩ (.int .i64 y)) = W9
    intro R8 B8
    obtain ⟨zz, s0, s1, s2, s3, s4, s5⟩ := R8
    exact bodyPost_ret (v := .tuple #[.agg #[.int .i64 a, .int .i64 b, .int .i64 c, .int .i64 d, .int .i64 x, .int .i64 y], .bool true]) (by simp [results, Try.results43, go_sem, s0, s1, s2, s3, s4, s5]) rfl ⟨rfl, B8⟩
  · have hg : goodM a b c d x y = false := by simpa using hg
    rw [hg] at K ⊢
    clear hg
    go_enter Try.func43, Try.ntmps43
    go_wp2_with fail
    obtain ⟨W0, hW0⟩ : ∃ W0, W0 = (((w.alloc (.cells #[.int .i64 a, .int .i64 b, .int .i64 c, .int .i64 d, .int .i64 x, .int .i64 y] 55)).alloc (.cells #[.int .i64 0, .int .i64 0, .int .i64 0, .int .i64 0, .int .i64 0, .int .i64 0] 25)).alloc (.cells #[.int .i64 a, .int .i64 b, .int .i64 c, .int .i64 d, .int .i64 x, .int .i64 y] 25)) := ⟨_, rfl⟩
    rw [← hW0]
    have yW00_0 : W0.cell? ⟨w.heap.size, 0, none⟩ = some (.int .i64 a) := by rw [hW0]; go_simp
    have yW00_1 : W0.cell? ⟨w.heap.size, 1, none⟩ = some (.int .i64 b) := by rw [hW0]; go_simp
    have yW00_2 : W0.cell? ⟨w.heap.size, 2, none⟩ = some (.int .i64 c) := by rw [hW0]; go_simp
    have yW00_3 : W0.cell? ⟨w.heap.size, 3, none⟩ = some (.int .i64 d) := by rw [hW0]; go_simp
    have yW00_4 : W0.cell? ⟨w.heap.size, 4, none⟩ = some (.int .i64 x) := by rw [hW0]; go_simp
    have yW00_5 : W0.cell? ⟨w.heap.size, 5, none⟩ = some (.int .i64 y) := by rw [hW0]; go_simp
    have fW00 : ∀ o, W0.frozen? ⟨w.heap.size, o, none⟩ = false := by intro o; rw [hW0]; (repeat rw [frozen?_alloc_cells]); simp [World.frozen?]
    have zW00 : w.heap.size < W0.heap.size := by rw [hW0]; simp <;> omega
    have yW01_0 : W0.cell? ⟨w.heap.size + 1, 0, none⟩ = some (.int .i64 0) := by rw [hW0]; go_simp
    have yW01_1 : W0.cell? ⟨w.heap.size + 1, 1, none⟩ = some (.int .i64 0) := by rw [hW0]; go_simp
    have yW01_2 : W0.cell? ⟨w.heap.size + 1, 2, none⟩ = some (.int .i64 0) := by rw [hW0]; go_simp
    have yW01_3 : W0.cell? ⟨w.heap.size + 1, 3, none⟩ = some (.int .i64 0) := by rw [hW0]; go_simp
    have yW01_4 : W0.cell? ⟨w.heap.size + 1, 4, none⟩ = some (.int .i64 0) := by rw [hW0]; go_simp
    have yW01_5 : W0.cell? ⟨w.heap.size + 1, 5, none⟩ = some (.int .i64 0) := by rw [hW0]; go_simp
    have fW01 : ∀ o, W0.frozen? ⟨w.heap.size + 1, o, none⟩ = false := by intro o; rw [hW0]; (repeat rw [frozen?_alloc_cells]); simp [World.frozen?]
    have zW01 : w.heap.size + 1 < W0.heap.size := by rw [hW0]; simp <;> omega
    have yW02_0 : W0.cell? ⟨w.heap.size + 2, 0, none⟩ = some (.int .i64 a) := by rw [hW0]; go_simp
    have yW02_1 : W0.cell? ⟨w.heap.size + 2, 1, none⟩ = some (.int .i64 b) := by rw [hW0]; go_simp
    have yW02_2 : W0.cell? ⟨w.heap.size + 2, 2, none⟩ = some (.int .i64 c) := by rw [hW0]; go_simp
    have yW02_3 : W0.cell? ⟨w.heap.size + 2, 3, none⟩ = some (.int .i64 d) := by rw [hW0]; go_simp
    have yW02_4 : W0.cell? ⟨w.heap.size + 2, 4, none⟩ = some (.int .i64 x) := by rw [hW0]; go_simp
    have yW02_5 : W0.cell? ⟨w.heap.size + 2, 5, none⟩ = some (.int .i64 y) := by rw [hW0]; go_simp
    have fW02 : ∀ o, W0.frozen? ⟨w.heap.size + 2, o, none⟩ = false := by intro o; rw [hW0]; (repeat rw [frozen?_alloc_cells]); simp [World.frozen?]
    have zW02 : w.heap.size + 2 < W0.heap.size := by rw [hW0]; simp <;> omega
    have BW0 : Below w.heap.size w W0 := by rw [hW0]; exact (Below.alloc (Below.alloc (Below.alloc (Below.refl _ _) (by simp <;> omega) _) (by simp <;> omega) _) (by simp <;> omega) _)
    have eW0 : Hid (W0.heap.size = w.heap.size + 3) := Lib.hid (by rw [hW0]; simp)
    clear hW0
    have E6 := Lib.hid (show Own6 W0 (w.heap.size + 2) a b c d x y from ⟨⟨zW02, yW02_0, yW02_1, yW02_2, yW02_3, yW02_4, yW02_5⟩, fW02⟩)
    have R6 := Lib.hid (show Own6 W0 (w.heap.size + 1) 0 0 0 0 0 0 from ⟨⟨zW01, yW01_0, yW01_1, yW01_2, yW01_3, yW01_4, yW01_5⟩, fW01⟩)
    clear zW00 fW00 yW00_0 yW00_1 yW00_2 yW00_3 yW00_4 yW00_5 zW01 fW01 yW01_0 yW01_1 yW01_2 yW01_3 yW01_4 yW01_5 zW02 fW02 yW02_0 yW02_1 yW02_2 yW02_3 yW02_4 yW02_5 eW0
    obtain ⟨⟨zp, cp0, cp1, cp2, cp3, cp4, cp5⟩, fp⟩ := E6.out
    unfold Fz at fp
    go_wp2_with fail
    clear zp fp cp0 cp1 cp2 cp3 cp4 cp5
    refine (K.out _).mono ?_; rintro e w1 ⟨rfl, hbw1⟩
    have Bw1 := BW0.trans (hbw1.mono BW0.size)
    have E6 := Lib.hid (own6_below E6.out hbw1 E6.out.1.1)
    have R6 := Lib.hid (own6_below R6.out hbw1 R6.out.1.1)
    clear hbw1 BW0
    have R7 := Lib.hid (at6_set5 (at6_set4 (at6_set3 (at6_set2 (at6_set1 (at6_set0 (R6.out.1) 0) 0) 0) 0) 0) 0)
    have B7 := Lib.hid ((((((Bw1.setCell (p := ⟨w.heap.size + 1, 0, none⟩) (Nat.le_add_right _ _) (.int .i64 0)).setCell (p := ⟨w.heap.size + 1, 1, none⟩) (Nat.le_add_right _ _) (.int .i64 0)).setCell (p := ⟨w.heap.size + 1, 2, none⟩) (Nat.le_add_right _ _) (.int .i64 0)).setCell (p := ⟨w.heap.size + 1, 3, none⟩) (Nat.le_add_right _ _) (.int .i64 0)).setCell (p := ⟨w.heap.size + 1, 4, none⟩) (Nat.le_add_right _ _) (.int .i64 0)).setCell (p := ⟨w.heap.size + 1, 5, none⟩) (Nat.le_add_right _ _) (.int .i64 0))
    obtain ⟨⟨zp, cp0, cp1, cp2, cp3, cp4, cp5⟩, fp⟩ := E6.out
    unfold Fz at fp
    obtain ⟨⟨zr, cr0, cr1, cr2, cr3, cr4, cr5⟩, fr⟩ := R6.out
    unfold Fz at fr
    go_wp2_with fail
    have R8 := R7.out
    have B8 := B7.out
    clear R7 B7
    revert R8 B8
    generalize ((((((w1.setCell ⟨w.heap.size + 1, 0, none⟩ (.int .i64 0)).setCell ⟨w.heap.size + 1, 1, none⟩ (.int .i64 0)).setCell ⟨w.heap.size + 1, 2, none⟩ (.int .i64 0)).setCell ⟨w.heap.size + 1, 3, none⟩ (.int .i64 0)).setCell ⟨w.heap.size + 1, 4, none⟩ (.int .i64 0)).setCell ⟨w.heap.size + 1, 5, none⟩ (.int .i64 0)) = W9
    intro R8 B8
    obtain ⟨zz, s0, s1, s2, s3, s4, s5⟩ := R8
    exact bodyPost_ret (v := .tuple #[.agg #[.int .i64 0, .int .i64 0, .int .i64 0, .int .i64 0, .int .i64 0, .int .i64 0], .bool false]) (by simp [results, Try.results43, go_sem, s0, s1, s2, s3, s4, s5]) rfl ⟨rfl, B8⟩
theorem shear_any (k : Int) (w : World) :
    Calls Try.prog 42 #[.int .i64 k] w fun e w' => e = .returned (.agg #[.int .i64 1, .int .i64 k, .int .i64 0, .int .i64 1, .int .i64 0, .int .i64 0]) ∧ Below w.heap.size w w' := by
  go_enter Try.func42, Try.ntmps42
  go_wp2_with fail
  exact bodyPost_ret (v := .agg #[.int .i64 1, .int .i64 k, .int .i64 0, .int .i64 1, .int .i64 0, .int .i64 0]) (by simp [results, Try.results42, go_sem]) rfl ⟨rfl, (by repeat (first | exact Below.refl _ _ | assumption | apply Below.drew | refine Below.alloc ?_ (by simp <;> omega) _))⟩
theorem goodM_shear (k : Int) : goodM 1 k 0 1 0 0 = (decide (-20 ≤ k) && decide (k ≤ 20)) := by
  unfold goodM boxM
  rw [all4, all2]
  simp [inQ]
end Go.Proofs.Ytjlihafpnppchaa
