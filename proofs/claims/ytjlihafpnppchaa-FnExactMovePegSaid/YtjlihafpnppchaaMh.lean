/- contracts: MovePeg, on both sides -/
import Derived.Test.YtjlihafpnppchaaMg
import Derived.Test.YtjlihafpnppchaaRt
import Derived.Test.YtjlihafpnppchaaRn
namespace Go.Proofs.Ytjlihafpnppchaa
open Go.ChangeShapes Go.WideShapes Go.ChangeAt Go.RowKit Go.Joins
set_option linter.unusedVariables false
set_option linter.unusedSimpArgs false
theorem own2_new (w : World) (t : TypeId) : Own2 (w.alloc (.cells #[.int .i64 0, .int .i64 0] t)) w.heap.size 0 0 :=
  ⟨⟨by simp, by go_simp, by go_simp⟩, fun o => by rw [frozen?_alloc_cells]; simp [World.frozen?]⟩
theorem own6_new (w : World) (t : TypeId) : Own6 (w.alloc (.cells #[.int .i64 0, .int .i64 0, .int .i64 0, .int .i64 0, .int .i64 0, .int .i64 0] t)) w.heap.size 0 0 0 0 0 0 :=
  ⟨⟨by simp, by go_simp, by go_simp, by go_simp, by go_simp, by go_simp, by go_simp⟩, fun o => by rw [frozen?_alloc_cells]; simp [World.frozen?]⟩
theorem al_below {W0 W1 W : World} {obj : Obj} (k1 : Below W0.heap.size W0 W1) (k2 : Below (W1.alloc obj).heap.size (W1.alloc obj) W) : Below W0.heap.size W0 W ∧ W0.heap.size ≤ W1.heap.size ∧ W1.heap.size < W.heap.size := by
  have h1 := k1.size
  have hA := Below.alloc k1 h1 obj
  refine ⟨hA.trans (k2.mono hA.size), h1, ?_⟩
  have := k2.size
  simp at this
  omega
theorem own2_sets {w : World} {g : Nat} {a b : Int} (h : Own2 w g a b) (x y : Int) : Own2 ((w.setCell ⟨g, 0, none⟩ (.int .i64 x)).setCell ⟨g, 1, none⟩ (.int .i64 y)) g x y :=
  ⟨at2_set1 (at2_set0 h.1 x) y, fun o => by rw [World.frozen?_setCell, World.frozen?_setCell]; exact h.2 o⟩
theorem own6_sets {w : World} {g : Nat} {a b c d e f : Int} (h : Own6 w g a b c d e f) (x0 x1 x2 x3 x4 x5 : Int) : Own6 ((((((w.setCell ⟨g, 0, none⟩ (.int .i64 x0)).setCell ⟨g, 1, none⟩ (.int .i64 x1)).setCell ⟨g, 2, none⟩ (.int .i64 x2)).setCell ⟨g, 3, none⟩ (.int .i64 x3)).setCell ⟨g, 4, none⟩ (.int .i64 x4)).setCell ⟨g, 5, none⟩ (.int .i64 x5)) g x0 x1 x2 x3 x4 x5 :=
  ⟨at6_set5 (at6_set4 (at6_set3 (at6_set2 (at6_set1 (at6_set0 h.1 x0) x1) x2) x3) x4) x5, fun o => by simp only [World.frozen?_setCell]; exact h.2 o⟩
theorem al2 {W0 W1 W : World} {t : TypeId} (k1 : Below W0.heap.size W0 W1) (k2 : Below (W1.alloc (.cells #[.int .i64 0, .int .i64 0] t)).heap.size (W1.alloc (.cells #[.int .i64 0, .int .i64 0] t)) W) (x y : Int) :
    Own2 ((W.setCell ⟨W1.heap.size, 0, none⟩ (.int .i64 x)).setCell ⟨W1.heap.size, 1, none⟩ (.int .i64 y)) W1.heap.size x y ∧ Below W0.heap.size W0 ((W.setCell ⟨W1.heap.size, 0, none⟩ (.int .i64 x)).setCell ⟨W1.heap.size, 1, none⟩ (.int .i64 y)) :=
  ⟨own2_sets (own2_below (own2_new W1 t) k2 (own2_new W1 t).1.1) x y, ((al_below k1 k2).1.setCell (p := ⟨W1.heap.size, 0, none⟩) k1.size _).setCell (p := ⟨W1.heap.size, 1, none⟩) k1.size _⟩
theorem al6 {W0 W1 W : World} {t : TypeId} (k1 : Below W0.heap.size W0 W1) (k2 : Below (W1.alloc (.cells #[.int .i64 0, .int .i64 0, .int .i64 0, .int .i64 0, .int .i64 0, .int .i64 0] t)).heap.size (W1.alloc (.cells #[.int .i64 0, .int .i64 0, .int .i64 0, .int .i64 0, .int .i64 0, .int .i64 0] t)) W) (x0 x1 x2 x3 x4 x5 : Int) :
    Own6 ((((((W.setCell ⟨W1.heap.size, 0, none⟩ (.int .i64 x0)).setCell ⟨W1.heap.size, 1, none⟩ (.int .i64 x1)).setCell ⟨W1.heap.size, 2, none⟩ (.int .i64 x2)).setCell ⟨W1.heap.size, 3, none⟩ (.int .i64 x3)).setCell ⟨W1.heap.size, 4, none⟩ (.int .i64 x4)).setCell ⟨W1.heap.size, 5, none⟩ (.int .i64 x5)) W1.heap.size x0 x1 x2 x3 x4 x5 ∧
      Below W0.heap.size W0 ((((((W.setCell ⟨W1.heap.size, 0, none⟩ (.int .i64 x0)).setCell ⟨W1.heap.size, 1, none⟩ (.int .i64 x1)).setCell ⟨W1.heap.size, 2, none⟩ (.int .i64 x2)).setCell ⟨W1.heap.size, 3, none⟩ (.int .i64 x3)).setCell ⟨W1.heap.size, 4, none⟩ (.int .i64 x4)).setCell ⟨W1.heap.size, 5, none⟩ (.int .i64 x5)) :=
  ⟨own6_sets (own6_below (own6_new W1 t) k2 (own6_new W1 t).1.1) x0 x1 x2 x3 x4 x5, ((((((al_below k1 k2).1.setCell (p := ⟨W1.heap.size, 0, none⟩) k1.size _).setCell (p := ⟨W1.heap.size, 1, none⟩) k1.size _).setCell (p := ⟨W1.heap.size, 2, none⟩) k1.size _).setCell (p := ⟨W1.heap.size, 3, none⟩) k1.size _).setCell (p := ⟨W1.heap.size, 4, none⟩) k1.size _).setCell (p := ⟨W1.heap.size, 5, none⟩) k1.size _⟩
set_option maxHeartbeats 2000000 in
theorem specMovePeg_any (a b c d x y p1 p2 : Int) (w : World) :
    Calls Try.prog 13 #[.agg #[.int .i64 a, .int .i64 b, .int .i64 c, .int .i64 d, .int .i64 x, .int .i64 y], .agg #[.int .i64 p1, .int .i64 p2]] w fun e w' => e = .returned (.tuple #[.agg #[.int .i64 (bsel (goodM a b c d x y && (isPegB p1 p2 && isPegB (a * p1 + b * p2 + x) (c * p1 + d * p2 + y))) (a * p1 + b * p2 + x)), .int .i64 (bsel (goodM a b c d x y && (isPegB p1 p2 && isPegB (a * p1 + b * p2 + x) (c * p1 + d * p2 + y))) (c * p1 + d * p2 + y))], .bool (goodM a b c d x y && (isPegB p1 p2 && isPegB (a * p1 + b * p2 + x) (c * p1 + d * p2 + y)))]) ∧ Below w.heap.size w w' := by
  have K := Lib.hid (fun W => mvGood_any a b c d x y W)
  have KP := Lib.hid (fun W => pgIs_any p1 p2 W)
  by_cases hg : goodM a b c d x y = true
  · obtain ⟨⟨⟨u1, u2⟩, ⟨u3, u4⟩, ⟨u5, u6⟩, ⟨u7, u8⟩⟩, ⟨u9, u10⟩, ⟨u11, u12⟩⟩ := good_bd hg
    rw [hg] at K ⊢
    rw [Bool.true_and]
    by_cases hp : isPegB p1 p2 = true
    · have hp2 := hp
      unfold isPegB at hp2
      simp only [Bool.and_eq_true, decide_eq_true_eq] at hp2
      rw [hp] at KP ⊢
      rw [Bool.true_and]
      have KM := Lib.hid (fun W => mvPeg_any a b c d x y p1 p2 W (by omega) (by omega) (by omega) (by omega) (by omega) (by omega) (by omega) (by omega))
      have KQ := Lib.hid (fun W => pgIs_any (a * p1 + b * p2 + x) (c * p1 + d * p2 + y) W)
      clear hg hp hp2 u1 u2 u3 u4 u5 u6 u7 u8 u9 u10 u11 u12
      generalize a * p1 + b * p2 + x = X at *
      generalize c * p1 + d * p2 + y = Y at *
      by_cases hq : isPegB X Y = true
      · rw [hq] at KQ ⊢
        rw [bsel_t, bsel_t]
        clear hq
        go_enter Try.func13, Try.ntmps13
        go_wp2_with fail
        obtain ⟨W0, hW0⟩ : ∃ W0, W0 = (((w.alloc (.cells #[.int .i64 a, .int .i64 b, .int .i64 c, .int .i64 d, .int .i64 x, .int .i64 y] 25)).alloc (.cells #[.int .i64 p1, .int .i64 p2] 30)).alloc (.cells #[.int .i64 0, .int .i64 0] 30)) := ⟨_, rfl⟩
        rw [← hW0]
        have yW00_0 : W0.cell? ⟨w.heap.size, 0, none⟩ = some (.int .i64 a) := by rw [hW0]; go_simp
        have yW00_1 : W0.cell? ⟨w.heap.size, 1, none⟩ = some (.int .i64 b) := by rw [hW0]; go_simp
        have yW00_2 : W0.cell? ⟨w.heap.size, 2, none⟩ = some (.int .i64 c) := by rw [hW0]; go_simp
        have yW00_3 : W0.cell? ⟨w.heap.size, 3, none⟩ = some (.int .i64 d) := by rw [hW0]; go_simp
        have yW00_4 : W0.cell? ⟨w.heap.size, 4, none⟩ = some (.int .i64 x) := by rw [hW0]; go_simp
        have yW00_5 : W0.cell? ⟨w.heap.size, 5, none⟩ = some (.int .i64 y) := by rw [hW0]; go_simp
        have fW00 : ∀ o, W0.frozen? ⟨w.heap.size, o, none⟩ = false := by intro o; rw [hW0]; (repeat rw [frozen?_alloc_cells]); simp [World.frozen?]
        have zW00 : w.heap.size < W0.heap.size := by rw [hW0]; simp <;> omega
        have yW01_0 : W0.cell? ⟨w.heap.size + 1, 0, none⟩ = some (.int .i64 p1) := by rw [hW0]; go_simp
        have yW01_1 : W0.cell? ⟨w.heap.size + 1, 1, none⟩ = some (.int .i64 p2) := by rw [hW0]; go_simp
        have fW01 : ∀ o, W0.frozen? ⟨w.heap.size + 1, o, none⟩ = false := by intro o; rw [hW0]; (repeat rw [frozen?_alloc_cells]); simp [World.frozen?]
        have zW01 : w.heap.size + 1 < W0.heap.size := by rw [hW0]; simp <;> omega
        have yW02_0 : W0.cell? ⟨w.heap.size + 2, 0, none⟩ = some (.int .i64 0) := by rw [hW0]; go_simp
        have yW02_1 : W0.cell? ⟨w.heap.size + 2, 1, none⟩ = some (.int .i64 0) := by rw [hW0]; go_simp
        have fW02 : ∀ o, W0.frozen? ⟨w.heap.size + 2, o, none⟩ = false := by intro o; rw [hW0]; (repeat rw [frozen?_alloc_cells]); simp [World.frozen?]
        have zW02 : w.heap.size + 2 < W0.heap.size := by rw [hW0]; simp <;> omega
        have BW0 : Below w.heap.size w W0 := by rw [hW0]; exact (Below.alloc (Below.alloc (Below.alloc (Below.refl _ _) (by simp <;> omega) _) (by simp <;> omega) _) (by simp <;> omega) _)
        have eW0 : Hid (W0.heap.size = w.heap.size + 3) := Lib.hid (by rw [hW0]; simp)
        clear hW0
        have E6 := Lib.hid (show Own6 W0 (w.heap.size) a b c d x y from ⟨⟨zW00, yW00_0, yW00_1, yW00_2, yW00_3, yW00_4, yW00_5⟩, fW00⟩)
        have P2 := Lib.hid (show Own2 W0 (w.heap.size + 1) p1 p2 from ⟨⟨zW01, yW01_0, yW01_1⟩, fW01⟩)
        have R2 := Lib.hid (show Own2 W0 (w.heap.size + 2) 0 0 from ⟨⟨zW02, yW02_0, yW02_1⟩, fW02⟩)
        clear zW00 fW00 yW00_0 yW00_1 yW00_2 yW00_3 yW00_4 yW00_5 zW01 fW01 yW01_0 yW01_1 zW02 fW02 yW02_0 yW02_1 eW0
        refine (K.out _).mono ?_; rintro e w1 ⟨rfl, hbw1⟩
        have Bw1 := BW0.trans (hbw1.mono BW0.size)
        have E6 := Lib.hid (own6_below E6.out hbw1 E6.out.1.1)
        have P2 := Lib.hid (own2_below P2.out hbw1 P2.out.1.1)
        have R2 := Lib.hid (own2_below R2.out hbw1 R2.out.1.1)
        clear hbw1 BW0
        obtain ⟨⟨zp, cp0, cp1, cp2, cp3, cp4, cp5⟩, fp⟩ := E6.out
        unfold Fz at fp
        obtain ⟨⟨zq, cq0, cq1⟩, fq⟩ := P2.out
        unfold Fz at fq
        go_wp2_with fail
        clear zp fp cp0 cp1 cp2 cp3 cp4 cp5
        clear zq fq cq0 cq1
        refine (KP.out _).mono ?_; rintro e w2 ⟨rfl, hbw2⟩
        have Bw2 := Bw1.trans (hbw2.mono Bw1.size)
        have E6 := Lib.hid (own6_below E6.out hbw2 E6.out.1.1)
        have P2 := Lib.hid (own2_below P2.out hbw2 P2.out.1.1)
        have R2 := Lib.hid (own2_below R2.out hbw2 R2.out.1.1)
        clear hbw2 Bw1
        obtain ⟨⟨zp, cp0, cp1, cp2, cp3, cp4, cp5⟩, fp⟩ := E6.out
        unfold Fz at fp
        obtain ⟨⟨zq, cq0, cq1⟩, fq⟩ := P2.out
        unfold Fz at fq
        go_wp2_with fail
        clear zp fp cp0 cp1 cp2 cp3 cp4 cp5
        clear zq fq cq0 cq1
        refine (KM.out _).mono ?_; rintro e w3 ⟨rfl, hbw3⟩
        have Bw3 := Bw2.trans (hbw3.mono Bw2.size)
        have E6 := Lib.hid (own6_below E6.out hbw3 E6.out.1.1)
        have P2 := Lib.hid (own2_below P2.out hbw3 P2.out.1.1)
        have R2 := Lib.hid (own2_below R2.out hbw3 R2.out.1.1)
        clear hbw3 Bw2
        go_wp2_with fail
        refine (KQ.out _).mono ?_; rintro e w4 ⟨rfl, hbw4⟩
        have Bw4 := Bw3.trans (hbw4.mono Bw3.size)
        have E6 := Lib.hid (own6_below E6.out hbw4 E6.out.1.1)
        have P2 := Lib.hid (own2_below P2.out hbw4 P2.out.1.1)
        have R2 := Lib.hid (own2_below R2.out hbw4 R2.out.1.1)
        clear hbw4 Bw3
        obtain ⟨⟨zp, cp0, cp1, cp2, cp3, cp4, cp5⟩, fp⟩ := E6.out
        unfold Fz at fp
        obtain ⟨⟨zq, cq0, cq1⟩, fq⟩ := P2.out
        unfold Fz at fq
        obtain ⟨⟨zr, cr0, cr1⟩, fr⟩ := R2.out
        unfold Fz at fr
        go_wp2_with fail
        clear zp fp cp0 cp1 cp2 cp3 cp4 cp5
        clear zq fq cq0 cq1
        clear zr fr cr0 cr1
        refine (KM.out _).mono ?_; rintro e w5 ⟨rfl, hbw5⟩
        have Bw5 := Bw4.trans (hbw5.mono Bw4.size)
        have E6 := Lib.hid (own6_below E6.out hbw5 E6.out.1.1)
        have P2 := Lib.hid (own2_below P2.out hbw5 P2.out.1.1)
        have R2 := Lib.hid (own2_below R2.out hbw5 R2.out.1.1)
        clear hbw5 Bw4
        have R7 := Lib.hid (at2_set1 (at2_set0 (R2.out.1) X) Y)
        have B7 := Lib.hid ((Bw5.setCell (p := ⟨w.heap.size + 2, 0, none⟩) (Nat.le_add_right _ _) (.int .i64 X)).setCell (p := ⟨w.heap.size + 2, 1, none⟩) (Nat.le_add_right _ _) (.int .i64 Y))
        obtain ⟨⟨zr, cr0, cr1⟩, fr⟩ := R2.out
        unfold Fz at fr
        go_wp2_with fail
        have R8 := R7.out
        have B8 := B7.out
        clear R7 B7
        revert R8 B8
        generalize ((w5.setCell ⟨w.heap.size + 2, 0, none⟩ (.int .i64 X)).setCell ⟨w.heap.size + 2, 1, none⟩ (.int .i64 Y)) = W9
        intro R8 B8
        obtain ⟨zz, s0, s1⟩ := R8
        exact bodyPost_ret (v := .tuple #[.agg #[.int .i64 X, .int .i64 Y], .bool true]) (by simp [results, Try.results13, go_sem, s0, s1]) rfl ⟨rfl, B8⟩
      · have hq : isPegB X Y = false := by simpa using hq
        rw [hq] at KQ ⊢
        rw [bsel_f, bsel_f]
        clear hq
        go_enter Try.func13, Try.ntmps13
        go_wp2_with fail
        obtain ⟨W0, hW0⟩ : ∃ W0, W0 = (((w.alloc (.cells #[.int .i64 a, .int .i64 b, .int .i64 c, .int .i64 d, .int .i64 x, .int .i64 y] 25)).alloc (.cells #[.int .i64 p1, .int .i64 p2] 30)).alloc (.cells #[.int .i64 0, .int .i64 0] 30)) := ⟨_, rfl⟩
        rw [← hW0]
        have yW00_0 : W0.cell? ⟨w.heap.size, 0, none⟩ = some (.int .i64 a) := by rw [hW0]; go_simp
        have yW00_1 : W0.cell? ⟨w.heap.size, 1, none⟩ = some (.int .i64 b) := by rw [hW0]; go_simp
        have yW00_2 : W0.cell? ⟨w.heap.size, 2, none⟩ = some (.int .i64 c) := by rw [hW0]; go_simp
        have yW00_3 : W0.cell? ⟨w.heap.size, 3, none⟩ = some (.int .i64 d) := by rw [hW0]; go_simp
        have yW00_4 : W0.cell? ⟨w.heap.size, 4, none⟩ = some (.int .i64 x) := by rw [hW0]; go_simp
        have yW00_5 : W0.cell? ⟨w.heap.size, 5, none⟩ = some (.int .i64 y) := by rw [hW0]; go_simp
        have fW00 : ∀ o, W0.frozen? ⟨w.heap.size, o, none⟩ = false := by intro o; rw [hW0]; (repeat rw [frozen?_alloc_cells]); simp [World.frozen?]
        have zW00 : w.heap.size < W0.heap.size := by rw [hW0]; simp <;> omega
        have yW01_0 : W0.cell? ⟨w.heap.size + 1, 0, none⟩ = some (.int .i64 p1) := by rw [hW0]; go_simp
        have yW01_1 : W0.cell? ⟨w.heap.size + 1, 1, none⟩ = some (.int .i64 p2) := by rw [hW0]; go_simp
        have fW01 : ∀ o, W0.frozen? ⟨w.heap.size + 1, o, none⟩ = false := by intro o; rw [hW0]; (repeat rw [frozen?_alloc_cells]); simp [World.frozen?]
        have zW01 : w.heap.size + 1 < W0.heap.size := by rw [hW0]; simp <;> omega
        have yW02_0 : W0.cell? ⟨w.heap.size + 2, 0, none⟩ = some (.int .i64 0) := by rw [hW0]; go_simp
        have yW02_1 : W0.cell? ⟨w.heap.size + 2, 1, none⟩ = some (.int .i64 0) := by rw [hW0]; go_simp
        have fW02 : ∀ o, W0.frozen? ⟨w.heap.size + 2, o, none⟩ = false := by intro o; rw [hW0]; (repeat rw [frozen?_alloc_cells]); simp [World.frozen?]
        have zW02 : w.heap.size + 2 < W0.heap.size := by rw [hW0]; simp <;> omega
        have BW0 : Below w.heap.size w W0 := by rw [hW0]; exact (Below.alloc (Below.alloc (Below.alloc (Below.refl _ _) (by simp <;> omega) _) (by simp <;> omega) _) (by simp <;> omega) _)
        have eW0 : Hid (W0.heap.size = w.heap.size + 3) := Lib.hid (by rw [hW0]; simp)
        clear hW0
        have E6 := Lib.hid (show Own6 W0 (w.heap.size) a b c d x y from ⟨⟨zW00, yW00_0, yW00_1, yW00_2, yW00_3, yW00_4, yW00_5⟩, fW00⟩)
        have P2 := Lib.hid (show Own2 W0 (w.heap.size + 1) p1 p2 from ⟨⟨zW01, yW01_0, yW01_1⟩, fW01⟩)
        have R2 := Lib.hid (show Own2 W0 (w.heap.size + 2) 0 0 from ⟨⟨zW02, yW02_0, yW02_1⟩, fW02⟩)
        clear zW00 fW00 yW00_0 yW00_1 yW00_2 yW00_3 yW00_4 yW00_5 zW01 fW01 yW01_0 yW01_1 zW02 fW02 yW02_0 yW02_1 eW0
        refine (K.out _).mono ?_; rintro e w1 ⟨rfl, hbw1⟩
        have Bw1 := BW0.trans (hbw1.mono BW0.size)
        have E6 := Lib.hid (own6_below E6.out hbw1 E6.out.1.1)
        have P2 := Lib.hid (own2_below P2.out hbw1 P2.out.1.1)
        have R2 := Lib.hid (own2_below R2.out hbw1 R2.out.1.1)
        clear hbw1 BW0
        obtain ⟨⟨zp, cp0, cp1, cp2, cp3, cp4, cp5⟩, fp⟩ := E6.out
        unfold Fz at fp
        obtain ⟨⟨zq, cq0, cq1⟩, fq⟩ := P2.out
        unfold Fz at fq
        go_wp2_with fail
        clear zp fp cp0 cp1 cp2 cp3 cp4 cp5
        clear zq fq cq0 cq1
        refine (KP.out _).mono ?_; rintro e w2 ⟨rfl, hbw2⟩
        have Bw2 := Bw1.trans (hbw2.mono Bw1.size)
        have E6 := Lib.hid (own6_below E6.out hbw2 E6.out.1.1)
        have P2 := Lib.hid (own2_below P2.out hbw2 P2.out.1.1)
        have R2 := Lib.hid (own2_below R2.out hbw2 R2.out.1.1)
        clear hbw2 Bw1
        obtain ⟨⟨zp, cp0, cp1, cp2, cp3, cp4, cp5⟩, fp⟩ := E6.out
        unfold Fz at fp
        obtain ⟨⟨zq, cq0, cq1⟩, fq⟩ := P2.out
        unfold Fz at fq
        go_wp2_with fail
        clear zp fp cp0 cp1 cp2 cp3 cp4 cp5
        clear zq fq cq0 cq1
        refine (KM.out _).mono ?_; rintro e w3 ⟨rfl, hbw3⟩
        have Bw3 := Bw2.trans (hbw3.mono Bw2.size)
        have E6 := Lib.hid (own6_below E6.out hbw3 E6.out.1.1)
        have P2 := Lib.hid (own2_below P2.out hbw3 P2.out.1.1)
        have R2 := Lib.hid (own2_below R2.out hbw3 R2.out.1.1)
        clear hbw3 Bw2
        go_wp2_with fail
        refine (KQ.out _).mono ?_; rintro e w4 ⟨rfl, hbw4⟩
        have Bw4 := Bw3.trans (hbw4.mono Bw3.size)
        have E6 := Lib.hid (own6_below E6.out hbw4 E6.out.1.1)
        have P2 := Lib.hid (own2_below P2.out hbw4 P2.out.1.1)
        have R2 := Lib.hid (own2_below R2.out hbw4 R2.out.1.1)
        clear hbw4 Bw3
        have R7 := Lib.hid (at2_set1 (at2_set0 (R2.out.1) 0) 0)
        have B7 := Lib.hid ((Bw4.setCell (p := ⟨w.heap.size + 2, 0, none⟩) (Nat.le_add_right _ _) (.int .i64 0)).setCell (p := ⟨w.heap.size + 2, 1, none⟩) (Nat.le_add_right _ _) (.int .i64 0))
        obtain ⟨⟨zr, cr0, cr1⟩, fr⟩ := R2.out
        unfold Fz at fr
        go_wp2_with fail
        have R8 := R7.out
        have B8 := B7.out
        clear R7 B7
        revert R8 B8
        generalize ((w4.setCell ⟨w.heap.size + 2, 0, none⟩ (.int .i64 0)).setCell ⟨w.heap.size + 2, 1, none⟩ (.int .i64 0)) = W9
        intro R8 B8
        obtain ⟨zz, s0, s1⟩ := R8
        exact bodyPost_ret (v := .tuple #[.agg #[.int .i64 0, .int .i64 0], .bool false]) (by simp [results, Try.results13, go_sem, s0, s1]) rfl ⟨rfl, B8⟩
    · have hp : isPegB p1 p2 = false := by simpa using hp
      rw [hp] at KP ⊢
      rw [Bool.false_and, bsel_f, bsel_f]
      clear hp hg u1 u2 u3 u4 u5 u6 u7 u8 u9 u10 u11 u12
      go_enter Try.func13, Try.ntmps13
      go_wp2_with fail
      obtain ⟨W0, hW0⟩ : ∃ W0, W0 = (((w.alloc (.cells #[.int .i64 a, .int .i64 b, .int .i64 c, .int .i64 d, .int .i64 x, .int .i64 y] 25)).alloc (.cells #[.int .i64 p1, .int .i64 p2] 30)).alloc (.cells #[.int .i64 0, .int .i64 0] 30)) := ⟨_, rfl⟩
      rw [← hW0]
      have yW00_0 : W0.cell? ⟨w.heap.size, 0, none⟩ = some (.int .i64 a) := by rw [hW0]; go_simp
      have yW00_1 : W0.cell? ⟨w.heap.size, 1, none⟩ = some (.int .i64 b) := by rw [hW0]; go_simp
      have yW00_2 : W0.cell? ⟨w.heap.size, 2, none⟩ = some (.int .i64 c) := by rw [hW0]; go_simp
      have yW00_3 : W0.cell? ⟨w.heap.size, 3, none⟩ = some (.int .i64 d) := by rw [hW0]; go_simp
      have yW00_4 : W0.cell? ⟨w.heap.size, 4, none⟩ = some (.int .i64 x) := by rw [hW0]; go_simp
      have yW00_5 : W0.cell? ⟨w.heap.size, 5, none⟩ = some (.int .i64 y) := by rw [hW0]; go_simp
      have fW00 : ∀ o, W0.frozen? ⟨w.heap.size, o, none⟩ = false := by intro o; rw [hW0]; (repeat rw [frozen?_alloc_cells]); simp [World.frozen?]
      have zW00 : w.heap.size < W0.heap.size := by rw [hW0]; simp <;> omega
      have yW01_0 : W0.cell? ⟨w.heap.size + 1, 0, none⟩ = some (.int .i64 p1) := by rw [hW0]; go_simp
      have yW01_1 : W0.cell? ⟨w.heap.size + 1, 1, none⟩ = some (.int .i64 p2) := by rw [hW0]; go_simp
      have fW01 : ∀ o, W0.frozen? ⟨w.heap.size + 1, o, none⟩ = false := by intro o; rw [hW0]; (repeat rw [frozen?_alloc_cells]); simp [World.frozen?]
      have zW01 : w.heap.size + 1 < W0.heap.size := by rw [hW0]; simp <;> omega
      have yW02_0 : W0.cell? ⟨w.heap.size + 2, 0, none⟩ = some (.int .i64 0) := by rw [hW0]; go_simp
      have yW02_1 : W0.cell? ⟨w.heap.size + 2, 1, none⟩ = some (.int .i64 0) := by rw [hW0]; go_simp
      have fW02 : ∀ o, W0.frozen? ⟨w.heap.size + 2, o, none⟩ = false := by intro o; rw [hW0]; (repeat rw [frozen?_alloc_cells]); simp [World.frozen?]
      have zW02 : w.heap.size + 2 < W0.heap.size := by rw [hW0]; simp <;> omega
      have BW0 : Below w.heap.size w W0 := by rw [hW0]; exact (Below.alloc (Below.alloc (Below.alloc (Below.refl _ _) (by simp <;> omega) _) (by simp <;> omega) _) (by simp <;> omega) _)
      have eW0 : Hid (W0.heap.size = w.heap.size + 3) := Lib.hid (by rw [hW0]; simp)
      clear hW0
      have E6 := Lib.hid (show Own6 W0 (w.heap.size) a b c d x y from ⟨⟨zW00, yW00_0, yW00_1, yW00_2, yW00_3, yW00_4, yW00_5⟩, fW00⟩)
      have P2 := Lib.hid (show Own2 W0 (w.heap.size + 1) p1 p2 from ⟨⟨zW01, yW01_0, yW01_1⟩, fW01⟩)
      have R2 := Lib.hid (show Own2 W0 (w.heap.size + 2) 0 0 from ⟨⟨zW02, yW02_0, yW02_1⟩, fW02⟩)
      clear zW00 fW00 yW00_0 yW00_1 yW00_2 yW00_3 yW00_4 yW00_5 zW01 fW01 yW01_0 yW01_1 zW02 fW02 yW02_0 yW02_1 eW0
      refine (K.out _).mono ?_; rintro e w1 ⟨rfl, hbw1⟩
      have Bw1 := BW0.trans (hbw1.mono BW0.size)
      have E6 := Lib.hid (own6_below E6.out hbw1 E6.out.1.1)
      have P2 := Lib.hid (own2_below P2.out hbw1 P2.out.1.1)
      have R2 := Lib.hid (own2_below R2.out hbw1 R2.out.1.1)
      clear hbw1 BW0
      obtain ⟨⟨zp, cp0, cp1, cp2, cp3, cp4, cp5⟩, fp⟩ := E6.out
      unfold Fz at fp
      obtain ⟨⟨zq, cq0, cq1⟩, fq⟩ := P2.out
      unfold Fz at fq
      go_wp2_with fail
      clear zp fp cp0 cp1 cp2 cp3 cp4 cp5
      clear zq fq cq0 cq1
      refine (KP.out _).mono ?_; rintro e w2 ⟨rfl, hbw2⟩
      have Bw2 := Bw1.trans (hbw2.mono Bw1.size)
      have E6 := Lib.hid (own6_below E6.out hbw2 E6.out.1.1)
      have P2 := Lib.hid (own2_below P2.out hbw2 P2.out.1.1)
      have R2 := Lib.hid (own2_below R2.out hbw2 R2.out.1.1)
      clear hbw2 Bw1
      have R7 := Lib.hid (at2_set1 (at2_set0 (R2.out.1) 0) 0)
      have B7 := Lib.hid ((Bw2.setCell (p := ⟨w.heap.size + 2, 0, none⟩) (Nat.le_add_right _ _) (.int .i64 0)).setCell (p := ⟨w.heap.size + 2, 1, none⟩) (Nat.le_add_right _ _) (.int .i64 0))
      obtain ⟨⟨zr, cr0, cr1⟩, fr⟩ := R2.out
      unfold Fz at fr
      go_wp2_with fail
      have R8 := R7.out
      have B8 := B7.out
      clear R7 B7
      revert R8 B8
      generalize ((w2.setCell ⟨w.heap.size + 2, 0, none⟩ (.int .i64 0)).setCell ⟨w.heap.size + 2, 1, none⟩ (.int .i64 0)) = W9
      intro R8 B8
      obtain ⟨zz, s0, s1⟩ := R8
      exact bodyPost_ret (v := .tuple #[.agg #[.int .i64 0, .int .i64 0], .bool false]) (by simp [results, Try.results13, go_sem, s0, s1]) rfl ⟨rfl, B8⟩
  · have hg : goodM a b c d x y = false := by simpa using hg
    rw [hg] at K ⊢
    rw [Bool.false_and, bsel_f, bsel_f]
    clear hg KP
    go_enter Try.func13, Try.ntmps13
    go_wp2_with fail
    obtain ⟨W0, hW0⟩ : ∃ W0, W0 = (((w.alloc (.cells #[.int .i64 a, .int .i64 b, .int .i64 c, .int .i64 d, .int .i64 x, .int .i64 y] 25)).alloc (.cells #[.int .i64 p1, .int .i64 p2] 30)).alloc (.cells #[.int .i64 0, .int .i64 0] 30)) := ⟨_, rfl⟩
    rw [← hW0]
    have yW00_0 : W0.cell? ⟨w.heap.size, 0, none⟩ = some (.int .i64 a) := by rw [hW0]; go_simp
    have yW00_1 : W0.cell? ⟨w.heap.size, 1, none⟩ = some (.int .i64 b) := by rw [hW0]; go_simp
    have yW00_2 : W0.cell? ⟨w.heap.size, 2, none⟩ = some (.int .i64 c) := by rw [hW0]; go_simp
    have yW00_3 : W0.cell? ⟨w.heap.size, 3, none⟩ = some (.int .i64 d) := by rw [hW0]; go_simp
    have yW00_4 : W0.cell? ⟨w.heap.size, 4, none⟩ = some (.int .i64 x) := by rw [hW0]; go_simp
    have yW00_5 : W0.cell? ⟨w.heap.size, 5, none⟩ = some (.int .i64 y) := by rw [hW0]; go_simp
    have fW00 : ∀ o, W0.frozen? ⟨w.heap.size, o, none⟩ = false := by intro o; rw [hW0]; (repeat rw [frozen?_alloc_cells]); simp [World.frozen?]
    have zW00 : w.heap.size < W0.heap.size := by rw [hW0]; simp <;> omega
    have yW01_0 : W0.cell? ⟨w.heap.size + 1, 0, none⟩ = some (.int .i64 p1) := by rw [hW0]; go_simp
    have yW01_1 : W0.cell? ⟨w.heap.size + 1, 1, none⟩ = some (.int .i64 p2) := by rw [hW0]; go_simp
    have fW01 : ∀ o, W0.frozen? ⟨w.heap.size + 1, o, none⟩ = false := by intro o; rw [hW0]; (repeat rw [frozen?_alloc_cells]); simp [World.frozen?]
    have zW01 : w.heap.size + 1 < W0.heap.size := by rw [hW0]; simp <;> omega
    have yW02_0 : W0.cell? ⟨w.heap.size + 2, 0, none⟩ = some (.int .i64 0) := by rw [hW0]; go_simp
    have yW02_1 : W0.cell? ⟨w.heap.size + 2, 1, none⟩ = some (.int .i64 0) := by rw [hW0]; go_simp
    have fW02 : ∀ o, W0.frozen? ⟨w.heap.size + 2, o, none⟩ = false := by intro o; rw [hW0]; (repeat rw [frozen?_alloc_cells]); simp [World.frozen?]
    have zW02 : w.heap.size + 2 < W0.heap.size := by rw [hW0]; simp <;> omega
    have BW0 : Below w.heap.size w W0 := by rw [hW0]; exact (Below.alloc (Below.alloc (Below.alloc (Below.refl _ _) (by simp <;> omega) _) (by simp <;> omega) _) (by simp <;> omega) _)
    have eW0 : Hid (W0.heap.size = w.heap.size + 3) := Lib.hid (by rw [hW0]; simp)
    clear hW0
    have E6 := Lib.hid (show Own6 W0 (w.heap.size) a b c d x y from ⟨⟨zW00, yW00_0, yW00_1, yW00_2, yW00_3, yW00_4, yW00_5⟩, fW00⟩)
    have P2 := Lib.hid (show Own2 W0 (w.heap.size + 1) p1 p2 from ⟨⟨zW01, yW01_0, yW01_1⟩, fW01⟩)
    have R2 := Lib.hid (show Own2 W0 (w.heap.size + 2) 0 0 from ⟨⟨zW02, yW02_0, yW02_1⟩, fW02⟩)
    clear zW00 fW00 yW00_0 yW00_1 yW00_2 yW00_3 yW00_4 yW00_5 zW01 fW01 yW01_0 yW01_1 zW02 fW02 yW02_0 yW02_1 eW0
    refine (K.out _).mono ?_; rintro e w1 ⟨rfl, hbw1⟩
    have Bw1 := BW0.trans (hbw1.mono BW0.size)
    have E6 := Lib.hid (own6_below E6.out hbw1 E6.out.1.1)
    have P2 := Lib.hid (own2_below P2.out hbw1 P2.out.1.1)
    have R2 := Lib.hid (own2_below R2.out hbw1 R2.out.1.1)
    clear hbw1 BW0
    have R7 := Lib.hid (at2_set1 (at2_set0 (R2.out.1) 0) 0)
    have B7 := Lib.hid ((Bw1.setCell (p := ⟨w.heap.size + 2, 0, none⟩) (Nat.le_add_right _ _) (.int .i64 0)).setCell (p := ⟨w.heap.size + 2, 1, none⟩) (Nat.le_add_right _ _) (.int .i64 0))
    obtain ⟨⟨zr, cr0, cr1⟩, fr⟩ := R2.out
    unfold Fz at fr
    go_wp2_with fail
    have R8 := R7.out
    have B8 := B7.out
    clear R7 B7
    revert R8 B8
    generalize ((w1.setCell ⟨w.heap.size + 2, 0, none⟩ (.int .i64 0)).setCell ⟨w.heap.size + 2, 1, none⟩ (.int .i64 0)) = W9
    intro R8 B8
    obtain ⟨zz, s0, s1⟩ := R8
    exact bodyPost_ret (v := .tuple #[.agg #[.int .i64 0, .int .i64 0], .bool false]) (by simp [results, Try.results13, go_sem, s0, s1]) rfl ⟨rfl, B8⟩
set_option maxHeartbeats 2000000 in
theorem implMovePeg_any (a b c d x y p1 p2 : Int) (w : World) :
    Calls Try.prog 15 #[.agg #[.int .i64 a, .int .i64 b, .int .i64 c, .int .i64 d, .int .i64 x, .int .i64 y], .agg #[.int .i64 p1, .int .i64 p2]] w fun e w' => e = .returned (.tuple #[.agg #[.int .i64 (bsel (goodM a b c d x y && (isPegB p1 p2 && isPegB (a * p1 + b * p2 + x) (c * p1 + d * p2 + y))) (a * p1 + b * p2 + x)), .int .i64 (bsel (goodM a b c d x y && (isPegB p1 p2 && isPegB (a * p1 + b * p2 + x) (c * p1 + d * p2 + y))) (c * p1 + d * p2 + y))], .bool (goodM a b c d x y && (isPegB p1 p2 && isPegB (a * p1 + b * p2 + x) (c * p1 + d * p2 + y)))]) ∧ Below w.heap.size w w' := by
  have K := Lib.hid (fun W => implIsMove_any a b c d x y W)
  have KP := Lib.hid (fun W => implIsPeg_any p1 p2 W)
  by_cases hg : goodM a b c d x y = true
  · obtain ⟨⟨⟨u1, u2⟩, ⟨u3, u4⟩, ⟨u5, u6⟩, ⟨u7, u8⟩⟩, ⟨u9, u10⟩, ⟨u11, u12⟩⟩ := good_bd hg
    rw [hg] at K ⊢
    rw [Bool.true_and]
    by_cases hp : isPegB p1 p2 = true
    · have hp2 := hp
      unfold isPegB at hp2
      simp only [Bool.and_eq_true, decide_eq_true_eq] at hp2
      rw [hp] at KP ⊢
      rw [Bool.true_and]
      have KM := Lib.hid (fun W => bring_any a b c d x y p1 p2 W (by omega) (by omega) (by omega) (by omega) (by omega) (by omega) (by omega) (by omega))
      have KQ := Lib.hid (fun W => implIsPeg_any (a * p1 + b * p2 + x) (c * p1 + d * p2 + y) W)
      have KW := Lib.hid (fun W => whole_any a b c d x y W)
      clear hg hp hp2 u1 u2 u3 u4 u5 u6 u7 u8 u9 u10 u11 u12
      generalize a * p1 + b * p2 + x = X at *
      generalize c * p1 + d * p2 + y = Y at *
      by_cases hq : isPegB X Y = true
      · rw [hq] at KQ ⊢
        rw [bsel_t, bsel_t]
        clear hq
        go_enter Try.func15, Try.ntmps15
        go_wp2_with fail
        obtain ⟨W0, hW0⟩ : ∃ W0, W0 = (((w.alloc (.cells #[.int .i64 a, .int .i64 b, .int .i64 c, .int .i64 d, .int .i64 x, .int .i64 y] 25)).alloc (.cells #[.int .i64 p1, .int .i64 p2] 30)).alloc (.cells #[.int .i64 0, .int .i64 0] 30)) := ⟨_, rfl⟩
        rw [← hW0]
        have yW00_0 : W0.cell? ⟨w.heap.size, 0, none⟩ = some (.int .i64 a) := by rw [hW0]; go_simp
        have yW00_1 : W0.cell? ⟨w.heap.size, 1, none⟩ = some (.int .i64 b) := by rw [hW0]; go_simp
        have yW00_2 : W0.cell? ⟨w.heap.size, 2, none⟩ = some (.int .i64 c) := by rw [hW0]; go_simp
        have yW00_3 : W0.cell? ⟨w.heap.size, 3, none⟩ = some (.int .i64 d) := by rw [hW0]; go_simp
        have yW00_4 : W0.cell? ⟨w.heap.size, 4, none⟩ = some (.int .i64 x) := by rw [hW0]; go_simp
        have yW00_5 : W0.cell? ⟨w.heap.size, 5, none⟩ = some (.int .i64 y) := by rw [hW0]; go_simp
        have fW00 : ∀ o, W0.frozen? ⟨w.heap.size, o, none⟩ = false := by intro o; rw [hW0]; (repeat rw [frozen?_alloc_cells]); simp [World.frozen?]
        have zW00 : w.heap.size < W0.heap.size := by rw [hW0]; simp <;> omega
        have yW01_0 : W0.cell? ⟨w.heap.size + 1, 0, none⟩ = some (.int .i64 p1) := by rw [hW0]; go_simp
        have yW01_1 : W0.cell? ⟨w.heap.size + 1, 1, none⟩ = some (.int .i64 p2) := by rw [hW0]; go_simp
        have fW01 : ∀ o, W0.frozen? ⟨w.heap.size + 1, o, none⟩ = false := by intro o; rw [hW0]; (repeat rw [frozen?_alloc_cells]); simp [World.frozen?]
        have zW01 : w.heap.size + 1 < W0.heap.size := by rw [hW0]; simp <;> omega
        have yW02_0 : W0.cell? ⟨w.heap.size + 2, 0, none⟩ = some (.int .i64 0) := by rw [hW0]; go_simp
        have yW02_1 : W0.cell? ⟨w.heap.size + 2, 1, none⟩ = some (.int .i64 0) := by rw [hW0]; go_simp
        have fW02 : ∀ o, W0.frozen? ⟨w.heap.size + 2, o, none⟩ = false := by intro o; rw [hW0]; (repeat rw [frozen?_alloc_cells]); simp [World.frozen?]
        have zW02 : w.heap.size + 2 < W0.heap.size := by rw [hW0]; simp <;> omega
        have BW0 : Below w.heap.size w W0 := by rw [hW0]; exact (Below.alloc (Below.alloc (Below.alloc (Below.refl _ _) (by simp <;> omega) _) (by simp <;> omega) _) (by simp <;> omega) _)
        have eW0 : Hid (W0.heap.size = w.heap.size + 3) := Lib.hid (by rw [hW0]; simp)
        clear hW0
        have E6 := Lib.hid (show Own6 W0 (w.heap.size) a b c d x y from ⟨⟨zW00, yW00_0, yW00_1, yW00_2, yW00_3, yW00_4, yW00_5⟩, fW00⟩)
        have P2 := Lib.hid (show Own2 W0 (w.heap.size + 1) p1 p2 from ⟨⟨zW01, yW01_0, yW01_1⟩, fW01⟩)
        have R2 := Lib.hid (show Own2 W0 (w.heap.size + 2) 0 0 from ⟨⟨zW02, yW02_0, yW02_1⟩, fW02⟩)
        clear zW00 fW00 yW00_0 yW00_1 yW00_2 yW00_3 yW00_4 yW00_5 zW01 fW01 yW01_0 yW01_1 zW02 fW02 yW02_0 yW02_1 eW0
        refine (K.out _).mono ?_; rintro e w1 ⟨rfl, hbw1⟩
        have Bw1 := BW0.trans (hbw1.mono BW0.size)
        have E6 := Lib.hid (own6_below E6.out hbw1 E6.out.1.1)
        have P2 := Lib.hid (own2_below P2.out hbw1 P2.out.1.1)
        have R2 := Lib.hid (own2_below R2.out hbw1 R2.out.1.1)
        clear hbw1 BW0
        obtain ⟨⟨zp, cp0, cp1, cp2, cp3, cp4, cp5⟩, fp⟩ := E6.out
        unfold Fz at fp
        obtain ⟨⟨zq, cq0, cq1⟩, fq⟩ := P2.out
        unfold Fz at fq
        go_wp2_with fail
        clear zp fp cp0 cp1 cp2 cp3 cp4 cp5
        clear zq fq cq0 cq1
        refine (KP.out _).mono ?_; rintro e w2 ⟨rfl, hbw2⟩
        have Bw2 := Bw1.trans (hbw2.mono Bw1.size)
        have E6 := Lib.hid (own6_below E6.out hbw2 E6.out.1.1)
        have P2 := Lib.hid (own2_below P2.out hbw2 P2.out.1.1)
        have R2 := Lib.hid (own2_below R2.out hbw2 R2.out.1.1)
        clear hbw2 Bw1
        obtain ⟨⟨zp, cp0, cp1, cp2, cp3, cp4, cp5⟩, fp⟩ := E6.out
        unfold Fz at fp
        obtain ⟨⟨zq, cq0, cq1⟩, fq⟩ := P2.out
        unfold Fz at fq
        go_wp2_with fail
        refine wp_region_AL 4 (w2) (obj := .cells #[.int .i64 0, .int .i64 0] 30) (by kernel_rfl) (by kernel_rfl) (by repeat (first | exact Below.refl _ _ | apply Below.drew)) rfl (fun _ => by rfl) (fun _ _ => by first | rfl | go_simp) ?_
        simp only [List.take_succ_cons, List.take_zero, List.drop_succ_cons, List.drop_zero]
        first | refine wpR_skip (by rfl) ?_ | (refine wpR_text (v := ?_) (by rfl) (fun W k1 => ?_) ?_; rotate_left; (obtain ⟨hc1, hf1⟩ := bcell k1;  go_simp; refine comes_v ?_; exact Below.refl _ _))
        (try simp only [Act.put, List.setIfInBounds_toArray, List.set_cons_zero, List.set_cons_succ])
        first | refine wpR_skip (by rfl) ?_ | (refine wpR_text (v := .agg #[.int .i64 a, .int .i64 b, .int .i64 c, .int .i64 d, .int .i64 x, .int .i64 y]) (by rfl) (fun W k1 => ?_) ?_; (obtain ⟨hc1, hf1⟩ := bcell k1;  go_simp; exact comes_c ( KW.out _) (fun wn hbn => hbn)))
        (try simp only [Act.put, List.setIfInBounds_toArray, List.set_cons_zero, List.set_cons_succ])
        first | refine wpR_skip (by rfl) ?_ | (refine wpR_text (v := ?_) (by rfl) (fun W k1 => ?_) ?_; rotate_left; (obtain ⟨hc1, hf1⟩ := bcell k1;  go_simp; refine comes_v ?_; exact Below.refl _ _))
        (try simp only [Act.put, List.setIfInBounds_toArray, List.set_cons_zero, List.set_cons_succ])
        first | refine wpR_skip (by rfl) ?_ | (refine wpR_text (v := .agg #[.int .i64 X, .int .i64 Y]) (by rfl) (fun W k1 => ?_) ?_; (obtain ⟨hc1, hf1⟩ := bcell k1;  go_simp; exact comes_c ( KM.out _) (fun wn hbn => hbn)))
        (try simp only [Act.put, List.setIfInBounds_toArray, List.set_cons_zero, List.set_cons_succ])
        refine wpR_nil ?_
        intro W1 W k1 k2
        (try simp only [Act.put, List.setIfInBounds_toArray, List.set_cons_zero, List.set_cons_succ])
        have HA := Lib.hid (al2 (t := 30) k1 k2 X Y)
        obtain ⟨⟨zal, cal0, cal1⟩, fal⟩ := own2_below (own2_new W1 30) k2 (own2_new W1 30).1.1
        unfold Fz at fal
        have LAL := (al_below k1 k2).2.1
        have KB := Lib.hid (al_below k1 k2).1
        have R2w := Lib.hid (own2_below R2.out KB.out R2.out.1.1)
        clear k1 k2
        go_wp2_with fail
        have HA2 := HA.out
        clear HA zal fal cal0 cal1
        obtain ⟨gW4, hgW4⟩ : ∃ x, x = W1.heap.size := ⟨_, rfl⟩
        rw [← hgW4] at HA2 LAL ⊢
        clear hgW4
        generalize ((W.setCell ⟨gW4, 0, none⟩ (.int .i64 X)).setCell ⟨gW4, 1, none⟩ (.int .i64 Y)) = W4 at HA2 ⊢
        have Q2 := Lib.hid HA2.1
        have BW4 := Bw2.trans (HA2.2.mono Bw2.size)
        have R2 := Lib.hid (own2_below R2.out HA2.2 R2.out.1.1)
        clear HA2 KB R2w Bw2
        clear zp fp cp0 cp1 cp2 cp3 cp4 cp5
        clear zq fq cq0 cq1
        refine (KQ.out _).mono ?_; rintro e w5 ⟨rfl, hbw5⟩
        have Bw5 := BW4.trans (hbw5.mono BW4.size)
        have Q2 := Lib.hid (own2_below Q2.out hbw5 Q2.out.1.1)
        have R2 := Lib.hid (own2_below R2.out hbw5 R2.out.1.1)
        clear hbw5 BW4
        have R7 := Lib.hid (at2_set1 (at2_set0 (R2.out.1) X) Y)
        have B7 := Lib.hid ((Bw5.setCell (p := ⟨w.heap.size + 2, 0, none⟩) (Nat.le_add_right _ _) (.int .i64 X)).setCell (p := ⟨w.heap.size + 2, 1, none⟩) (Nat.le_add_right _ _) (.int .i64 Y))
        obtain ⟨⟨zq, cq0, cq1⟩, fq⟩ := Q2.out
        unfold Fz at fq
        obtain ⟨⟨zr, cr0, cr1⟩, fr⟩ := R2.out
        unfold Fz at fr
        go_wp2_with fail
        have R8 := R7.out
        have B8 := B7.out
        clear R7 B7
        revert R8 B8
        generalize ((w5.setCell ⟨w.heap.size + 2, 0, none⟩ (.int .i64 X)).setCell ⟨w.heap.size + 2, 1, none⟩ (.int .i64 Y)) = W9
        intro R8 B8
        obtain ⟨zz, s0, s1⟩ := R8
        exact bodyPost_ret (v := .tuple #[.agg #[.int .i64 X, .int .i64 Y], .bool true]) (by simp [results, Try.results15, go_sem, s0, s1]) rfl ⟨rfl, B8⟩
      · have hq : isPegB X Y = false := by simpa using hq
        rw [hq] at KQ ⊢
        rw [bsel_f, bsel_f]
        clear hq
        go_enter Try.func15, Try.ntmps15
        go_wp2_with fail
        obtain ⟨W0, hW0⟩ : ∃ W0, W0 = (((w.alloc (.cells #[.int .i64 a, .int .i64 b, .int .i64 c, .int .i64 d, .int .i64 x, .int .i64 y] 25)).alloc (.cells #[.int .i64 p1, .int .i64 p2] 30)).alloc (.cells #[.int .i64 0, .int .i64 0] 30)) := ⟨_, rfl⟩
        rw [← hW0]
        have yW00_0 : W0.cell? ⟨w.heap.size, 0, none⟩ = some (.int .i64 a) := by rw [hW0]; go_simp
        have yW00_1 : W0.cell? ⟨w.heap.size, 1, none⟩ = some (.int .i64 b) := by rw [hW0]; go_simp
        have yW00_2 : W0.cell? ⟨w.heap.size, 2, none⟩ = some (.int .i64 c) := by rw [hW0]; go_simp
        have yW00_3 : W0.cell? ⟨w.heap.size, 3, none⟩ = some (.int .i64 d) := by rw [hW0]; go_simp
        have yW00_4 : W0.cell? ⟨w.heap.size, 4, none⟩ = some (.int .i64 x) := by rw [hW0]; go_simp
        have yW00_5 : W0.cell? ⟨w.heap.size, 5, none⟩ = some (.int .i64 y) := by rw [hW0]; go_simp
        have fW00 : ∀ o, W0.frozen? ⟨w.heap.size, o, none⟩ = false := by intro o; rw [hW0]; (repeat rw [frozen?_alloc_cells]); simp [World.frozen?]
        have zW00 : w.heap.size < W0.heap.size := by rw [hW0]; simp <;> omega
        have yW01_0 : W0.cell? ⟨w.heap.size + 1, 0, none⟩ = some (.int .i64 p1) := by rw [hW0]; go_simp
        have yW01_1 : W0.cell? ⟨w.heap.size + 1, 1, none⟩ = some (.int .i64 p2) := by rw [hW0]; go_simp
        have fW01 : ∀ o, W0.frozen? ⟨w.heap.size + 1, o, none⟩ = false := by intro o; rw [hW0]; (repeat rw [frozen?_alloc_cells]); simp [World.frozen?]
        have zW01 : w.heap.size + 1 < W0.heap.size := by rw [hW0]; simp <;> omega
        have yW02_0 : W0.cell? ⟨w.heap.size + 2, 0, none⟩ = some (.int .i64 0) := by rw [hW0]; go_simp
        have yW02_1 : W0.cell? ⟨w.heap.size + 2, 1, none⟩ = some (.int .i64 0) := by rw [hW0]; go_simp
        have fW02 : ∀ o, W0.frozen? ⟨w.heap.size + 2, o, none⟩ = false := by intro o; rw [hW0]; (repeat rw [frozen?_alloc_cells]); simp [World.frozen?]
        have zW02 : w.heap.size + 2 < W0.heap.size := by rw [hW0]; simp <;> omega
        have BW0 : Below w.heap.size w W0 := by rw [hW0]; exact (Below.alloc (Below.alloc (Below.alloc (Below.refl _ _) (by simp <;> omega) _) (by simp <;> omega) _) (by simp <;> omega) _)
        have eW0 : Hid (W0.heap.size = w.heap.size + 3) := Lib.hid (by rw [hW0]; simp)
        clear hW0
        have E6 := Lib.hid (show Own6 W0 (w.heap.size) a b c d x y from ⟨⟨zW00, yW00_0, yW00_1, yW00_2, yW00_3, yW00_4, yW00_5⟩, fW00⟩)
        have P2 := Lib.hid (show Own2 W0 (w.heap.size + 1) p1 p2 from ⟨⟨zW01, yW01_0, yW01_1⟩, fW01⟩)
        have R2 := Lib.hid (show Own2 W0 (w.heap.size + 2) 0 0 from ⟨⟨zW02, yW02_0, yW02_1⟩, fW02⟩)
        clear zW00 fW00 yW00_0 yW00_1 yW00_2 yW00_3 yW00_4 yW00_5 zW01 fW01 yW01_0 yW01_1 zW02 fW02 yW02_0 yW02_1 eW0
        refine (K.out _).mono ?_; rintro e w1 ⟨rfl, hbw1⟩
        have Bw1 := BW0.trans (hbw1.mono BW0.size)
        have E6 := Lib.hid (own6_below E6.out hbw1 E6.out.1.1)
        have P2 := Lib.hid (own2_below P2.out hbw1 P2.out.1.1)
        have R2 := Lib.hid (own2_below R2.out hbw1 R2.out.1.1)
        clear hbw1 BW0
        obtain ⟨⟨zp, cp0, cp1, cp2, cp3, cp4, cp5⟩, fp⟩ := E6.out
        unfold Fz at fp
        obtain ⟨⟨zq, cq0, cq1⟩, fq⟩ := P2.out
        unfold Fz at fq
        go_wp2_with fail
        clear zp fp cp0 cp1 cp2 cp3 cp4 cp5
        clear zq fq cq0 cq1
        refine (KP.out _).mono ?_; rintro e w2 ⟨rfl, hbw2⟩
        have Bw2 := Bw1.trans (hbw2.mono Bw1.size)
        have E6 := Lib.hid (own6_below E6.out hbw2 E6.out.1.1)
        have P2 := Lib.hid (own2_below P2.out hbw2 P2.out.1.1)
        have R2 := Lib.hid (own2_below R2.out hbw2 R2.out.1.1)
        clear hbw2 Bw1
        obtain ⟨⟨zp, cp0, cp1, cp2, cp3, cp4, cp5⟩, fp⟩ := E6.out
        unfold Fz at fp
        obtain ⟨⟨zq, cq0, cq1⟩, fq⟩ := P2.out
        unfold Fz at fq
        go_wp2_with fail
        refine wp_region_AL 4 (w2) (obj := .cells #[.int .i64 0, .int .i64 0] 30) (by kernel_rfl) (by kernel_rfl) (by repeat (first | exact Below.refl _ _ | apply Below.drew)) rfl (fun _ => by rfl) (fun _ _ => by first | rfl | go_simp) ?_
        simp only [List.take_succ_cons, List.take_zero, List.drop_succ_cons, List.drop_zero]
        first | refine wpR_skip (by rfl) ?_ | (refine wpR_text (v := ?_) (by rfl) (fun W k1 => ?_) ?_; rotate_left; (obtain ⟨hc1, hf1⟩ := bcell k1;  go_simp; refine comes_v ?_; exact Below.refl _ _))
        (try simp only [Act.put, List.setIfInBounds_toArray, List.set_cons_zero, List.set_cons_succ])
        first | refine wpR_skip (by rfl) ?_ | (refine wpR_text (v := .agg #[.int .i64 a, .int .i64 b, .int .i64 c, .int .i64 d, .int .i64 x, .int .i64 y]) (by rfl) (fun W k1 => ?_) ?_; (obtain ⟨hc1, hf1⟩ := bcell k1;  go_simp; exact comes_c ( KW.out _) (fun wn hbn => hbn)))
        (try simp only [Act.put, List.setIfInBounds_toArray, List.set_cons_zero, List.set_cons_succ])
        first | refine wpR_skip (by rfl) ?_ | (refine wpR_text (v := ?_) (by rfl) (fun W k1 => ?_) ?_; rotate_left; (obtain ⟨hc1, hf1⟩ := bcell k1;  go_simp; refine comes_v ?_; exact Below.refl _ _))
        (try simp only [Act.put, List.setIfInBounds_toArray, List.set_cons_zero, List.set_cons_succ])
        first | refine wpR_skip (by rfl) ?_ | (refine wpR_text (v := .agg #[.int .i64 X, .int .i64 Y]) (by rfl) (fun W k1 => ?_) ?_; (obtain ⟨hc1, hf1⟩ := bcell k1;  go_simp; exact comes_c ( KM.out _) (fun wn hbn => hbn)))
        (try simp only [Act.put, List.setIfInBounds_toArray, List.set_cons_zero, List.set_cons_succ])
        refine wpR_nil ?_
        intro W1 W k1 k2
        (try simp only [Act.put, List.setIfInBounds_toArray, List.set_cons_zero, List.set_cons_succ])
        have HA := Lib.hid (al2 (t := 30) k1 k2 X Y)
        obtain ⟨⟨zal, cal0, cal1⟩, fal⟩ := own2_below (own2_new W1 30) k2 (own2_new W1 30).1.1
        unfold Fz at fal
        have LAL := (al_below k1 k2).2.1
        have KB := Lib.hid (al_below k1 k2).1
        have R2w := Lib.hid (own2_below R2.out KB.out R2.out.1.1)
        clear k1 k2
        go_wp2_with fail
        have HA2 := HA.out
        clear HA zal fal cal0 cal1
        obtain ⟨gW4, hgW4⟩ : ∃ x, x = W1.heap.size := ⟨_, rfl⟩
        rw [← hgW4] at HA2 LAL ⊢
        clear hgW4
        generalize ((W.setCell ⟨gW4, 0, none⟩ (.int .i64 X)).setCell ⟨gW4, 1, none⟩ (.int .i64 Y)) = W4 at HA2 ⊢
        have Q2 := Lib.hid HA2.1
        have BW4 := Bw2.trans (HA2.2.mono Bw2.size)
        have R2 := Lib.hid (own2_below R2.out HA2.2 R2.out.1.1)
        clear HA2 KB R2w Bw2
        clear zp fp cp0 cp1 cp2 cp3 cp4 cp5
        clear zq fq cq0 cq1
        refine (KQ.out _).mono ?_; rintro e w5 ⟨rfl, hbw5⟩
        have Bw5 := BW4.trans (hbw5.mono BW4.size)
        have Q2 := Lib.hid (own2_below Q2.out hbw5 Q2.out.1.1)
        have R2 := Lib.hid (own2_below R2.out hbw5 R2.out.1.1)
        clear hbw5 BW4
        have R7 := Lib.hid (at2_set1 (at2_set0 (R2.out.1) 0) 0)
        have B7 := Lib.hid ((Bw5.setCell (p := ⟨w.heap.size + 2, 0, none⟩) (Nat.le_add_right _ _) (.int .i64 0)).setCell (p := ⟨w.heap.size + 2, 1, none⟩) (Nat.le_add_right _ _) (.int .i64 0))
        obtain ⟨⟨zr, cr0, cr1⟩, fr⟩ := R2.out
        unfold Fz at fr
        go_wp2_with fail
        have R8 := R7.out
        have B8 := B7.out
        clear R7 B7
        revert R8 B8
        generalize ((w5.setCell ⟨w.heap.size + 2, 0, none⟩ (.int .i64 0)).setCell ⟨w.heap.size + 2, 1, none⟩ (.int .i64 0)) = W9
        intro R8 B8
        obtain ⟨zz, s0, s1⟩ := R8
        exact bodyPost_ret (v := .tuple #[.agg #[.int .i64 0, .int .i64 0], .bool false]) (by simp [results, Try.results15, go_sem, s0, s1]) rfl ⟨rfl, B8⟩
    · have hp : isPegB p1 p2 = false := by simpa using hp
      rw [hp] at KP ⊢
      rw [Bool.false_and, bsel_f, bsel_f]
      clear hp hg u1 u2 u3 u4 u5 u6 u7 u8 u9 u10 u11 u12
      go_enter Try.func15, Try.ntmps15
      go_wp2_with fail
      obtain ⟨W0, hW0⟩ : ∃ W0, W0 = (((w.alloc (.cells #[.int .i64 a, .int .i64 b, .int .i64 c, .int .i64 d, .int .i64 x, .int .i64 y] 25)).alloc (.cells #[.int .i64 p1, .int .i64 p2] 30)).alloc (.cells #[.int .i64 0, .int .i64 0] 30)) := ⟨_, rfl⟩
      rw [← hW0]
      have yW00_0 : W0.cell? ⟨w.heap.size, 0, none⟩ = some (.int .i64 a) := by rw [hW0]; go_simp
      have yW00_1 : W0.cell? ⟨w.heap.size, 1, none⟩ = some (.int .i64 b) := by rw [hW0]; go_simp
      have yW00_2 : W0.cell? ⟨w.heap.size, 2, none⟩ = some (.int .i64 c) := by rw [hW0]; go_simp
      have yW00_3 : W0.cell? ⟨w.heap.size, 3, none⟩ = some (.int .i64 d) := by rw [hW0]; go_simp
      have yW00_4 : W0.cell? ⟨w.heap.size, 4, none⟩ = some (.int .i64 x) := by rw [hW0]; go_simp
      have yW00_5 : W0.cell? ⟨w.heap.size, 5, none⟩ = some (.int .i64 y) := by rw [hW0]; go_simp
      have fW00 : ∀ o, W0.frozen? ⟨w.heap.size, o, none⟩ = false := by intro o; rw [hW0]; (repeat rw [frozen?_alloc_cells]); simp [World.frozen?]
      have zW00 : w.heap.size < W0.heap.size := by rw [hW0]; simp <;> omega
      have yW01_0 : W0.cell? ⟨w.heap.size + 1, 0, none⟩ = some (.int .i64 p1) := by rw [hW0]; go_simp
      have yW01_1 : W0.cell? ⟨w.heap.size + 1, 1, none⟩ = some (.int .i64 p2) := by rw [hW0]; go_simp
      have fW01 : ∀ o, W0.frozen? ⟨w.heap.size + 1, o, none⟩ = false := by intro o; rw [hW0]; (repeat rw [frozen?_alloc_cells]); simp [World.frozen?]
      have zW01 : w.heap.size + 1 < W0.heap.size := by rw [hW0]; simp <;> omega
      have yW02_0 : W0.cell? ⟨w.heap.size + 2, 0, none⟩ = some (.int .i64 0) := by rw [hW0]; go_simp
      have yW02_1 : W0.cell? ⟨w.heap.size + 2, 1, none⟩ = some (.int .i64 0) := by rw [hW0]; go_simp
      have fW02 : ∀ o, W0.frozen? ⟨w.heap.size + 2, o, none⟩ = false := by intro o; rw [hW0]; (repeat rw [frozen?_alloc_cells]); simp [World.frozen?]
      have zW02 : w.heap.size + 2 < W0.heap.size := by rw [hW0]; simp <;> omega
      have BW0 : Below w.heap.size w W0 := by rw [hW0]; exact (Below.alloc (Below.alloc (Below.alloc (Below.refl _ _) (by simp <;> omega) _) (by simp <;> omega) _) (by simp <;> omega) _)
      have eW0 : Hid (W0.heap.size = w.heap.size + 3) := Lib.hid (by rw [hW0]; simp)
      clear hW0
      have E6 := Lib.hid (show Own6 W0 (w.heap.size) a b c d x y from ⟨⟨zW00, yW00_0, yW00_1, yW00_2, yW00_3, yW00_4, yW00_5⟩, fW00⟩)
      have P2 := Lib.hid (show Own2 W0 (w.heap.size + 1) p1 p2 from ⟨⟨zW01, yW01_0, yW01_1⟩, fW01⟩)
      have R2 := Lib.hid (show Own2 W0 (w.heap.size + 2) 0 0 from ⟨⟨zW02, yW02_0, yW02_1⟩, fW02⟩)
      clear zW00 fW00 yW00_0 yW00_1 yW00_2 yW00_3 yW00_4 yW00_5 zW01 fW01 yW01_0 yW01_1 zW02 fW02 yW02_0 yW02_1 eW0
      refine (K.out _).mono ?_; rintro e w1 ⟨rfl, hbw1⟩
      have Bw1 := BW0.trans (hbw1.mono BW0.size)
      have E6 := Lib.hid (own6_below E6.out hbw1 E6.out.1.1)
      have P2 := Lib.hid (own2_below P2.out hbw1 P2.out.1.1)
      have R2 := Lib.hid (own2_below R2.out hbw1 R2.out.1.1)
      clear hbw1 BW0
      obtain ⟨⟨zp, cp0, cp1, cp2, cp3, cp4, cp5⟩, fp⟩ := E6.out
      unfold Fz at fp
      obtain ⟨⟨zq, cq0, cq1⟩, fq⟩ := P2.out
      unfold Fz at fq
      go_wp2_with fail
      clear zp fp cp0 cp1 cp2 cp3 cp4 cp5
      clear zq fq cq0 cq1
      refine (KP.out _).mono ?_; rintro e w2 ⟨rfl, hbw2⟩
      have Bw2 := Bw1.trans (hbw2.mono Bw1.size)
      have E6 := Lib.hid (own6_below E6.out hbw2 E6.out.1.1)
      have P2 := Lib.hid (own2_below P2.out hbw2 P2.out.1.1)
      have R2 := Lib.hid (own2_below R2.out hbw2 R2.out.1.1)
      clear hbw2 Bw1
      have R7 := Lib.hid (at2_set1 (at2_set0 (R2.out.1) 0) 0)
      have B7 := Lib.hid ((Bw2.setCell (p := ⟨w.heap.size + 2, 0, none⟩) (Nat.le_add_right _ _) (.int .i64 0)).setCell (p := ⟨w.heap.size + 2, 1, none⟩) (Nat.le_add_right _ _) (.int .i64 0))
      obtain ⟨⟨zr, cr0, cr1⟩, fr⟩ := R2.out
      unfold Fz at fr
      go_wp2_with fail
      have R8 := R7.out
      have B8 := B7.out
      clear R7 B7
      revert R8 B8
      generalize ((w2.setCell ⟨w.heap.size + 2, 0, none⟩ (.int .i64 0)).setCell ⟨w.heap.size + 2, 1, none⟩ (.int .i64 0)) = W9
      intro R8 B8
      obtain ⟨zz, s0, s1⟩ := R8
      exact bodyPost_ret (v := .tuple #[.agg #[.int .i64 0, .int .i64 0], .bool false]) (by simp [results, Try.results15, go_sem, s0, s1]) rfl ⟨rfl, B8⟩
  · have hg : goodM a b c d x y = false := by simpa using hg
    rw [hg] at K ⊢
    rw [Bool.false_and, bsel_f, bsel_f]
    clear hg KP
    go_enter Try.func15, Try.ntmps15
    go_wp2_with fail
    obtain ⟨W0, hW0⟩ : ∃ W0, W0 = (((w.alloc (.cells #[.int .i64 a, .int .i64 b, .int .i64 c, .int .i64 d, .int .i64 x, .int .i64 y] 25)).alloc (.cells #[.int .i64 p1, .int .i64 p2] 30)).alloc (.cells #[.int .i64 0, .int .i64 0] 30)) := ⟨_, rfl⟩
    rw [← hW0]
    have yW00_0 : W0.cell? ⟨w.heap.size, 0, none⟩ = some (.int .i64 a) := by rw [hW0]; go_simp
    have yW00_1 : W0.cell? ⟨w.heap.size, 1, none⟩ = some (.int .i64 b) := by rw [hW0]; go_simp
    have yW00_2 : W0.cell? ⟨w.heap.size, 2, none⟩ = some (.int .i64 c) := by rw [hW0]; go_simp
    have yW00_3 : W0.cell? ⟨w.heap.size, 3, none⟩ = some (.int .i64 d) := by rw [hW0]; go_simp
    have yW00_4 : W0.cell? ⟨w.heap.size, 4, none⟩ = some (.int .i64 x) := by rw [hW0]; go_simp
    have yW00_5 : W0.cell? ⟨w.heap.size, 5, none⟩ = some (.int .i64 y) := by rw [hW0]; go_simp
    have fW00 : ∀ o, W0.frozen? ⟨w.heap.size, o, none⟩ = false := by intro o; rw [hW0]; (repeat rw [frozen?_alloc_cells]); simp [World.frozen?]
    have zW00 : w.heap.size < W0.heap.size := by rw [hW0]; simp <;> omega
    have yW01_0 : W0.cell? ⟨w.heap.size + 1, 0, none⟩ = some (.int .i64 p1) := by rw [hW0]; go_simp
    have yW01_1 : W0.cell? ⟨w.heap.size + 1, 1, none⟩ = some (.int .i64 p2) := by rw [hW0]; go_simp
    have fW01 : ∀ o, W0.frozen? ⟨w.heap.size + 1, o, none⟩ = false := by intro o; rw [hW0]; (repeat rw [frozen?_alloc_cells]); simp [World.frozen?]
    have zW01 : w.heap.size + 1 < W0.heap.size := by rw [hW0]; simp <;> omega
    have yW02_0 : W0.cell? ⟨w.heap.size + 2, 0, none⟩ = some (.int .i64 0) := by rw [hW0]; go_simp
    have yW02_1 : W0.cell? ⟨w.heap.size + 2, 1, none⟩ = some (.int .i64 0) := by rw [hW0]; go_simp
    have fW02 : ∀ o, W0.frozen? ⟨w.heap.size + 2, o, none⟩ = false := by intro o; rw [hW0]; (repeat rw [frozen?_alloc_cells]); simp [World.frozen?]
    have zW02 : w.heap.size + 2 < W0.heap.size := by rw [hW0]; simp <;> omega
    have BW0 : Below w.heap.size w W0 := by rw [hW0]; exact (Below.alloc (Below.alloc (Below.alloc (Below.refl _ _) (by simp <;> omega) _) (by simp <;> omega) _) (by simp <;> omega) _)
    have eW0 : Hid (W0.heap.size = w.heap.size + 3) := Lib.hid (by rw [hW0]; simp)
    clear hW0
    have E6 := Lib.hid (show Own6 W0 (w.heap.size) a b c d x y from ⟨⟨zW00, yW00_0, yW00_1, yW00_2, yW00_3, yW00_4, yW00_5⟩, fW00⟩)
    have P2 := Lib.hid (show Own2 W0 (w.heap.size + 1) p1 p2 from ⟨⟨zW01, yW01_0, yW01_1⟩, fW01⟩)
    have R2 := Lib.hid (show Own2 W0 (w.heap.size + 2) 0 0 from ⟨⟨zW02, yW02_0, yW02_1⟩, fW02⟩)
    clear zW00 fW00 yW00_0 yW00_1 yW00_2 yW00_3 yW00_4 yW00_5 zW01 fW01 yW01_0 yW01_1 zW02 fW02 yW02_0 yW02_1 eW0
    refine (K.out _).mono ?_; rintro e w1 ⟨rfl, hbw1⟩
    have Bw1 := BW0.trans (hbw1.mono BW0.size)
    have E6 := Lib.hid (own6_below E6.out hbw1 E6.out.1.1)
    have P2 := Lib.hid (own2_below P2.out hbw1 P2.out.1.1)
    have R2 := Lib.hid (own2_below R2.out hbw1 R2.out.1.1)
    clear hbw1 BW0
    have R7 := Lib.hid (at2_set1 (at2_set0 (R2.out.1) 0) 0)
    have B7 := Lib.hid ((Bw1.setCell (p := ⟨w.heap.size + 2, 0, none⟩) (Nat.le_add_right _ _) (.int .i64 0)).setCell (p := ⟨w.heap.size + 2, 1, none⟩) (Nat.le_add_right _ _) (.int .i64 0))
    obtain ⟨⟨zr, cr0, cr1⟩, fr⟩ := R2.out
    unfold Fz at fr
    go_wp2_with fail
    have R8 := R7.out
    have B8 := B7.out
    clear R7 B7
    revert R8 B8
    generalize ((w1.setCell ⟨w.heap.size + 2, 0, none⟩ (.int .i64 0)).setCell ⟨w.heap.size + 2, 1, none⟩ (.int .i64 0)) = W9
    intro R8 B8
    obtain ⟨zz, s0, s1⟩ := R8
    exact bodyPost_ret (v := .tuple #[.agg #[.int .i64 0, .int .i64 0], .bool false]) (by simp [results, Try.results15, go_sem, s0, s1]) rfl ⟨rfl, B8⟩
end Go.Proofs.Ytjlihafpnppchaa
