/- contracts: JoinMoves and BackMove, on both sides -/
import Derived.Test.YtjlihafpnppchaaMj
import Derived.Test.YtjlihafpnppchaaMe
namespace Go.Proofs.Ytjlihafpnppchaa
open Go.ChangeShapes Go.WideShapes Go.ChangeAt Go.RowKit Go.Joins
set_option linter.unusedVariables false
set_option linter.unusedSimpArgs false
theorem own6_other {w : World} {g k : Nat} {a b c d x y : Int} (h : Own6 w g a b c d x y) (hn : g ≠ k) (o : Nat) (v : Value) : Own6 (w.setCell ⟨k, o, none⟩ v) g a b c d x y :=
  ⟨at6_other h.1 hn o v, fun q => by rw [World.frozen?_setCell]; exact h.2 q⟩
set_option maxHeartbeats 2000000 in
theorem specBackMove_any (a b c d x y : Int) (w : World) :
    Calls Try.prog 24 #[.agg #[.int .i64 a, .int .i64 b, .int .i64 c, .int .i64 d, .int .i64 x, .int .i64 y]] w fun e w' => e = .returned (.tuple #[.agg #[.int .i64 (bsel (goodM a b c d x y && (goodM ((a * d - b * c) * d) (-(a * d - b * c) * b) (-(a * d - b * c) * c) ((a * d - b * c) * a) (-((a * d - b * c) * d * x + -(a * d - b * c) * b * y)) (-(-(a * d - b * c) * c * x + (a * d - b * c) * a * y)))) (((a * d - b * c) * d))), .int .i64 (bsel (goodM a b c d x y && (goodM ((a * d - b * c) * d) (-(a * d - b * c) * b) (-(a * d - b * c) * c) ((a * d - b * c) * a) (-((a * d - b * c) * d * x + -(a * d - b * c) * b * y)) (-(-(a * d - b * c) * c * x + (a * d - b * c) * a * y)))) ((-(a * d - b * c) * b))), .int .i64 (bsel (goodM a b c d x y && (goodM ((a * d - b * c) * d) (-(a * d - b * c) * b) (-(a * d - b * c) * c) ((a * d - b * c) * a) (-((a * d - b * c) * d * x + -(a * d - b * c) * b * y)) (-(-(a * d - b * c) * c * x + (a * d - b * c) * a * y)))) ((-(a * d - b * c) * c))), .int .i64 (bsel (goodM a b c d x y && (goodM ((a * d - b * c) * d) (-(a * d - b * c) * b) (-(a * d - b * c) * c) ((a * d - b * c) * a) (-((a * d - b * c) * d * x + -(a * d - b * c) * b * y)) (-(-(a * d - b * c) * c * x + (a * d - b * c) * a * y)))) (((a * d - b * c) * a))), .int .i64 (bsel (goodM a b c d x y && (goodM ((a * d - b * c) * d) (-(a * d - b * c) * b) (-(a * d - b * c) * c) ((a * d - b * c) * a) (-((a * d - b * c) * d * x + -(a * d - b * c) * b * y)) (-(-(a * d - b * c) * c * x + (a * d - b * c) * a * y)))) ((-((a * d - b * c) * d * x + -(a * d - b * c) * b * y)))), .int .i64 (bsel (goodM a b c d x y && (goodM ((a * d - b * c) * d) (-(a * d - b * c) * b) (-(a * d - b * c) * c) ((a * d - b * c) * a) (-((a * d - b * c) * d * x + -(a * d - b * c) * b * y)) (-(-(a * d - b * c) * c * x + (a * d - b * c) * a * y)))) ((-(-(a * d - b * c) * c * x + (a * d - b * c) * a * y))))], .bool (goodM a b c d x y && (goodM ((a * d - b * c) * d) (-(a * d - b * c) * b) (-(a * d - b * c) * c) ((a * d - b * c) * a) (-((a * d - b * c) * d * x + -(a * d - b * c) * b * y)) (-(-(a * d - b * c) * c * x + (a * d - b * c) * a * y))))]) ∧ Below w.heap.size w w' := by
  have K := Lib.hid (fun W => mvGood_any a b c d x y W)
  by_cases hg : goodM a b c d x y = true
  · obtain ⟨⟨⟨u1, u2⟩, ⟨u3, u4⟩, ⟨u5, u6⟩, ⟨u7, u8⟩⟩, ⟨u9, u10⟩, ⟨u11, u12⟩⟩ := good_bd hg
    have hs : a * d - b * c = 1 ∨ a * d - b * c = -1 := by
      have hg2 := hg
      unfold goodM at hg2
      simp only [Bool.and_eq_true, decide_eq_true_eq] at hg2
      omega
    obtain ⟨⟨n1, n2⟩, ⟨n3, n4⟩⟩ := side_bd (good_all4 hg)
    rw [hg] at K ⊢
    rw [Bool.true_and]
    clear hg
    have w1 : IntKind.i64.wrap (a * d) = a * d := IntWalk.i64_in _ (by omega)
    have w2 : IntKind.i64.wrap (b * c) = b * c := IntWalk.i64_in _ (by omega)
    have hs' := hs
    obtain ⟨s, hS⟩ : ∃ s, s = a * d - b * c := ⟨_, rfl⟩
    rw [← hS] at hs' ⊢
    obtain ⟨A, hA⟩ : ∃ A, A = s * d := ⟨_, rfl⟩
    obtain ⟨B, hB⟩ : ∃ B, B = -s * b := ⟨_, rfl⟩
    obtain ⟨C, hC⟩ : ∃ C, C = -s * c := ⟨_, rfl⟩
    obtain ⟨D, hD⟩ : ∃ D, D = s * a := ⟨_, rfl⟩
    have bA : -10000000 ≤ A ∧ A ≤ 10000000 := by rw [hA]; rcases hs' with h | h <;> rw [h] <;> omega
    have bB : -10000000 ≤ B ∧ B ≤ 10000000 := by rw [hB]; rcases hs' with h | h <;> rw [h] <;> omega
    have bC : -10000000 ≤ C ∧ C ≤ 10000000 := by rw [hC]; rcases hs' with h | h <;> rw [h] <;> omega
    have bD : -10000000 ≤ D ∧ D ≤ 10000000 := by rw [hD]; rcases hs' with h | h <;> rw [h] <;> omega
    have e0 : IntKind.i64.wrap (-s) = -s := IntWalk.i64_in _ (by rcases hs' with h | h <;> rw [h] <;> omega)
    have e1 : IntKind.i64.wrap (s * d) = A := by rw [← hA]; exact IntWalk.i64_in _ (by omega)
    have e2 : IntKind.i64.wrap (-s * b) = B := by rw [← hB]; exact IntWalk.i64_in _ (by omega)
    have e3 : IntKind.i64.wrap (-s * c) = C := by rw [← hC]; exact IntWalk.i64_in _ (by omega)
    have e4 : IntKind.i64.wrap (s * a) = D := by rw [← hD]; exact IntWalk.i64_in _ (by omega)
    have e2' : IntKind.i64.wrap (-(s * b)) = B := by rw [← Int.neg_mul]; exact e2
    have e3' : IntKind.i64.wrap (-(s * c)) = C := by rw [← Int.neg_mul]; exact e3
    rw [← hA, ← hB, ← hC, ← hD]
    have w3 : IntKind.i64.wrap (a * d - b * c) = s := by rw [← hS]; exact IntWalk.i64_in _ (by omega)
    have KM := Lib.hid (fun W => by
      have h := mvPeg_any A B C D 0 0 x y W bA bB bC bD (by omega) (by omega) (by omega) (by omega)
      simp only [Int.add_zero] at h
      exact h)
    have bx := bring_bd (a := A) (b := B) (x := 0) (p := x) (q := y) bA bB (by omega) (by omega) (by omega)
    have bY := bring_bd (a := C) (b := D) (x := 0) (p := x) (q := y) bC bD (by omega) (by omega) (by omega)
    simp only [Int.add_zero] at bx bY
    have KI := Lib.hid (fun W => mvIf_any A B C D (-(A * x + B * y)) (-(C * x + D * y)) W)
    clear hs hs' hS hA hB hC hD bA bB bC bD u1 u2 u3 u4 u5 u6 u7 u8 u9 u10 u11 u12 n1 n2 n3 n4
    generalize A * x + B * y = t1 at *
    generalize C * x + D * y = t2 at *
    have f1 : IntKind.i64.wrap (-t1) = -t1 := IntWalk.i64_in _ (by omega)
    have f2 : IntKind.i64.wrap (-t2) = -t2 := IntWalk.i64_in _ (by omega)
    clear bx bY
    generalize bsel (goodM A B C D (-t1) (-t2)) A = v0 at *
    generalize bsel (goodM A B C D (-t1) (-t2)) B = v1 at *
    generalize bsel (goodM A B C D (-t1) (-t2)) C = v2 at *
    generalize bsel (goodM A B C D (-t1) (-t2)) D = v3 at *
    generalize bsel (goodM A B C D (-t1) (-t2)) (-t1) = v4 at *
    generalize bsel (goodM A B C D (-t1) (-t2)) (-t2) = v5 at *
    generalize goodM A B C D (-t1) (-t2) = gg at *
    go_enter Try.func24, Try.ntmps24
    go_wp2_with fail
    obtain ⟨W0, hW0⟩ : ∃ W0, W0 = ((w.alloc (.cells #[.int .i64 a, .int .i64 b, .int .i64 c, .int .i64 d, .int .i64 x, .int .i64 y] 25)).alloc (.cells #[.int .i64 0, .int .i64 0, .int .i64 0, .int .i64 0, .int .i64 0, .int .i64 0] 25)) := ⟨_, rfl⟩
    rw [← hW0]
    have yW00_0 : W0.cell? ⟨w.heap.size, 0, none⟩ = some (.int .i64 a) := by rw [hW0]; go_simp
    have yW00_1 : W0.cell? ⟨w.heap.size, 1, none⟩ = some (.int .i64 b) := by rw [hW0]; go_simp
    have yW00_2 : W0.cell? ⟨w.heap.size, 2, none⟩ = some (.int .i64 c) := by rw [hW0]; go_simp
    have yW00_3 : W0.cell? ⟨w.heap.size, 3, none⟩ = some (.int .i64 d) := by rw [hW0]; go_simp
    have yW00_4 : W0.cell? ⟨w.heap.size, 4, none⟩ = some (.int .i64 x) := by rw [hW0]; go_simp
    have yW00_5 : W0.cell? ⟨w.heap.size, 5, none⟩ = some (.int .i64 y) := by rw [hW0]; go_simp
    have fW00 : ∀ o, W0.frozen? ⟨w.heap.size, o, none⟩ = false := by intro o; rw [hW0]; (repeat rw [frozen?_alloc_cells]); simp [World.frozen?]
    have zW00 : w.heap.size < W0.heap.size := by rw [hW0]; simp <;> omega
    have yW01_0 : W0.cell? ⟨w.heap.size + 1, 0, none⟩ = some (.int .i64 0) := by rw [hW0]; go_simp
    have yW01_1 : W0.cell? ⟨w.heap.size + 1, 1, none⟩ = some (.int .i64 0) := by rw [hW0]; go_simp
    have yW01_2 : W0.cell? ⟨w.heap.size + 1, 2, none⟩ = some (.int .i64 0) := by rw [hW0]; go_simp
    have yW01_3 : W0.cell? ⟨w.heap.size + 1, 3, none⟩ = some (.int .i64 0) := by rw [hW0]; go_simp
    have yW01_4 : W0.cell? ⟨w.heap.size + 1, 4, none⟩ = some (.int .i64 0) := by rw [hW0]; go_simp
    have yW01_5 : W0.cell? ⟨w.heap.size + 1, 5, none⟩ = some (.int .i64 0) := by rw [hW0]; go_simp
    have fW01 : ∀ o, W0.frozen? ⟨w.heap.size + 1, o, none⟩ = false := by intro o; rw [hW0]; (repeat rw [frozen?_alloc_cells]); simp [World.frozen?]
    have zW01 : w.heap.size + 1 < W0.heap.size := by rw [hW0]; simp <;> omega
    have BW0 : Below w.heap.size w W0 := by rw [hW0]; exact (Below.alloc (Below.alloc (Below.refl _ _) (by simp <;> omega) _) (by simp <;> omega) _)
    have eW0 : Hid (W0.heap.size = w.heap.size + 2) := Lib.hid (by rw [hW0]; simp)
    clear hW0
    have E6 := Lib.hid (show Own6 W0 (w.heap.size) a b c d x y from ⟨⟨zW00, yW00_0, yW00_1, yW00_2, yW00_3, yW00_4, yW00_5⟩, fW00⟩)
    have R6 := Lib.hid (show Own6 W0 (w.heap.size + 1) 0 0 0 0 0 0 from ⟨⟨zW01, yW01_0, yW01_1, yW01_2, yW01_3, yW01_4, yW01_5⟩, fW01⟩)
    clear zW00 fW00 yW00_0 yW00_1 yW00_2 yW00_3 yW00_4 yW00_5 zW01 fW01 yW01_0 yW01_1 yW01_2 yW01_3 yW01_4 yW01_5 eW0
    refine (K.out _).mono ?_; rintro e w1 ⟨rfl, hbw1⟩
    have Bw1 := BW0.trans (hbw1.mono BW0.size)
    have E6 := Lib.hid (own6_below E6.out hbw1 E6.out.1.1)
    have R6 := Lib.hid (own6_below R6.out hbw1 R6.out.1.1)
    clear hbw1 BW0
    obtain ⟨⟨zp, cp0, cp1, cp2, cp3, cp4, cp5⟩, fp⟩ := E6.out
    unfold Fz at fp
    go_wp2_with fail
    clear zp fp cp0 cp1 cp2 cp3 cp4 cp5
    obtain ⟨W2, hW2⟩ : ∃ W2, W2 = (w1.alloc (.cells #[.int .i64 A, .int .i64 B, .int .i64 C, .int .i64 D, .int .i64 0, .int .i64 0] 25)) := ⟨_, rfl⟩
    rw [← hW2]
    have yW20_0 : W2.cell? ⟨w1.heap.size, 0, none⟩ = some (.int .i64 A) := by rw [hW2]; go_simp
    have yW20_1 : W2.cell? ⟨w1.heap.size, 1, none⟩ = some (.int .i64 B) := by rw [hW2]; go_simp
    have yW20_2 : W2.cell? ⟨w1.heap.size, 2, none⟩ = some (.int .i64 C) := by rw [hW2]; go_simp
    have yW20_3 : W2.cell? ⟨w1.heap.size, 3, none⟩ = some (.int .i64 D) := by rw [hW2]; go_simp
    have yW20_4 : W2.cell? ⟨w1.heap.size, 4, none⟩ = some (.int .i64 0) := by rw [hW2]; go_simp
    have yW20_5 : W2.cell? ⟨w1.heap.size, 5, none⟩ = some (.int .i64 0) := by rw [hW2]; go_simp
    have fW20 : ∀ o, W2.frozen? ⟨w1.heap.size, o, none⟩ = false := by intro o; rw [hW2]; (repeat rw [frozen?_alloc_cells]); simp [World.frozen?]
    have zW20 : w1.heap.size < W2.heap.size := by rw [hW2]; simp <;> omega
    have BW2 : Below w1.heap.size w1 W2 := by rw [hW2]; exact (Below.alloc (Below.refl _ _) (by simp <;> omega) _)
    have eW2 : Hid (W2.heap.size = w1.heap.size + 1) := Lib.hid (by rw [hW2]; simp)
    clear hW2
    have nk : w.heap.size + 1 < w1.heap.size := R6.out.1.1
    have R6 := Lib.hid (own6_below R6.out BW2 R6.out.1.1)
    have T6 := Lib.hid (show Own6 W2 (w1.heap.size) A B C D 0 0 from ⟨⟨zW20, yW20_0, yW20_1, yW20_2, yW20_3, yW20_4, yW20_5⟩, fW20⟩)
    have BW2 := Bw1.trans (BW2.mono Bw1.size)
    have zk := Bw1.size
    clear Bw1
    clear zW20 fW20 yW20_0 yW20_1 yW20_2 yW20_3 yW20_4 yW20_5 eW2
    refine (KM.out _).mono ?_; rintro e w3 ⟨rfl, hbw3⟩
    have Bw3 := BW2.trans (hbw3.mono BW2.size)
    have R6 := Lib.hid (own6_below R6.out hbw3 R6.out.1.1)
    have T6 := Lib.hid (own6_below T6.out hbw3 T6.out.1.1)
    clear hbw3 BW2
    obtain ⟨⟨zq, cq0, cq1, cq2, cq3, cq4, cq5⟩, fq⟩ := T6.out
    unfold Fz at fq
    go_wp2_with fail
    clear zq fq cq0 cq1 cq2 cq3 cq4 cq5
    have R1 := own6_other (own6_other R6.out (k := w1.heap.size) (by omega) 4 (.int .i64 (-t1))) (k := w1.heap.size) (by omega) 5 (.int .i64 (-t2))
    have B1 := (Bw3.setCell (p := ⟨w1.heap.size, 4, none⟩) zk (.int .i64 (-t1))).setCell (p := ⟨w1.heap.size, 5, none⟩) zk (.int .i64 (-t2))
    have RX := own6_below R1 (Below.alloc (Below.refl _ _) (Nat.le_refl _) (.cells #[.int .i64 t1, .int .i64 t2] 30)) R1.1.1
    have BX := B1.alloc B1.size (.cells #[.int .i64 t1, .int .i64 t2] 30)
    clear R6 Bw3 T6 R1 B1
    generalize (((w3.setCell ⟨w1.heap.size, 4, none⟩ (.int .i64 (-t1))).setCell ⟨w1.heap.size, 5, none⟩ (.int .i64 (-t2))).alloc (.cells #[.int .i64 t1, .int .i64 t2] 30)) = W4 at *
    have R6 := Lib.hid RX
    have BW4 := BX
    clear RX BX
    refine (KI.out _).mono ?_; rintro e w5 ⟨rfl, hbw5⟩
    have Bw5 := BW4.trans (hbw5.mono BW4.size)
    have R6 := Lib.hid (own6_below R6.out hbw5 R6.out.1.1)
    clear hbw5 BW4
    have R7 := Lib.hid (at6_set5 (at6_set4 (at6_set3 (at6_set2 (at6_set1 (at6_set0 (R6.out.1) v0) v1) v2) v3) v4) v5)
    have B7 := Lib.hid ((((((Bw5.setCell (p := ⟨w.heap.size + 1, 0, none⟩) (Nat.le_add_right _ _) (.int .i64 v0)).setCell (p := ⟨w.heap.size + 1, 1, none⟩) (Nat.le_add_right _ _) (.int .i64 v1)).setCell (p := ⟨w.heap.size + 1, 2, none⟩) (Nat.le_add_right _ _) (.int .i64 v2)).setCell (p := ⟨w.heap.size + 1, 3, none⟩) (Nat.le_add_right _ _) (.int .i64 v3)).setCell (p := ⟨w.heap.size + 1, 4, none⟩) (Nat.le_add_right _ _) (.int .i64 v4)).setCell (p := ⟨w.heap.size + 1, 5, none⟩) (Nat.le_add_right _ _) (.int .i64 v5))
    obtain ⟨⟨zr, cr0, cr1, cr2, cr3, cr4, cr5⟩, fr⟩ := R6.out
    unfold Fz at fr
    go_wp2_with fail
    have R8 := R7.out
    have B8 := B7.out
    clear R7 B7
    revert R8 B8
    generalize ((((((w5.setCell ⟨w.heap.size + 1, 0, none⟩ (.int .i64 v0)).setCell ⟨w.heap.size + 1, 1, none⟩ (.int .i64 v1)).setCell ⟨w.heap.size + 1, 2, none⟩ (.int .i64 v2)).setCell ⟨w.heap.size + 1, 3, none⟩ (.int .i64 v3)).setCell ⟨w.heap.size + 1, 4, none⟩ (.int .i64 v4)).setCell ⟨w.heap.size + 1, 5, none⟩ (.int .i64 v5)) = W9
    intro R8 B8
    obtain ⟨zz, s0, s1, s2, s3, s4, s5⟩ := R8
    exact bodyPost_ret (v := .tuple #[.agg #[.int .i64 v0, .int .i64 v1, .int .i64 v2, .int .i64 v3, .int .i64 v4, .int .i64 v5], .bool gg]) (by simp [results, Try.results24, go_sem, s0, s1, s2, s3, s4, s5]) rfl ⟨rfl, B8⟩
  · have hg : goodM a b c d x y = false := by simpa using hg
    rw [hg] at K ⊢
    rw [Bool.false_and, bsel_f, bsel_f, bsel_f, bsel_f, bsel_f, bsel_f]
    clear hg
    go_enter Try.func24, Try.ntmps24
    go_wp2_with fail
    obtain ⟨W0, hW0⟩ : ∃ W0, W0 = ((w.alloc (.cells #[.int .i64 a, .int .i64 b, .int .i64 c, .int .i64 d, .int .i64 x, .int .i64 y] 25)).alloc (.cells #[.int .i64 0, .int .i64 0, .int .i64 0, .int .i64 0, .int .i64 0, .int .i64 0] 25)) := ⟨_, rfl⟩
    rw [← hW0]
    have yW00_0 : W0.cell? ⟨w.heap.size, 0, none⟩ = some (.int .i64 a) := by rw [hW0]; go_simp
    have yW00_1 : W0.cell? ⟨w.heap.size, 1, none⟩ = some (.int .i64 b) := by rw [hW0]; go_simp
    have yW00_2 : W0.cell? ⟨w.heap.size, 2, none⟩ = some (.int .i64 c) := by rw [hW0]; go_simp
    have yW00_3 : W0.cell? ⟨w.heap.size, 3, none⟩ = some (.int .i64 d) := by rw [hW0]; go_simp
    have yW00_4 : W0.cell? ⟨w.heap.size, 4, none⟩ = some (.int .i64 x) := by rw [hW0]; go_simp
    have yW00_5 : W0.cell? ⟨w.heap.size, 5, none⟩ = some (.int .i64 y) := by rw [hW0]; go_simp
    have fW00 : ∀ o, W0.frozen? ⟨w.heap.size, o, none⟩ = false := by intro o; rw [hW0]; (repeat rw [frozen?_alloc_cells]); simp [World.frozen?]
    have zW00 : w.heap.size < W0.heap.size := by rw [hW0]; simp <;> omega
    have yW01_0 : W0.cell? ⟨w.heap.size + 1, 0, none⟩ = some (.int .i64 0) := by rw [hW0]; go_simp
    have yW01_1 : W0.cell? ⟨w.heap.size + 1, 1, none⟩ = some (.int .i64 0) := by rw [hW0]; go_simp
    have yW01_2 : W0.cell? ⟨w.heap.size + 1, 2, none⟩ = some (.int .i64 0) := by rw [hW0]; go_simp
    have yW01_3 : W0.cell? ⟨w.heap.size + 1, 3, none⟩ = some (.int .i64 0) := by rw [hW0]; go_simp
    have yW01_4 : W0.cell? ⟨w.heap.size + 1, 4, none⟩ = some (.int .i64 0) := by rw [hW0]; go_simp
    have yW01_5 : W0.cell? ⟨w.heap.size + 1, 5, none⟩ = some (.int .i64 0) := by rw [hW0]; go_simp
    have fW01 : ∀ o, W0.frozen? ⟨w.heap.size + 1, o, none⟩ = false := by intro o; rw [hW0]; (repeat rw [frozen?_alloc_cells]); simp [World.frozen?]
    have zW01 : w.heap.size + 1 < W0.heap.size := by rw [hW0]; simp <;> omega
    have BW0 : Below w.heap.size w W0 := by rw [hW0]; exact (Below.alloc (Below.alloc (Below.refl _ _) (by simp <;> omega) _) (by simp <;> omega) _)
    have eW0 : Hid (W0.heap.size = w.heap.size + 2) := Lib.hid (by rw [hW0]; simp)
    clear hW0
    have E6 := Lib.hid (show Own6 W0 (w.heap.size) a b c d x y from ⟨⟨zW00, yW00_0, yW00_1, yW00_2, yW00_3, yW00_4, yW00_5⟩, fW00⟩)
    have R6 := Lib.hid (show Own6 W0 (w.heap.size + 1) 0 0 0 0 0 0 from ⟨⟨zW01, yW01_0, yW01_1, yW01_2, yW01_3, yW01_4, yW01_5⟩, fW01⟩)
    clear zW00 fW00 yW00_0 yW00_1 yW00_2 yW00_3 yW00_4 yW00_5 zW01 fW01 yW01_0 yW01_1 yW01_2 yW01_3 yW01_4 yW01_5 eW0
    refine (K.out _).mono ?_; rintro e w1 ⟨rfl, hbw1⟩
    have Bw1 := BW0.trans (hbw1.mono BW0.size)
    have E6 := Lib.hid (own6_below E6.out hbw1 E6.out.1.1)
    have R6 := Lib.hid (own6_below R6.out hbw1 R6.out.1.1)
    clear hbw1 BW0
    have R7 := Lib.hid (at6_set5 (at6_set4 (at6_set3 (at6_set2 (at6_set1 (at6_set0 (R6.out.1) 0) 0) 0) 0) 0) 0)
    have B7 := Lib.hid ((((((Bw1.setCell (p := ⟨w.heap.size + 1, 0, none⟩) (Nat.le_add_right _ _) (.int .i64 0)).setCell (p := ⟨w.heap.size + 1, 1, none⟩) (Nat.le_add_right _ _) (.int .i64 0)).setCell (p := ⟨w.heap.size + 1, 2, none⟩) (Nat.le_add_right _ _) (.int .i64 0)).setCell (p := ⟨w.heap.size + 1, 3, none⟩) (Nat.le_add_right _ _) (.int .i64 0)).setCell (p := ⟨w.heap.size + 1, 4, none⟩) (Nat.le_add_right _ _) (.int .i64 0)).setCell (p := ⟨w.heap.size + 1, 5, none⟩) (Nat.le_add_right _ _) (.int .i64 0))
    obtain ⟨⟨zr, cr0, cr1, cr2, cr3, cr4, cr5⟩, fr⟩ := R6.out
    unfold Fz at fr
    go_wp2_with fail
    have R8 := R7.out
    have B8 := B7.out
    clear R7 B7
    revert R8 B8
    generalize ((((((w1.setCell ⟨w.heap.size + 1, 0, none⟩ (.int .i64 0)).setCell ⟨w.heap.size + 1, 1, none⟩ (.int .i64 0)).setCell ⟨w.heap.size + 1, 2, none⟩ (.int .i64 0)).setCell ⟨w.heap.size + 1, 3, none⟩ (.int .i64 0)).setCell ⟨w.heap.size + 1, 4, none⟩ (.int .i64 0)).setCell ⟨w.heap.size + 1, 5, none⟩ (.int .i64 0)) = W9
    intro R8 B8
    obtain ⟨zz, s0, s1, s2, s3, s4, s5⟩ := R8
    exact bodyPost_ret (v := .tuple #[.agg #[.int .i64 0, .int .i64 0, .int .i64 0, .int .i64 0, .int .i64 0, .int .i64 0], .bool false]) (by simp [results, Try.results24, go_sem, s0, s1, s2, s3, s4, s5]) rfl ⟨rfl, B8⟩
set_option maxHeartbeats 2000000 in
theorem implBackMove_any (a b c d x y : Int) (w : World) :
    Calls Try.prog 25 #[.agg #[.int .i64 a, .int .i64 b, .int .i64 c, .int .i64 d, .int .i64 x, .int .i64 y]] w fun e w' => e = .returned (.tuple #[.agg #[.int .i64 (bsel (goodM a b c d x y && (goodM ((a * d - b * c) * d) (-(a * d - b * c) * b) (-(a * d - b * c) * c) ((a * d - b * c) * a) (-((a * d - b * c) * d * x + -(a * d - b * c) * b * y)) (-(-(a * d - b * c) * c * x + (a * d - b * c) * a * y)))) (((a * d - b * c) * d))), .int .i64 (bsel (goodM a b c d x y && (goodM ((a * d - b * c) * d) (-(a * d - b * c) * b) (-(a * d - b * c) * c) ((a * d - b * c) * a) (-((a * d - b * c) * d * x + -(a * d - b * c) * b * y)) (-(-(a * d - b * c) * c * x + (a * d - b * c) * a * y)))) ((-(a * d - b * c) * b))), .int .i64 (bsel (goodM a b c d x y && (goodM ((a * d - b * c) * d) (-(a * d - b * c) * b) (-(a * d - b * c) * c) ((a * d - b * c) * a) (-((a * d - b * c) * d * x + -(a * d - b * c) * b * y)) (-(-(a * d - b * c) * c * x + (a * d - b * c) * a * y)))) ((-(a * d - b * c) * c))), .int .i64 (bsel (goodM a b c d x y && (goodM ((a * d - b * c) * d) (-(a * d - b * c) * b) (-(a * d - b * c) * c) ((a * d - b * c) * a) (-((a * d - b * c) * d * x + -(a * d - b * c) * b * y)) (-(-(a * d - b * c) * c * x + (a * d - b * c) * a * y)))) (((a * d - b * c) * a))), .int .i64 (bsel (goodM a b c d x y && (goodM ((a * d - b * c) * d) (-(a * d - b * c) * b) (-(a * d - b * c) * c) ((a * d - b * c) * a) (-((a * d - b * c) * d * x + -(a * d - b * c) * b * y)) (-(-(a * d - b * c) * c * x + (a * d - b * c) * a * y)))) ((-((a * d - b * c) * d * x + -(a * d - b * c) * b * y)))), .int .i64 (bsel (goodM a b c d x y && (goodM ((a * d - b * c) * d) (-(a * d - b * c) * b) (-(a * d - b * c) * c) ((a * d - b * c) * a) (-((a * d - b * c) * d * x + -(a * d - b * c) * b * y)) (-(-(a * d - b * c) * c * x + (a * d - b * c) * a * y)))) ((-(-(a * d - b * c) * c * x + (a * d - b * c) * a * y))))], .bool (goodM a b c d x y && (goodM ((a * d - b * c) * d) (-(a * d - b * c) * b) (-(a * d - b * c) * c) ((a * d - b * c) * a) (-((a * d - b * c) * d * x + -(a * d - b * c) * b * y)) (-(-(a * d - b * c) * c * x + (a * d - b * c) * a * y))))]) ∧ Below w.heap.size w w' := by
  have K := Lib.hid (fun W => implIsMove_any a b c d x y W)
  by_cases hg : goodM a b c d x y = true
  · obtain ⟨⟨⟨u1, u2⟩, ⟨u3, u4⟩, ⟨u5, u6⟩, ⟨u7, u8⟩⟩, ⟨u9, u10⟩, ⟨u11, u12⟩⟩ := good_bd hg
    have hs : a * d - b * c = 1 ∨ a * d - b * c = -1 := by
      have hg2 := hg
      unfold goodM at hg2
      simp only [Bool.and_eq_true, decide_eq_true_eq] at hg2
      omega
    obtain ⟨⟨n1, n2⟩, ⟨n3, n4⟩⟩ := side_bd (good_all4 hg)
    rw [hg] at K ⊢
    rw [Bool.true_and]
    clear hg
    have KW := Lib.hid (fun W => whole_any a b c d x y W)
    have KB := Lib.hid (fun W => back_any a b c d x y W (by omega) (by omega) (by omega) (by omega) (by omega) (by omega) hs)
    have KI := Lib.hid (fun W => asMove_any ((a * d - b * c) * d) (-(a * d - b * c) * b) (-(a * d - b * c) * c) ((a * d - b * c) * a) (-((a * d - b * c) * d * x + -(a * d - b * c) * b * y)) (-(-(a * d - b * c) * c * x + (a * d - b * c) * a * y)) W)
    clear hs u1 u2 u3 u4 u5 u6 u7 u8 u9 u10 u11 u12 n1 n2 n3 n4
    generalize bsel (goodM ((a * d - b * c) * d) (-(a * d - b * c) * b) (-(a * d - b * c) * c) ((a * d - b * c) * a) (-((a * d - b * c) * d * x + -(a * d - b * c) * b * y)) (-(-(a * d - b * c) * c * x + (a * d - b * c) * a * y))) ((a * d - b * c) * d) = v0 at *
    generalize bsel (goodM ((a * d - b * c) * d) (-(a * d - b * c) * b) (-(a * d - b * c) * c) ((a * d - b * c) * a) (-((a * d - b * c) * d * x + -(a * d - b * c) * b * y)) (-(-(a * d - b * c) * c * x + (a * d - b * c) * a * y))) (-(a * d - b * c) * b) = v1 at *
    generalize bsel (goodM ((a * d - b * c) * d) (-(a * d - b * c) * b) (-(a * d - b * c) * c) ((a * d - b * c) * a) (-((a * d - b * c) * d * x + -(a * d - b * c) * b * y)) (-(-(a * d - b * c) * c * x + (a * d - b * c) * a * y))) (-(a * d - b * c) * c) = v2 at *
    generalize bsel (goodM ((a * d - b * c) * d) (-(a * d - b * c) * b) (-(a * d - b * c) * c) ((a * d - b * c) * a) (-((a * d - b * c) * d * x + -(a * d - b * c) * b * y)) (-(-(a * d - b * c) * c * x + (a * d - b * c) * a * y))) ((a * d - b * c) * a) = v3 at *
    generalize bsel (goodM ((a * d - b * c) * d) (-(a * d - b * c) * b) (-(a * d - b * c) * c) ((a * d - b * c) * a) (-((a * d - b * c) * d * x + -(a * d - b * c) * b * y)) (-(-(a * d - b * c) * c * x + (a * d - b * c) * a * y))) (-((a * d - b * c) * d * x + -(a * d - b * c) * b * y)) = v4 at *
    generalize bsel (goodM ((a * d - b * c) * d) (-(a * d - b * c) * b) (-(a * d - b * c) * c) ((a * d - b * c) * a) (-((a * d - b * c) * d * x + -(a * d - b * c) * b * y)) (-(-(a * d - b * c) * c * x + (a * d - b * c) * a * y))) (-(-(a * d - b * c) * c * x + (a * d - b * c) * a * y)) = v5 at *
    generalize (goodM ((a * d - b * c) * d) (-(a * d - b * c) * b) (-(a * d - b * c) * c) ((a * d - b * c) * a) (-((a * d - b * c) * d * x + -(a * d - b * c) * b * y)) (-(-(a * d - b * c) * c * x + (a * d - b * c) * a * y))) = gg at *
    generalize ((a * d - b * c) * d) = r0 at *
    generalize (-(a * d - b * c) * b) = r1 at *
    generalize (-(a * d - b * c) * c) = r2 at *
    generalize ((a * d - b * c) * a) = r3 at *
    generalize (-((a * d - b * c) * d * x + -(a * d - b * c) * b * y)) = r4 at *
    generalize (-(-(a * d - b * c) * c * x + (a * d - b * c) * a * y)) = r5 at *
    go_enter Try.func25, Try.ntmps25
    go_wp2_with fail
    obtain ⟨W0, hW0⟩ : ∃ W0, W0 = ((w.alloc (.cells #[.int .i64 a, .int .i64 b, .int .i64 c, .int .i64 d, .int .i64 x, .int .i64 y] 25)).alloc (.cells #[.int .i64 0, .int .i64 0, .int .i64 0, .int .i64 0, .int .i64 0, .int .i64 0] 25)) := ⟨_, rfl⟩
    rw [← hW0]
    have yW00_0 : W0.cell? ⟨w.heap.size, 0, none⟩ = some (.int .i64 a) := by rw [hW0]; go_simp
    have yW00_1 : W0.cell? ⟨w.heap.size, 1, none⟩ = some (.int .i64 b) := by rw [hW0]; go_simp
    have yW00_2 : W0.cell? ⟨w.heap.size, 2, none⟩ = some (.int .i64 c) := by rw [hW0]; go_simp
    have yW00_3 : W0.cell? ⟨w.heap.size, 3, none⟩ = some (.int .i64 d) := by rw [hW0]; go_simp
    have yW00_4 : W0.cell? ⟨w.heap.size, 4, none⟩ = some (.int .i64 x) := by rw [hW0]; go_simp
    have yW00_5 : W0.cell? ⟨w.heap.size, 5, none⟩ = some (.int .i64 y) := by rw [hW0]; go_simp
    have fW00 : ∀ o, W0.frozen? ⟨w.heap.size, o, none⟩ = false := by intro o; rw [hW0]; (repeat rw [frozen?_alloc_cells]); simp [World.frozen?]
    have zW00 : w.heap.size < W0.heap.size := by rw [hW0]; simp <;> omega
    have yW01_0 : W0.cell? ⟨w.heap.size + 1, 0, none⟩ = some (.int .i64 0) := by rw [hW0]; go_simp
    have yW01_1 : W0.cell? ⟨w.heap.size + 1, 1, none⟩ = some (.int .i64 0) := by rw [hW0]; go_simp
    have yW01_2 : W0.cell? ⟨w.heap.size + 1, 2, none⟩ = some (.int .i64 0) := by rw [hW0]; go_simp
    have yW01_3 : W0.cell? ⟨w.heap.size + 1, 3, none⟩ = some (.int .i64 0) := by rw [hW0]; go_simp
    have yW01_4 : W0.cell? ⟨w.heap.size + 1, 4, none⟩ = some (.int .i64 0) := by rw [hW0]; go_simp
    have yW01_5 : W0.cell? ⟨w.heap.size + 1, 5, none⟩ = some (.int .i64 0) := by rw [hW0]; go_simp
    have fW01 : ∀ o, W0.frozen? ⟨w.heap.size + 1, o, none⟩ = false := by intro o; rw [hW0]; (repeat rw [frozen?_alloc_cells]); simp [World.frozen?]
    have zW01 : w.heap.size + 1 < W0.heap.size := by rw [hW0]; simp <;> omega
    have BW0 : Below w.heap.size w W0 := by rw [hW0]; exact (Below.alloc (Below.alloc (Below.refl _ _) (by simp <;> omega) _) (by simp <;> omega) _)
    have eW0 : Hid (W0.heap.size = w.heap.size + 2) := Lib.hid (by rw [hW0]; simp)
    clear hW0
    have E6 := Lib.hid (show Own6 W0 (w.heap.size) a b c d x y from ⟨⟨zW00, yW00_0, yW00_1, yW00_2, yW00_3, yW00_4, yW00_5⟩, fW00⟩)
    have R6 := Lib.hid (show Own6 W0 (w.heap.size + 1) 0 0 0 0 0 0 from ⟨⟨zW01, yW01_0, yW01_1, yW01_2, yW01_3, yW01_4, yW01_5⟩, fW01⟩)
    clear zW00 fW00 yW00_0 yW00_1 yW00_2 yW00_3 yW00_4 yW00_5 zW01 fW01 yW01_0 yW01_1 yW01_2 yW01_3 yW01_4 yW01_5 eW0
    refine (K.out _).mono ?_; rintro e w1 ⟨rfl, hbw1⟩
    have Bw1 := BW0.trans (hbw1.mono BW0.size)
    have E6 := Lib.hid (own6_below E6.out hbw1 E6.out.1.1)
    have R6 := Lib.hid (own6_below R6.out hbw1 R6.out.1.1)
    clear hbw1 BW0
    obtain ⟨⟨zp, cp0, cp1, cp2, cp3, cp4, cp5⟩, fp⟩ := E6.out
    unfold Fz at fp
    go_wp2_with fail
    clear zp fp cp0 cp1 cp2 cp3 cp4 cp5
    refine (KW.out _).mono ?_; rintro e w2 ⟨rfl, hbw2⟩
    have Bw2 := Bw1.trans (hbw2.mono Bw1.size)
    have R6 := Lib.hid (own6_below R6.out hbw2 R6.out.1.1)
    clear hbw2 Bw1
    go_wp2_with fail
    refine (KB.out _).mono ?_; rintro e w3 ⟨rfl, hbw3⟩
    have Bw3 := Bw2.trans (hbw3.mono Bw2.size)
    have R6 := Lib.hid (own6_below R6.out hbw3 R6.out.1.1)
    clear hbw3 Bw2
    go_wp2_with fail
    refine (KI.out _).mono ?_; rintro e w4 ⟨rfl, hbw4⟩
    have Bw4 := Bw3.trans (hbw4.mono Bw3.size)
    have R6 := Lib.hid (own6_below R6.out hbw4 R6.out.1.1)
    clear hbw4 Bw3
    have R7 := Lib.hid (at6_set5 (at6_set4 (at6_set3 (at6_set2 (at6_set1 (at6_set0 (R6.out.1) v0) v1) v2) v3) v4) v5)
    have B7 := Lib.hid ((((((Bw4.setCell (p := ⟨w.heap.size + 1, 0, none⟩) (Nat.le_add_right _ _) (.int .i64 v0)).setCell (p := ⟨w.heap.size + 1, 1, none⟩) (Nat.le_add_right _ _) (.int .i64 v1)).setCell (p := ⟨w.heap.size + 1, 2, none⟩) (Nat.le_add_right _ _) (.int .i64 v2)).setCell (p := ⟨w.heap.size + 1, 3, none⟩) (Nat.le_add_right _ _) (.int .i64 v3)).setCell (p := ⟨w.heap.size + 1, 4, none⟩) (Nat.le_add_right _ _) (.int .i64 v4)).setCell (p := ⟨w.heap.size + 1, 5, none⟩) (Nat.le_add_right _ _) (.int .i64 v5))
    obtain ⟨⟨zr, cr0, cr1, cr2, cr3, cr4, cr5⟩, fr⟩ := R6.out
    unfold Fz at fr
    go_wp2_with fail
    have R8 := R7.out
    have B8 := B7.out
    clear R7 B7
    revert R8 B8
    generalize ((((((w4.setCell ⟨w.heap.size + 1, 0, none⟩ (.int .i64 v0)).setCell ⟨w.heap.size + 1, 1, none⟩ (.int .i64 v1)).setCell ⟨w.heap.size + 1, 2, none⟩ (.int .i64 v2)).setCell ⟨w.heap.size + 1, 3, none⟩ (.int .i64 v3)).setCell ⟨w.heap.size + 1, 4, none⟩ (.int .i64 v4)).setCell ⟨w.heap.size + 1, 5, none⟩ (.int .i64 v5)) = W9
    intro R8 B8
    obtain ⟨zz, s0, s1, s2, s3, s4, s5⟩ := R8
    exact bodyPost_ret (v := .tuple #[.agg #[.int .i64 v0, .int .i64 v1, .int .i64 v2, .int .i64 v3, .int .i64 v4, .int .i64 v5], .bool gg]) (by simp [results, Try.results25, go_sem, s0, s1, s2, s3, s4, s5]) rfl ⟨rfl, B8⟩
  · have hg : goodM a b c d x y = false := by simpa using hg
    rw [hg] at K ⊢
    rw [Bool.false_and, bsel_f, bsel_f, bsel_f, bsel_f, bsel_f, bsel_f]
    clear hg
    go_enter Try.func25, Try.ntmps25
    go_wp2_with fail
    obtain ⟨W0, hW0⟩ : ∃ W0, W0 = ((w.alloc (.cells #[.int .i64 a, .int .i64 b, .int .i64 c, .int .i64 d, .int .i64 x, .int .i64 y] 25)).alloc (.cells #[.int .i64 0, .int .i64 0, .int .i64 0, .int .i64 0, .int .i64 0, .int .i64 0] 25)) := ⟨_, rfl⟩
    rw [← hW0]
    have yW00_0 : W0.cell? ⟨w.heap.size, 0, none⟩ = some (.int .i64 a) := by rw [hW0]; go_simp
    have yW00_1 : W0.cell? ⟨w.heap.size, 1, none⟩ = some (.int .i64 b) := by rw [hW0]; go_simp
    have yW00_2 : W0.cell? ⟨w.heap.size, 2, none⟩ = some (.int .i64 c) := by rw [hW0]; go_simp
    have yW00_3 : W0.cell? ⟨w.heap.size, 3, none⟩ = some (.int .i64 d) := by rw [hW0]; go_simp
    have yW00_4 : W0.cell? ⟨w.heap.size, 4, none⟩ = some (.int .i64 x) := by rw [hW0]; go_simp
    have yW00_5 : W0.cell? ⟨w.heap.size, 5, none⟩ = some (.int .i64 y) := by rw [hW0]; go_simp
    have fW00 : ∀ o, W0.frozen? ⟨w.heap.size, o, none⟩ = false := by intro o; rw [hW0]; (repeat rw [frozen?_alloc_cells]); simp [World.frozen?]
    have zW00 : w.heap.size < W0.heap.size := by rw [hW0]; simp <;> omega
    have yW01_0 : W0.cell? ⟨w.heap.size + 1, 0, none⟩ = some (.int .i64 0) := by rw [hW0]; go_simp
    have yW01_1 : W0.cell? ⟨w.heap.size + 1, 1, none⟩ = some (.int .i64 0) := by rw [hW0]; go_simp
    have yW01_2 : W0.cell? ⟨w.heap.size + 1, 2, none⟩ = some (.int .i64 0) := by rw [hW0]; go_simp
    have yW01_3 : W0.cell? ⟨w.heap.size + 1, 3, none⟩ = some (.int .i64 0) := by rw [hW0]; go_simp
    have yW01_4 : W0.cell? ⟨w.heap.size + 1, 4, none⟩ = some (.int .i64 0) := by rw [hW0]; go_simp
    have yW01_5 : W0.cell? ⟨w.heap.size + 1, 5, none⟩ = some (.int .i64 0) := by rw [hW0]; go_simp
    have fW01 : ∀ o, W0.frozen? ⟨w.heap.size + 1, o, none⟩ = false := by intro o; rw [hW0]; (repeat rw [frozen?_alloc_cells]); simp [World.frozen?]
    have zW01 : w.heap.size + 1 < W0.heap.size := by rw [hW0]; simp <;> omega
    have BW0 : Below w.heap.size w W0 := by rw [hW0]; exact (Below.alloc (Below.alloc (Below.refl _ _) (by simp <;> omega) _) (by simp <;> omega) _)
    have eW0 : Hid (W0.heap.size = w.heap.size + 2) := Lib.hid (by rw [hW0]; simp)
    clear hW0
    have E6 := Lib.hid (show Own6 W0 (w.heap.size) a b c d x y from ⟨⟨zW00, yW00_0, yW00_1, yW00_2, yW00_3, yW00_4, yW00_5⟩, fW00⟩)
    have R6 := Lib.hid (show Own6 W0 (w.heap.size + 1) 0 0 0 0 0 0 from ⟨⟨zW01, yW01_0, yW01_1, yW01_2, yW01_3, yW01_4, yW01_5⟩, fW01⟩)
    clear zW00 fW00 yW00_0 yW00_1 yW00_2 yW00_3 yW00_4 yW00_5 zW01 fW01 yW01_0 yW01_1 yW01_2 yW01_3 yW01_4 yW01_5 eW0
    refine (K.out _).mono ?_; rintro e w1 ⟨rfl, hbw1⟩
    have Bw1 := BW0.trans (hbw1.mono BW0.size)
    have E6 := Lib.hid (own6_below E6.out hbw1 E6.out.1.1)
    have R6 := Lib.hid (own6_below R6.out hbw1 R6.out.1.1)
    clear hbw1 BW0
    have R7 := Lib.hid (at6_set5 (at6_set4 (at6_set3 (at6_set2 (at6_set1 (at6_set0 (R6.out.1) 0) 0) 0) 0) 0) 0)
    have B7 := Lib.hid ((((((Bw1.setCell (p := ⟨w.heap.size + 1, 0, none⟩) (Nat.le_add_right _ _) (.int .i64 0)).setCell (p := ⟨w.heap.size + 1, 1, none⟩) (Nat.le_add_right _ _) (.int .i64 0)).setCell (p := ⟨w.heap.size + 1, 2, none⟩) (Nat.le_add_right _ _) (.int .i64 0)).setCell (p := ⟨w.heap.size + 1, 3, none⟩) (Nat.le_add_right _ _) (.int .i64 0)).setCell (p := ⟨w.heap.size + 1, 4, none⟩) (Nat.le_add_right _ _) (.int .i64 0)).setCell (p := ⟨w.heap.size + 1, 5, none⟩) (Nat.le_add_right _ _) (.int .i64 0))
    obtain ⟨⟨zr, cr0, cr1, cr2, cr3, cr4, cr5⟩, fr⟩ := R6.out
    unfold Fz at fr
    go_wp2_with fail
    have R8 := R7.out
    have B8 := B7.out
    clear R7 B7
    revert R8 B8
    generalize ((((((w1.setCell ⟨w.heap.size + 1, 0, none⟩ (.int .i64 0)).setCell ⟨w.heap.size + 1, 1, none⟩ (.int .i64 0)).setCell ⟨w.heap.size + 1, 2, none⟩ (.int .i64 0)).setCell ⟨w.heap.size + 1, 3, none⟩ (.int .i64 0)).setCell ⟨w.heap.size + 1, 4, none⟩ (.int .i64 0)).setCell ⟨w.heap.size + 1, 5, none⟩ (.int .i64 0)) = W9
    intro R8 B8
    obtain ⟨zz, s0, s1, s2, s3, s4, s5⟩ := R8
    exact bodyPost_ret (v := .tuple #[.agg #[.int .i64 0, .int .i64 0, .int .i64 0, .int .i64 0, .int .i64 0, .int .i64 0], .bool false]) (by simp [results, Try.results25, go_sem, s0, s1, s2, s3, s4, s5]) rfl ⟨rfl, B8⟩
set_option maxHeartbeats 2000000 in
theorem specJoinMoves_any (a b c d x y a' b' c' d' x' y' : Int) (w : World) :
    Calls Try.prog 22 #[.agg #[.int .i64 a, .int .i64 b, .int .i64 c, .int .i64 d, .int .i64 x, .int .i64 y], .agg #[.int .i64 a', .int .i64 b', .int .i64 c', .int .i64 d', .int .i64 x', .int .i64 y']] w fun e w' => e = .returned (.tuple #[.agg #[.int .i64 (bsel (goodM a b c d x y && (goodM a' b' c' d' x' y' && (goodM (a * a' + b * c') (a * b' + b * d') (c * a' + d * c') (c * b' + d * d') (a * x' + b * y' + x) (c * x' + d * y' + y)))) ((a * a' + b * c'))), .int .i64 (bsel (goodM a b c d x y && (goodM a' b' c' d' x' y' && (goodM (a * a' + b * c') (a * b' + b * d') (c * a' + d * c') (c * b' + d * d') (a * x' + b * y' + x) (c * x' + d * y' + y)))) ((a * b' + b * d'))), .int .i64 (bsel (goodM a b c d x y && (goodM a' b' c' d' x' y' && (goodM (a * a' + b * c') (a * b' + b * d') (c * a' + d * c') (c * b' + d * d') (a * x' + b * y' + x) (c * x' + d * y' + y)))) ((c * a' + d * c'))), .int .i64 (bsel (goodM a b c d x y && (goodM a' b' c' d' x' y' && (goodM (a * a' + b * c') (a * b' + b * d') (c * a' + d * c') (c * b' + d * d') (a * x' + b * y' + x) (c * x' + d * y' + y)))) ((c * b' + d * d'))), .int .i64 (bsel (goodM a b c d x y && (goodM a' b' c' d' x' y' && (goodM (a * a' + b * c') (a * b' + b * d') (c * a' + d * c') (c * b' + d * d') (a * x' + b * y' + x) (c * x' + d * y' + y)))) ((a * x' + b * y' + x))), .int .i64 (bsel (goodM a b c d x y && (goodM a' b' c' d' x' y' && (goodM (a * a' + b * c') (a * b' + b * d') (c * a' + d * c') (c * b' + d * d') (a * x' + b * y' + x) (c * x' + d * y' + y)))) ((c * x' + d * y' + y)))], .bool (goodM a b c d x y && (goodM a' b' c' d' x' y' && (goodM (a * a' + b * c') (a * b' + b * d') (c * a' + d * c') (c * b' + d * d') (a * x' + b * y' + x) (c * x' + d * y' + y))))]) ∧ Below w.heap.size w w' := by
  have K := Lib.hid (fun W => mvGood_any a b c d x y W)
  have KK := Lib.hid (fun W => mvGood_any a' b' c' d' x' y' W)
  by_cases hg : goodM a b c d x y = true
  · obtain ⟨⟨⟨u1, u2⟩, ⟨u3, u4⟩, ⟨u5, u6⟩, ⟨u7, u8⟩⟩, ⟨u9, u10⟩, ⟨u11, u12⟩⟩ := good_bd hg
    rw [hg] at K ⊢
    rw [Bool.true_and]
    by_cases hk : goodM a' b' c' d' x' y' = true
    · obtain ⟨⟨⟨n1, n2⟩, ⟨n3, n4⟩, ⟨n5, n6⟩, ⟨n7, n8⟩⟩, ⟨n9, n10⟩, ⟨n11, n12⟩⟩ := good_bd hk
      rw [hk] at KK ⊢
      rw [Bool.true_and]
      clear hg hk
      have q0 := mul_bd (x := a) (y := a') (m := 20) (n := 20) (by omega) (by omega) (by omega) (by omega)
      have e0 : IntKind.i64.wrap (a * a') = a * a' := IntWalk.i64_in _ (by omega)
      have q1 := mul_bd (x := b) (y := c') (m := 20) (n := 20) (by omega) (by omega) (by omega) (by omega)
      have e1 : IntKind.i64.wrap (b * c') = b * c' := IntWalk.i64_in _ (by omega)
      have q2 := mul_bd (x := a) (y := b') (m := 20) (n := 20) (by omega) (by omega) (by omega) (by omega)
      have e2 : IntKind.i64.wrap (a * b') = a * b' := IntWalk.i64_in _ (by omega)
      have q3 := mul_bd (x := b) (y := d') (m := 20) (n := 20) (by omega) (by omega) (by omega) (by omega)
      have e3 : IntKind.i64.wrap (b * d') = b * d' := IntWalk.i64_in _ (by omega)
      have q4 := mul_bd (x := c) (y := a') (m := 20) (n := 20) (by omega) (by omega) (by omega) (by omega)
      have e4 : IntKind.i64.wrap (c * a') = c * a' := IntWalk.i64_in _ (by omega)
      have q5 := mul_bd (x := d) (y := c') (m := 20) (n := 20) (by omega) (by omega) (by omega) (by omega)
      have e5 : IntKind.i64.wrap (d * c') = d * c' := IntWalk.i64_in _ (by omega)
      have q6 := mul_bd (x := c) (y := b') (m := 20) (n := 20) (by omega) (by omega) (by omega) (by omega)
      have e6 : IntKind.i64.wrap (c * b') = c * b' := IntWalk.i64_in _ (by omega)
      have q7 := mul_bd (x := d) (y := d') (m := 20) (n := 20) (by omega) (by omega) (by omega) (by omega)
      have e7 : IntKind.i64.wrap (d * d') = d * d' := IntWalk.i64_in _ (by omega)
      have g0 : IntKind.i64.wrap (a * a' + b * c') = (a * a' + b * c') := IntWalk.i64_in _ (by omega)
      have g1 : IntKind.i64.wrap (a * b' + b * d') = (a * b' + b * d') := IntWalk.i64_in _ (by omega)
      have g2 : IntKind.i64.wrap (c * a' + d * c') = (c * a' + d * c') := IntWalk.i64_in _ (by omega)
      have g3 : IntKind.i64.wrap (c * b' + d * d') = (c * b' + d * d') := IntWalk.i64_in _ (by omega)
      have KM := Lib.hid (fun W => mvPeg_any a b c d x y x' y' W (by omega) (by omega) (by omega) (by omega) (by omega) (by omega) (by omega) (by omega))
      have KI := Lib.hid (fun W => mvIf_any (a * a' + b * c') (a * b' + b * d') (c * a' + d * c') (c * b' + d * d') (a * x' + b * y' + x) (c * x' + d * y' + y) W)
      clear u1 u2 u3 u4 u5 u6 u7 u8 u9 u10 u11 u12 n1 n2 n3 n4 n5 n6 n7 n8 n9 n10 n11 n12 q0 q1 q2 q3 q4 q5 q6 q7
      generalize bsel (goodM (a * a' + b * c') (a * b' + b * d') (c * a' + d * c') (c * b' + d * d') (a * x' + b * y' + x) (c * x' + d * y' + y)) (a * a' + b * c') = v0 at *
      generalize bsel (goodM (a * a' + b * c') (a * b' + b * d') (c * a' + d * c') (c * b' + d * d') (a * x' + b * y' + x) (c * x' + d * y' + y)) (a * b' + b * d') = v1 at *
      generalize bsel (goodM (a * a' + b * c') (a * b' + b * d') (c * a' + d * c') (c * b' + d * d') (a * x' + b * y' + x) (c * x' + d * y' + y)) (c * a' + d * c') = v2 at *
      generalize bsel (goodM (a * a' + b * c') (a * b' + b * d') (c * a' + d * c') (c * b' + d * d') (a * x' + b * y' + x) (c * x' + d * y' + y)) (c * b' + d * d') = v3 at *
      generalize bsel (goodM (a * a' + b * c') (a * b' + b * d') (c * a' + d * c') (c * b' + d * d') (a * x' + b * y' + x) (c * x' + d * y' + y)) (a * x' + b * y' + x) = v4 at *
      generalize bsel (goodM (a * a' + b * c') (a * b' + b * d') (c * a' + d * c') (c * b' + d * d') (a * x' + b * y' + x) (c * x' + d * y' + y)) (c * x' + d * y' + y) = v5 at *
      generalize (goodM (a * a' + b * c') (a * b' + b * d') (c * a' + d * c') (c * b' + d * d') (a * x' + b * y' + x) (c * x' + d * y' + y)) = gg at *
      generalize a * x' + b * y' + x = o1 at *
      generalize c * x' + d * y' + y = o2 at *
      go_enter Try.func22, Try.ntmps22
      go_wp2_with fail
      obtain ⟨W0, hW0⟩ : ∃ W0, W0 = (((w.alloc (.cells #[.int .i64 a, .int .i64 b, .int .i64 c, .int .i64 d, .int .i64 x, .int .i64 y] 25)).alloc (.cells #[.int .i64 a', .int .i64 b', .int .i64 c', .int .i64 d', .int .i64 x', .int .i64 y'] 25)).alloc (.cells #[.int .i64 0, .int .i64 0, .int .i64 0, .int .i64 0, .int .i64 0, .int .i64 0] 25)) := ⟨_, rfl⟩
      rw [← hW0]
      have yW00_0 : W0.cell? ⟨w.heap.size, 0, none⟩ = some (.int .i64 a) := by rw [hW0]; go_simp
      have yW00_1 : W0.cell? ⟨w.heap.size, 1, none⟩ = some (.int .i64 b) := by rw [hW0]; go_simp
      have yW00_2 : W0.cell? ⟨w.heap.size, 2, none⟩ = some (.int .i64 c) := by rw [hW0]; go_simp
      have yW00_3 : W0.cell? ⟨w.heap.size, 3, none⟩ = some (.int .i64 d) := by rw [hW0]; go_simp
      have yW00_4 : W0.cell? ⟨w.heap.size, 4, none⟩ = some (.int .i64 x) := by rw [hW0]; go_simp
      have yW00_5 : W0.cell? ⟨w.heap.size, 5, none⟩ = some (.int .i64 y) := by rw [hW0]; go_simp
      have fW00 : ∀ o, W0.frozen? ⟨w.heap.size, o, none⟩ = false := by intro o; rw [hW0]; (repeat rw [frozen?_alloc_cells]); simp [World.frozen?]
      have zW00 : w.heap.size < W0.heap.size := by rw [hW0]; simp <;> omega
      have yW01_0 : W0.cell? ⟨w.heap.size + 1, 0, none⟩ = some (.int .i64 a') := by rw [hW0]; go_simp
      have yW01_1 : W0.cell? ⟨w.heap.size + 1, 1, none⟩ = some (.int .i64 b') := by rw [hW0]; go_simp
      have yW01_2 : W0.cell? ⟨w.heap.size + 1, 2, none⟩ = some (.int .i64 c') := by rw [hW0]; go_simp
      have yW01_3 : W0.cell? ⟨w.heap.size + 1, 3, none⟩ = some (.int .i64 d') := by rw [hW0]; go_simp
      have yW01_4 : W0.cell? ⟨w.heap.size + 1, 4, none⟩ = some (.int .i64 x') := by rw [hW0]; go_simp
      have yW01_5 : W0.cell? ⟨w.heap.size + 1, 5, none⟩ = some (.int .i64 y') := by rw [hW0]; go_simp
      have fW01 : ∀ o, W0.frozen? ⟨w.heap.size + 1, o, none⟩ = false := by intro o; rw [hW0]; (repeat rw [frozen?_alloc_cells]); simp [World.frozen?]
      have zW01 : w.heap.size + 1 < W0.heap.size := by rw [hW0]; simp <;> omega
      have yW02_0 : W0.cell? ⟨w.heap.size + 2, 0, none⟩ = some (.int .i64 0) := by rw [hW0]; go_simp
      have yW02_1 : W0.cell? ⟨w.heap.size + 2, 1, none⟩ = some (.int .i64 0) := by rw [hW0]; go_simp
      have yW02_2 : W0.cell? ⟨w.heap.size + 2, 2, none⟩ = some (.int .i64 0) := by rw [hW0]; go_simp
      have yW02_3 : W0.cell? ⟨w.heap.size + 2, 3, none⟩ = some (.int .i64 0) := by rw [hW0]; go_simp
      have yW02_4 : W0.cell? ⟨w.heap.size + 2, 4, none⟩ = some (.int .i64 0) := by rw [hW0]; go_simp
      have yW02_5 : W0.cell? ⟨w.heap.size + 2, 5, none⟩ = some (.int .i64 0) := by rw [hW0]; go_simp
      have fW02 : ∀ o, W0.frozen? ⟨w.heap.size + 2, o, none⟩ = false := by intro o; rw [hW0]; (repeat rw [frozen?_alloc_cells]); simp [World.frozen?]
      have zW02 : w.heap.size + 2 < W0.heap.size := by rw [hW0]; simp <;> omega
      have BW0 : Below w.heap.size w W0 := by rw [hW0]; exact (Below.alloc (Below.alloc (Below.alloc (Below.refl _ _) (by simp <;> omega) _) (by simp <;> omega) _) (by simp <;> omega) _)
      have eW0 : Hid (W0.heap.size = w.heap.size + 3) := Lib.hid (by rw [hW0]; simp)
      clear hW0
      have E6 := Lib.hid (show Own6 W0 (w.heap.size) a b c d x y from ⟨⟨zW00, yW00_0, yW00_1, yW00_2, yW00_3, yW00_4, yW00_5⟩, fW00⟩)
      have F6 := Lib.hid (show Own6 W0 (w.heap.size + 1) a' b' c' d' x' y' from ⟨⟨zW01, yW01_0, yW01_1, yW01_2, yW01_3, yW01_4, yW01_5⟩, fW01⟩)
      have R6 := Lib.hid (show Own6 W0 (w.heap.size + 2) 0 0 0 0 0 0 from ⟨⟨zW02, yW02_0, yW02_1, yW02_2, yW02_3, yW02_4, yW02_5⟩, fW02⟩)
      clear zW00 fW00 yW00_0 yW00_1 yW00_2 yW00_3 yW00_4 yW00_5 zW01 fW01 yW01_0 yW01_1 yW01_2 yW01_3 yW01_4 yW01_5 zW02 fW02 yW02_0 yW02_1 yW02_2 yW02_3 yW02_4 yW02_5 eW0
      refine (K.out _).mono ?_; rintro e w1 ⟨rfl, hbw1⟩
      have Bw1 := BW0.trans (hbw1.mono BW0.size)
      have E6 := Lib.hid (own6_below E6.out hbw1 E6.out.1.1)
      have F6 := Lib.hid (own6_below F6.out hbw1 F6.out.1.1)
      have R6 := Lib.hid (own6_below R6.out hbw1 R6.out.1.1)
      clear hbw1 BW0
      obtain ⟨⟨zq, cq0, cq1, cq2, cq3, cq4, cq5⟩, fq⟩ := F6.out
      unfold Fz at fq
      go_wp2_with fail
      clear zq fq cq0 cq1 cq2 cq3 cq4 cq5
      refine (KK.out _).mono ?_; rintro e w2 ⟨rfl, hbw2⟩
      have Bw2 := Bw1.trans (hbw2.mono Bw1.size)
      have E6 := Lib.hid (own6_below E6.out hbw2 E6.out.1.1)
      have F6 := Lib.hid (own6_below F6.out hbw2 F6.out.1.1)
      have R6 := Lib.hid (own6_below R6.out hbw2 R6.out.1.1)
      clear hbw2 Bw1
      obtain ⟨⟨zp, cp0, cp1, cp2, cp3, cp4, cp5⟩, fp⟩ := E6.out
      unfold Fz at fp
      obtain ⟨⟨zq, cq0, cq1, cq2, cq3, cq4, cq5⟩, fq⟩ := F6.out
      unfold Fz at fq
      go_wp2_with fail
      clear zp fp cp0 cp1 cp2 cp3 cp4 cp5
      clear zq fq cq0 cq1 cq2 cq3 cq4 cq5
      refine (KM.out _).mono ?_; rintro e w3 ⟨rfl, hbw3⟩
      have Bw3 := Bw2.trans (hbw3.mono Bw2.size)
      have E6 := Lib.hid (own6_below E6.out hbw3 E6.out.1.1)
      have F6 := Lib.hid (own6_below F6.out hbw3 F6.out.1.1)
      have R6 := Lib.hid (own6_below R6.out hbw3 R6.out.1.1)
      clear hbw3 Bw2
      obtain ⟨⟨zp, cp0, cp1, cp2, cp3, cp4, cp5⟩, fp⟩ := E6.out
      unfold Fz at fp
      obtain ⟨⟨zq, cq0, cq1, cq2, cq3, cq4, cq5⟩, fq⟩ := F6.out
      unfold Fz at fq
      go_wp2_with fail
      clear zp fp cp0 cp1 cp2 cp3 cp4 cp5
      clear zq fq cq0 cq1 cq2 cq3 cq4 cq5
      obtain ⟨W4, hW4⟩ : ∃ W4, W4 = (w3.alloc (.cells #[.int .i64 o1, .int .i64 o2] 30)) := ⟨_, rfl⟩
      rw [← hW4]
      have yW40_0 : W4.cell? ⟨w3.heap.size, 0, none⟩ = some (.int .i64 o1) := by rw [hW4]; go_simp
      have yW40_1 : W4.cell? ⟨w3.heap.size, 1, none⟩ = some (.int .i64 o2) := by rw [hW4]; go_simp
      have fW40 : ∀ o, W4.frozen? ⟨w3.heap.size, o, none⟩ = false := by intro o; rw [hW4]; (repeat rw [frozen?_alloc_cells]); simp [World.frozen?]
      have zW40 : w3.heap.size < W4.heap.size := by rw [hW4]; simp <;> omega
      have BW4 : Below w3.heap.size w3 W4 := by rw [hW4]; exact (Below.alloc (Below.refl _ _) (by simp <;> omega) _)
      have eW4 : Hid (W4.heap.size = w3.heap.size + 1) := Lib.hid (by rw [hW4]; simp)
      clear hW4
      have R6 := Lib.hid (own6_below R6.out BW4 R6.out.1.1)
      have BW4 := Bw3.trans (BW4.mono Bw3.size)
      clear Bw3
      clear zW40 fW40 yW40_0 yW40_1 eW4
      refine (KI.out _).mono ?_; rintro e w5 ⟨rfl, hbw5⟩
      have Bw5 := BW4.trans (hbw5.mono BW4.size)
      have R6 := Lib.hid (own6_below R6.out hbw5 R6.out.1.1)
      clear hbw5 BW4
      have R7 := Lib.hid (at6_set5 (at6_set4 (at6_set3 (at6_set2 (at6_set1 (at6_set0 (R6.out.1) v0) v1) v2) v3) v4) v5)
      have B7 := Lib.hid ((((((Bw5.setCell (p := ⟨w.heap.size + 2, 0, none⟩) (Nat.le_add_right _ _) (.int .i64 v0)).setCell (p := ⟨w.heap.size + 2, 1, none⟩) (Nat.le_add_right _ _) (.int .i64 v1)).setCell (p := ⟨w.heap.size + 2, 2, none⟩) (Nat.le_add_right _ _) (.int .i64 v2)).setCell (p := ⟨w.heap.size + 2, 3, none⟩) (Nat.le_add_right _ _) (.int .i64 v3)).setCell (p := ⟨w.heap.size + 2, 4, none⟩) (Nat.le_add_right _ _) (.int .i64 v4)).setCell (p := ⟨w.heap.size + 2, 5, none⟩) (Nat.le_add_right _ _) (.int .i64 v5))
      obtain ⟨⟨zr, cr0, cr1, cr2, cr3, cr4, cr5⟩, fr⟩ := R6.out
      unfold Fz at fr
      go_wp2_with fail
      have R8 := R7.out
      have B8 := B7.out
      clear R7 B7
      revert R8 B8
      generalize ((((((w5.setCell ⟨w.heap.size + 2, 0, none⟩ (.int .i64 v0)).setCell ⟨w.heap.size + 2, 1, none⟩ (.int .i64 v1)).setCell ⟨w.heap.size + 2, 2, none⟩ (.int .i64 v2)).setCell ⟨w.heap.size + 2, 3, none⟩ (.int .i64 v3)).setCell ⟨w.heap.size + 2, 4, none⟩ (.int .i64 v4)).setCell ⟨w.heap.size + 2, 5, none⟩ (.int .i64 v5)) = W9
      intro R8 B8
      obtain ⟨zz, s0, s1, s2, s3, s4, s5⟩ := R8
      exact bodyPost_ret (v := .tuple #[.agg #[.int .i64 v0, .int .i64 v1, .int .i64 v2, .int .i64 v3, .int .i64 v4, .int .i64 v5], .bool gg]) (by simp [results, Try.results22, go_sem, s0, s1, s2, s3, s4, s5]) rfl ⟨rfl, B8⟩
    · have hk : goodM a' b' c' d' x' y' = false := by simpa using hk
      rw [hk] at KK ⊢
      rw [Bool.false_and, bsel_f, bsel_f, bsel_f, bsel_f, bsel_f, bsel_f]
      clear hk hg u1 u2 u3 u4 u5 u6 u7 u8 u9 u10 u11 u12
      go_enter Try.func22, Try.ntmps22
      go_wp2_with fail
      obtain ⟨W0, hW0⟩ : ∃ W0, W0 = (((w.alloc (.cells #[.int .i64 a, .int .i64 b, .int .i64 c, .int .i64 d, .int .i64 x, .int .i64 y] 25)).alloc (.cells #[.int .i64 a', .int .i64 b', .int .i64 c', .int .i64 d', .int .i64 x', .int .i64 y'] 25)).alloc (.cells #[.int .i64 0, .int .i64 0, .int .i64 0, .int .i64 0, .int .i64 0, .int .i64 0] 25)) := ⟨_, rfl⟩
      rw [← hW0]
      have yW00_0 : W0.cell? ⟨w.heap.size, 0, none⟩ = some (.int .i64 a) := by rw [hW0]; go_simp
      have yW00_1 : W0.cell? ⟨w.heap.size, 1, none⟩ = some (.int .i64 b) := by rw [hW0]; go_simp
      have yW00_2 : W0.cell? ⟨w.heap.size, 2, none⟩ = some (.int .i64 c) := by rw [hW0]; go_simp
      have yW00_3 : W0.cell? ⟨w.heap.size, 3, none⟩ = some (.int .i64 d) := by rw [hW0]; go_simp
      have yW00_4 : W0.cell? ⟨w.heap.size, 4, none⟩ = some (.int .i64 x) := by rw [hW0]; go_simp
      have yW00_5 : W0.cell? ⟨w.heap.size, 5, none⟩ = some (.int .i64 y) := by rw [hW0]; go_simp
      have fW00 : ∀ o, W0.frozen? ⟨w.heap.size, o, none⟩ = false := by intro o; rw [hW0]; (repeat rw [frozen?_alloc_cells]); simp [World.frozen?]
      have zW00 : w.heap.size < W0.heap.size := by rw [hW0]; simp <;> omega
      have yW01_0 : W0.cell? ⟨w.heap.size + 1, 0, none⟩ = some (.int .i64 a') := by rw [hW0]; go_simp
      have yW01_1 : W0.cell? ⟨w.heap.size + 1, 1, none⟩ = some (.int .i64 b') := by rw [hW0]; go_simp
      have yW01_2 : W0.cell? ⟨w.heap.size + 1, 2, none⟩ = some (.int .i64 c') := by rw [hW0]; go_simp
      have yW01_3 : W0.cell? ⟨w.heap.size + 1, 3, none⟩ = some (.int .i64 d') := by rw [hW0]; go_simp
      have yW01_4 : W0.cell? ⟨w.heap.size + 1, 4, none⟩ = some (.int .i64 x') := by rw [hW0]; go_simp
      have yW01_5 : W0.cell? ⟨w.heap.size + 1, 5, none⟩ = some (.int .i64 y') := by rw [hW0]; go_simp
      have fW01 : ∀ o, W0.frozen? ⟨w.heap.size + 1, o, none⟩ = false := by intro o; rw [hW0]; (repeat rw [frozen?_alloc_cells]); simp [World.frozen?]
      have zW01 : w.heap.size + 1 < W0.heap.size := by rw [hW0]; simp <;> omega
      have yW02_0 : W0.cell? ⟨w.heap.size + 2, 0, none⟩ = some (.int .i64 0) := by rw [hW0]; go_simp
      have yW02_1 : W0.cell? ⟨w.heap.size + 2, 1, none⟩ = some (.int .i64 0) := by rw [hW0]; go_simp
      have yW02_2 : W0.cell? ⟨w.heap.size + 2, 2, none⟩ = some (.int .i64 0) := by rw [hW0]; go_simp
      have yW02_3 : W0.cell? ⟨w.heap.size + 2, 3, none⟩ = some (.int .i64 0) := by rw [hW0]; go_simp
      have yW02_4 : W0.cell? ⟨w.heap.size + 2, 4, none⟩ = some (.int .i64 0) := by rw [hW0]; go_simp
      have yW02_5 : W0.cell? ⟨w.heap.size + 2, 5, none⟩ = some (.int .i64 0) := by rw [hW0]; go_simp
      have fW02 : ∀ o, W0.frozen? ⟨w.heap.size + 2, o, none⟩ = false := by intro o; rw [hW0]; (repeat rw [frozen?_alloc_cells]); simp [World.frozen?]
      have zW02 : w.heap.size + 2 < W0.heap.size := by rw [hW0]; simp <;> omega
      have BW0 : Below w.heap.size w W0 := by rw [hW0]; exact (Below.alloc (Below.alloc (Below.alloc (Below.refl _ _) (by simp <;> omega) _) (by simp <;> omega) _) (by simp <;> omega) _)
      have eW0 : Hid (W0.heap.size = w.heap.size + 3) := Lib.hid (by rw [hW0]; simp)
      clear hW0
      have E6 := Lib.hid (show Own6 W0 (w.heap.size) a b c d x y from ⟨⟨zW00, yW00_0, yW00_1, yW00_2, yW00_3, yW00_4, yW00_5⟩, fW00⟩)
      have F6 := Lib.hid (show Own6 W0 (w.heap.size + 1) a' b' c' d' x' y' from ⟨⟨zW01, yW01_0, yW01_1, yW01_2, yW01_3, yW01_4, yW01_5⟩, fW01⟩)
      have R6 := Lib.hid (show Own6 W0 (w.heap.size + 2) 0 0 0 0 0 0 from ⟨⟨zW02, yW02_0, yW02_1, yW02_2, yW02_3, yW02_4, yW02_5⟩, fW02⟩)
      clear zW00 fW00 yW00_0 yW00_1 yW00_2 yW00_3 yW00_4 yW00_5 zW01 fW01 yW01_0 yW01_1 yW01_2 yW01_3 yW01_4 yW01_5 zW02 fW02 yW02_0 yW02_1 yW02_2 yW02_3 yW02_4 yW02_5 eW0
      refine (K.out _).mono ?_; rintro e w1 ⟨rfl, hbw1⟩
      have Bw1 := BW0.trans (hbw1.mono BW0.size)
      have E6 := Lib.hid (own6_below E6.out hbw1 E6.out.1.1)
      have F6 := Lib.hid (own6_below F6.out hbw1 F6.out.1.1)
      have R6 := Lib.hid (own6_below R6.out hbw1 R6.out.1.1)
      clear hbw1 BW0
      obtain ⟨⟨zq, cq0, cq1, cq2, cq3, cq4, cq5⟩, fq⟩ := F6.out
      unfold Fz at fq
      go_wp2_with fail
      clear zq fq cq0 cq1 cq2 cq3 cq4 cq5
      refine (KK.out _).mono ?_; rintro e w2 ⟨rfl, hbw2⟩
      have Bw2 := Bw1.trans (hbw2.mono Bw1.size)
      have E6 := Lib.hid (own6_below E6.out hbw2 E6.out.1.1)
      have F6 := Lib.hid (own6_below F6.out hbw2 F6.out.1.1)
      have R6 := Lib.hid (own6_below R6.out hbw2 R6.out.1.1)
      clear hbw2 Bw1
      have R7 := Lib.hid (at6_set5 (at6_set4 (at6_set3 (at6_set2 (at6_set1 (at6_set0 (R6.out.1) 0) 0) 0) 0) 0) 0)
      have B7 := Lib.hid ((((((Bw2.setCell (p := ⟨w.heap.size + 2, 0, none⟩) (Nat.le_add_right _ _) (.int .i64 0)).setCell (p := ⟨w.heap.size + 2, 1, none⟩) (Nat.le_add_right _ _) (.int .i64 0)).setCell (p := ⟨w.heap.size + 2, 2, none⟩) (Nat.le_add_right _ _) (.int .i64 0)).setCell (p := ⟨w.heap.size + 2, 3, none⟩) (Nat.le_add_right _ _) (.int .i64 0)).setCell (p := ⟨w.heap.size + 2, 4, none⟩) (Nat.le_add_right _ _) (.int .i64 0)).setCell (p := ⟨w.heap.size + 2, 5, none⟩) (Nat.le_add_right _ _) (.int .i64 0))
      obtain ⟨⟨zr, cr0, cr1, cr2, cr3, cr4, cr5⟩, fr⟩ := R6.out
      unfold Fz at fr
      go_wp2_with fail
      have R8 := R7.out
      have B8 := B7.out
      clear R7 B7
      revert R8 B8
      generalize ((((((w2.setCell ⟨w.heap.size + 2, 0, none⟩ (.int .i64 0)).setCell ⟨w.heap.size + 2, 1, none⟩ (.int .i64 0)).setCell ⟨w.heap.size + 2, 2, none⟩ (.int .i64 0)).setCell ⟨w.heap.size + 2, 3, none⟩ (.int .i64 0)).setCell ⟨w.heap.size + 2, 4, none⟩ (.int .i64 0)).setCell ⟨w.heap.size + 2, 5, none⟩ (.int .i64 0)) = W9
      intro R8 B8
      obtain ⟨zz, s0, s1, s2, s3, s4, s5⟩ := R8
      exact bodyPost_ret (v := .tuple #[.agg #[.int .i64 0, .int .i64 0, .int .i64 0, .int .i64 0, .int .i64 0, .int .i64 0], .bool false]) (by simp [results, Try.results22, go_sem, s0, s1, s2, s3, s4, s5]) rfl ⟨rfl, B8⟩
  · have hg : goodM a b c d x y = false := by simpa using hg
    rw [hg] at K ⊢
    rw [Bool.false_and, bsel_f, bsel_f, bsel_f, bsel_f, bsel_f, bsel_f]
    clear hg KK
    go_enter Try.func22, Try.ntmps22
    go_wp2_with fail
    obtain ⟨W0, hW0⟩ : ∃ W0, W0 = (((w.alloc (.cells #[.int .i64 a, .int .i64 b, .int .i64 c, .int .i64 d, .int .i64 x, .int .i64 y] 25)).alloc (.cells #[.int .i64 a', .int .i64 b', .int .i64 c', .int .i64 d', .int .i64 x', .int .i64 y'] 25)).alloc (.cells #[.int .i64 0, .int .i64 0, .int .i64 0, .int .i64 0, .int .i64 0, .int .i64 0] 25)) := ⟨_, rfl⟩
    rw [← hW0]
    have yW00_0 : W0.cell? ⟨w.heap.size, 0, none⟩ = some (.int .i64 a) := by rw [hW0]; go_simp
    have yW00_1 : W0.cell? ⟨w.heap.size, 1, none⟩ = some (.int .i64 b) := by rw [hW0]; go_simp
    have yW00_2 : W0.cell? ⟨w.heap.size, 2, none⟩ = some (.int .i64 c) := by rw [hW0]; go_simp
    have yW00_3 : W0.cell? ⟨w.heap.size, 3, none⟩ = some (.int .i64 d) := by rw [hW0]; go_simp
    have yW00_4 : W0.cell? ⟨w.heap.size, 4, none⟩ = some (.int .i64 x) := by rw [hW0]; go_simp
    have yW00_5 : W0.cell? ⟨w.heap.size, 5, none⟩ = some (.int .i64 y) := by rw [hW0]; go_simp
    have fW00 : ∀ o, W0.frozen? ⟨w.heap.size, o, none⟩ = false := by intro o; rw [hW0]; (repeat rw [frozen?_alloc_cells]); simp [World.frozen?]
    have zW00 : w.heap.size < W0.heap.size := by rw [hW0]; simp <;> omega
    have yW01_0 : W0.cell? ⟨w.heap.size + 1, 0, none⟩ = some (.int .i64 a') := by rw [hW0]; go_simp
    have yW01_1 : W0.cell? ⟨w.heap.size + 1, 1, none⟩ = some (.int .i64 b') := by rw [hW0]; go_simp
    have yW01_2 : W0.cell? ⟨w.heap.size + 1, 2, none⟩ = some (.int .i64 c') := by rw [hW0]; go_simp
    have yW01_3 : W0.cell? ⟨w.heap.size + 1, 3, none⟩ = some (.int .i64 d') := by rw [hW0]; go_simp
    have yW01_4 : W0.cell? ⟨w.heap.size + 1, 4, none⟩ = some (.int .i64 x') := by rw [hW0]; go_simp
    have yW01_5 : W0.cell? ⟨w.heap.size + 1, 5, none⟩ = some (.int .i64 y') := by rw [hW0]; go_simp
    have fW01 : ∀ o, W0.frozen? ⟨w.heap.size + 1, o, none⟩ = false := by intro o; rw [hW0]; (repeat rw [frozen?_alloc_cells]); simp [World.frozen?]
    have zW01 : w.heap.size + 1 < W0.heap.size := by rw [hW0]; simp <;> omega
    have yW02_0 : W0.cell? ⟨w.heap.size + 2, 0, none⟩ = some (.int .i64 0) := by rw [hW0]; go_simp
    have yW02_1 : W0.cell? ⟨w.heap.size + 2, 1, none⟩ = some (.int .i64 0) := by rw [hW0]; go_simp
    have yW02_2 : W0.cell? ⟨w.heap.size + 2, 2, none⟩ = some (.int .i64 0) := by rw [hW0]; go_simp
    have yW02_3 : W0.cell? ⟨w.heap.size + 2, 3, none⟩ = some (.int .i64 0) := by rw [hW0]; go_simp
    have yW02_4 : W0.cell? ⟨w.heap.size + 2, 4, none⟩ = some (.int .i64 0) := by rw [hW0]; go_simp
    have yW02_5 : W0.cell? ⟨w.heap.size + 2, 5, none⟩ = some (.int .i64 0) := by rw [hW0]; go_simp
    have fW02 : ∀ o, W0.frozen? ⟨w.heap.size + 2, o, none⟩ = false := by intro o; rw [hW0]; (repeat rw [frozen?_alloc_cells]); simp [World.frozen?]
    have zW02 : w.heap.size + 2 < W0.heap.size := by rw [hW0]; simp <;> omega
    have BW0 : Below w.heap.size w W0 := by rw [hW0]; exact (Below.alloc (Below.alloc (Below.alloc (Below.refl _ _) (by simp <;> omega) _) (by simp <;> omega) _) (by simp <;> omega) _)
    have eW0 : Hid (W0.heap.size = w.heap.size + 3) := Lib.hid (by rw [hW0]; simp)
    clear hW0
    have E6 := Lib.hid (show Own6 W0 (w.heap.size) a b c d x y from ⟨⟨zW00, yW00_0, yW00_1, yW00_2, yW00_3, yW00_4, yW00_5⟩, fW00⟩)
    have F6 := Lib.hid (show Own6 W0 (w.heap.size + 1) a' b' c' d' x' y' from ⟨⟨zW01, yW01_0, yW01_1, yW01_2, yW01_3, yW01_4, yW01_5⟩, fW01⟩)
    have R6 := Lib.hid (show Own6 W0 (w.heap.size + 2) 0 0 0 0 0 0 from ⟨⟨zW02, yW02_0, yW02_1, yW02_2, yW02_3, yW02_4, yW02_5⟩, fW02⟩)
    clear zW00 fW00 yW00_0 yW00_1 yW00_2 yW00_3 yW00_4 yW00_5 zW01 fW01 yW01_0 yW01_1 yW01_2 yW01_3 yW01_4 yW01_5 zW02 fW02 yW02_0 yW02_1 yW02_2 yW02_3 yW02_4 yW02_5 eW0
    refine (K.out _).mono ?_; rintro e w1 ⟨rfl, hbw1⟩
    have Bw1 := BW0.trans (hbw1.mono BW0.size)
    have E6 := Lib.hid (own6_below E6.out hbw1 E6.out.1.1)
    have F6 := Lib.hid (own6_below F6.out hbw1 F6.out.1.1)
    have R6 := Lib.hid (own6_below R6.out hbw1 R6.out.1.1)
    clear hbw1 BW0
    have R7 := Lib.hid (at6_set5 (at6_set4 (at6_set3 (at6_set2 (at6_set1 (at6_set0 (R6.out.1) 0) 0) 0) 0) 0) 0)
    have B7 := Lib.hid ((((((Bw1.setCell (p := ⟨w.heap.size + 2, 0, none⟩) (Nat.le_add_right _ _) (.int .i64 0)).setCell (p := ⟨w.heap.size + 2, 1, none⟩) (Nat.le_add_right _ _) (.int .i64 0)).setCell (p := ⟨w.heap.size + 2, 2, none⟩) (Nat.le_add_right _ _) (.int .i64 0)).setCell (p := ⟨w.heap.size + 2, 3, none⟩) (Nat.le_add_right _ _) (.int .i64 0)).setCell (p := ⟨w.heap.size + 2, 4, none⟩) (Nat.le_add_right _ _) (.int .i64 0)).setCell (p := ⟨w.heap.size + 2, 5, none⟩) (Nat.le_add_right _ _) (.int .i64 0))
    obtain ⟨⟨zr, cr0, cr1, cr2, cr3, cr4, cr5⟩, fr⟩ := R6.out
    unfold Fz at fr
    go_wp2_with fail
    have R8 := R7.out
    have B8 := B7.out
    clear R7 B7
    revert R8 B8
    generalize ((((((w1.setCell ⟨w.heap.size + 2, 0, none⟩ (.int .i64 0)).setCell ⟨w.heap.size + 2, 1, none⟩ (.int .i64 0)).setCell ⟨w.heap.size + 2, 2, none⟩ (.int .i64 0)).setCell ⟨w.heap.size + 2, 3, none⟩ (.int .i64 0)).setCell ⟨w.heap.size + 2, 4, none⟩ (.int .i64 0)).setCell ⟨w.heap.size + 2, 5, none⟩ (.int .i64 0)) = W9
    intro R8 B8
    obtain ⟨zz, s0, s1, s2, s3, s4, s5⟩ := R8
    exact bodyPost_ret (v := .tuple #[.agg #[.int .i64 0, .int .i64 0, .int .i64 0, .int .i64 0, .int .i64 0, .int .i64 0], .bool false]) (by simp [results, Try.results22, go_sem, s0, s1, s2, s3, s4, s5]) rfl ⟨rfl, B8⟩
set_option maxHeartbeats 2000000 in
theorem implJoinMoves_any (a b c d x y a' b' c' d' x' y' : Int) (w : World) :
    Calls Try.prog 23 #[.agg #[.int .i64 a, .int .i64 b, .int .i64 c, .int .i64 d, .int .i64 x, .int .i64 y], .agg #[.int .i64 a', .int .i64 b', .int .i64 c', .int .i64 d', .int .i64 x', .int .i64 y']] w fun e w' => e = .returned (.tuple #[.agg #[.int .i64 (bsel (goodM a b c d x y && (goodM a' b' c' d' x' y' && (goodM (a * a' + b * c') (a * b' + b * d') (c * a' + d * c') (c * b' + d * d') (a * x' + b * y' + x) (c * x' + d * y' + y)))) ((a * a' + b * c'))), .int .i64 (bsel (goodM a b c d x y && (goodM a' b' c' d' x' y' && (goodM (a * a' + b * c') (a * b' + b * d') (c * a' + d * c') (c * b' + d * d') (a * x' + b * y' + x) (c * x' + d * y' + y)))) ((a * b' + b * d'))), .int .i64 (bsel (goodM a b c d x y && (goodM a' b' c' d' x' y' && (goodM (a * a' + b * c') (a * b' + b * d') (c * a' + d * c') (c * b' + d * d') (a * x' + b * y' + x) (c * x' + d * y' + y)))) ((c * a' + d * c'))), .int .i64 (bsel (goodM a b c d x y && (goodM a' b' c' d' x' y' && (goodM (a * a' + b * c') (a * b' + b * d') (c * a' + d * c') (c * b' + d * d') (a * x' + b * y' + x) (c * x' + d * y' + y)))) ((c * b' + d * d'))), .int .i64 (bsel (goodM a b c d x y && (goodM a' b' c' d' x' y' && (goodM (a * a' + b * c') (a * b' + b * d') (c * a' + d * c') (c * b' + d * d') (a * x' + b * y' + x) (c * x' + d * y' + y)))) ((a * x' + b * y' + x))), .int .i64 (bsel (goodM a b c d x y && (goodM a' b' c' d' x' y' && (goodM (a * a' + b * c') (a * b' + b * d') (c * a' + d * c') (c * b' + d * d') (a * x' + b * y' + x) (c * x' + d * y' + y)))) ((c * x' + d * y' + y)))], .bool (goodM a b c d x y && (goodM a' b' c' d' x' y' && (goodM (a * a' + b * c') (a * b' + b * d') (c * a' + d * c') (c * b' + d * d') (a * x' + b * y' + x) (c * x' + d * y' + y))))]) ∧ Below w.heap.size w w' := by
  have K := Lib.hid (fun W => implIsMove_any a b c d x y W)
  have KK := Lib.hid (fun W => implIsMove_any a' b' c' d' x' y' W)
  by_cases hg : goodM a b c d x y = true
  · obtain ⟨⟨⟨u1, u2⟩, ⟨u3, u4⟩, ⟨u5, u6⟩, ⟨u7, u8⟩⟩, ⟨u9, u10⟩, ⟨u11, u12⟩⟩ := good_bd hg
    rw [hg] at K ⊢
    rw [Bool.true_and]
    by_cases hk : goodM a' b' c' d' x' y' = true
    · obtain ⟨⟨⟨n1, n2⟩, ⟨n3, n4⟩, ⟨n5, n6⟩, ⟨n7, n8⟩⟩, ⟨n9, n10⟩, ⟨n11, n12⟩⟩ := good_bd hk
      rw [hk] at KK ⊢
      rw [Bool.true_and]
      clear hg hk
      have KW := Lib.hid (fun W => whole_any a b c d x y W)
      have KV := Lib.hid (fun W => whole_any a' b' c' d' x' y' W)
      have KA := Lib.hid (fun W => after_any a b c d x y a' b' c' d' x' y' W (by omega) (by omega) (by omega) (by omega) (by omega) (by omega) (by omega) (by omega) (by omega) (by omega) (by omega) (by omega))
      have KI := Lib.hid (fun W => asMove_any (a * a' + b * c') (a * b' + b * d') (c * a' + d * c') (c * b' + d * d') (a * x' + b * y' + x) (c * x' + d * y' + y) W)
      clear u1 u2 u3 u4 u5 u6 u7 u8 u9 u10 u11 u12 n1 n2 n3 n4 n5 n6 n7 n8 n9 n10 n11 n12
      generalize bsel (goodM (a * a' + b * c') (a * b' + b * d') (c * a' + d * c') (c * b' + d * d') (a * x' + b * y' + x) (c * x' + d * y' + y)) (a * a' + b * c') = v0 at *
      generalize bsel (goodM (a * a' + b * c') (a * b' + b * d') (c * a' + d * c') (c * b' + d * d') (a * x' + b * y' + x) (c * x' + d * y' + y)) (a * b' + b * d') = v1 at *
      generalize bsel (goodM (a * a' + b * c') (a * b' + b * d') (c * a' + d * c') (c * b' + d * d') (a * x' + b * y' + x) (c * x' + d * y' + y)) (c * a' + d * c') = v2 at *
      generalize bsel (goodM (a * a' + b * c') (a * b' + b * d') (c * a' + d * c') (c * b' + d * d') (a * x' + b * y' + x) (c * x' + d * y' + y)) (c * b' + d * d') = v3 at *
      generalize bsel (goodM (a * a' + b * c') (a * b' + b * d') (c * a' + d * c') (c * b' + d * d') (a * x' + b * y' + x) (c * x' + d * y' + y)) (a * x' + b * y' + x) = v4 at *
      generalize bsel (goodM (a * a' + b * c') (a * b' + b * d') (c * a' + d * c') (c * b' + d * d') (a * x' + b * y' + x) (c * x' + d * y' + y)) (c * x' + d * y' + y) = v5 at *
      generalize (goodM (a * a' + b * c') (a * b' + b * d') (c * a' + d * c') (c * b' + d * d') (a * x' + b * y' + x) (c * x' + d * y' + y)) = gg at *
      generalize (a * a' + b * c') = r0 at *
      generalize (a * b' + b * d') = r1 at *
      generalize (c * a' + d * c') = r2 at *
      generalize (c * b' + d * d') = r3 at *
      generalize (a * x' + b * y' + x) = r4 at *
      generalize (c * x' + d * y' + y) = r5 at *
      go_enter Try.func23, Try.ntmps23
      go_wp2_with fail
      obtain ⟨W0, hW0⟩ : ∃ W0, W0 = (((w.alloc (.cells #[.int .i64 a, .int .i64 b, .int .i64 c, .int .i64 d, .int .i64 x, .int .i64 y] 25)).alloc (.cells #[.int .i64 a', .int .i64 b', .int .i64 c', .int .i64 d', .int .i64 x', .int .i64 y'] 25)).alloc (.cells #[.int .i64 0, .int .i64 0, .int .i64 0, .int .i64 0, .int .i64 0, .int .i64 0] 25)) := ⟨_, rfl⟩
      rw [← hW0]
      have yW00_0 : W0.cell? ⟨w.heap.size, 0, none⟩ = some (.int .i64 a) := by rw [hW0]; go_simp
      have yW00_1 : W0.cell? ⟨w.heap.size, 1, none⟩ = some (.int .i64 b) := by rw [hW0]; go_simp
      have yW00_2 : W0.cell? ⟨w.heap.size, 2, none⟩ = some (.int .i64 c) := by rw [hW0]; go_simp
      have yW00_3 : W0.cell? ⟨w.heap.size, 3, none⟩ = some (.int .i64 d) := by rw [hW0]; go_simp
      have yW00_4 : W0.cell? ⟨w.heap.size, 4, none⟩ = some (.int .i64 x) := by rw [hW0]; go_simp
      have yW00_5 : W0.cell? ⟨w.heap.size, 5, none⟩ = some (.int .i64 y) := by rw [hW0]; go_simp
      have fW00 : ∀ o, W0.frozen? ⟨w.heap.size, o, none⟩ = false := by intro o; rw [hW0]; (repeat rw [frozen?_alloc_cells]); simp [World.frozen?]
      have zW00 : w.heap.size < W0.heap.size := by rw [hW0]; simp <;> omega
      have yW01_0 : W0.cell? ⟨w.heap.size + 1, 0, none⟩ = some (.int .i64 a') := by rw [hW0]; go_simp
      have yW01_1 : W0.cell? ⟨w.heap.size + 1, 1, none⟩ = some (.int .i64 b') := by rw [hW0]; go_simp
      have yW01_2 : W0.cell? ⟨w.heap.size + 1, 2, none⟩ = some (.int .i64 c') := by rw [hW0]; go_simp
      have yW01_3 : W0.cell? ⟨w.heap.size + 1, 3, none⟩ = some (.int .i64 d') := by rw [hW0]; go_simp
      have yW01_4 : W0.cell? ⟨w.heap.size + 1, 4, none⟩ = some (.int .i64 x') := by rw [hW0]; go_simp
      have yW01_5 : W0.cell? ⟨w.heap.size + 1, 5, none⟩ = some (.int .i64 y') := by rw [hW0]; go_simp
      have fW01 : ∀ o, W0.frozen? ⟨w.heap.size + 1, o, none⟩ = false := by intro o; rw [hW0]; (repeat rw [frozen?_alloc_cells]); simp [World.frozen?]
      have zW01 : w.heap.size + 1 < W0.heap.size := by rw [hW0]; simp <;> omega
      have yW02_0 : W0.cell? ⟨w.heap.size + 2, 0, none⟩ = some (.int .i64 0) := by rw [hW0]; go_simp
      have yW02_1 : W0.cell? ⟨w.heap.size + 2, 1, none⟩ = some (.int .i64 0) := by rw [hW0]; go_simp
      have yW02_2 : W0.cell? ⟨w.heap.size + 2, 2, none⟩ = some (.int .i64 0) := by rw [hW0]; go_simp
      have yW02_3 : W0.cell? ⟨w.heap.size + 2, 3, none⟩ = some (.int .i64 0) := by rw [hW0]; go_simp
      have yW02_4 : W0.cell? ⟨w.heap.size + 2, 4, none⟩ = some (.int .i64 0) := by rw [hW0]; go_simp
      have yW02_5 : W0.cell? ⟨w.heap.size + 2, 5, none⟩ = some (.int .i64 0) := by rw [hW0]; go_simp
      have fW02 : ∀ o, W0.frozen? ⟨w.heap.size + 2, o, none⟩ = false := by intro o; rw [hW0]; (repeat rw [frozen?_alloc_cells]); simp [World.frozen?]
      have zW02 : w.heap.size + 2 < W0.heap.size := by rw [hW0]; simp <;> omega
      have BW0 : Below w.heap.size w W0 := by rw [hW0]; exact (Below.alloc (Below.alloc (Below.alloc (Below.refl _ _) (by simp <;> omega) _) (by simp <;> omega) _) (by simp <;> omega) _)
      have eW0 : Hid (W0.heap.size = w.heap.size + 3) := Lib.hid (by rw [hW0]; simp)
      clear hW0
      have E6 := Lib.hid (show Own6 W0 (w.heap.size) a b c d x y from ⟨⟨zW00, yW00_0, yW00_1, yW00_2, yW00_3, yW00_4, yW00_5⟩, fW00⟩)
      have F6 := Lib.hid (show Own6 W0 (w.heap.size + 1) a' b' c' d' x' y' from ⟨⟨zW01, yW01_0, yW01_1, yW01_2, yW01_3, yW01_4, yW01_5⟩, fW01⟩)
      have R6 := Lib.hid (show Own6 W0 (w.heap.size + 2) 0 0 0 0 0 0 from ⟨⟨zW02, yW02_0, yW02_1, yW02_2, yW02_3, yW02_4, yW02_5⟩, fW02⟩)
      clear zW00 fW00 yW00_0 yW00_1 yW00_2 yW00_3 yW00_4 yW00_5 zW01 fW01 yW01_0 yW01_1 yW01_2 yW01_3 yW01_4 yW01_5 zW02 fW02 yW02_0 yW02_1 yW02_2 yW02_3 yW02_4 yW02_5 eW0
      refine (K.out _).mono ?_; rintro e w1 ⟨rfl, hbw1⟩
      have Bw1 := BW0.trans (hbw1.mono BW0.size)
      have E6 := Lib.hid (own6_below E6.out hbw1 E6.out.1.1)
      have F6 := Lib.hid (own6_below F6.out hbw1 F6.out.1.1)
      have R6 := Lib.hid (own6_below R6.out hbw1 R6.out.1.1)
      clear hbw1 BW0
      obtain ⟨⟨zq, cq0, cq1, cq2, cq3, cq4, cq5⟩, fq⟩ := F6.out
      unfold Fz at fq
      go_wp2_with fail
      clear zq fq cq0 cq1 cq2 cq3 cq4 cq5
      refine (KK.out _).mono ?_; rintro e w2 ⟨rfl, hbw2⟩
      have Bw2 := Bw1.trans (hbw2.mono Bw1.size)
      have E6 := Lib.hid (own6_below E6.out hbw2 E6.out.1.1)
      have F6 := Lib.hid (own6_below F6.out hbw2 F6.out.1.1)
      have R6 := Lib.hid (own6_below R6.out hbw2 R6.out.1.1)
      clear hbw2 Bw1
      obtain ⟨⟨zp, cp0, cp1, cp2, cp3, cp4, cp5⟩, fp⟩ := E6.out
      unfold Fz at fp
      obtain ⟨⟨zq, cq0, cq1, cq2, cq3, cq4, cq5⟩, fq⟩ := F6.out
      unfold Fz at fq
      go_wp2_with fail
      refine wp_region_BM 8 7 (fun W => Below (w2).heap.size (w2) W) (by kernel_rfl) (by kernel_rfl) (by repeat (first | exact Below.refl _ _ | apply Below.drew)) rfl rfl (fun S a v w w2 h => extract_pure rfl h) (fun _ _ _ _ h => h) ?_
      simp only [List.take_succ_cons, List.take_zero, List.drop_succ_cons, List.drop_zero]
      first | refine wpH_skip (by rfl) ?_ | (refine wpH_text (v := ?_) (by rfl) (fun W k1 => ?_) ?_; rotate_left; (obtain ⟨hc1, hf1⟩ := bcell k1;  go_simp; refine comes_v ?_; exact k1))
      (try simp only [Act.put, List.setIfInBounds_toArray, List.set_cons_zero, List.set_cons_succ])
      first | refine wpH_skip (by rfl) ?_ | (refine wpH_text (v := .agg #[.int .i64 a, .int .i64 b, .int .i64 c, .int .i64 d, .int .i64 x, .int .i64 y]) (by rfl) (fun W k1 => ?_) ?_; (obtain ⟨hc1, hf1⟩ := bcell k1;  go_simp; exact comes_c ( KW.out _) (fun wn hbn => k1.trans (hbn.mono k1.size))))
      (try simp only [Act.put, List.setIfInBounds_toArray, List.set_cons_zero, List.set_cons_succ])
      first | refine wpH_skip (by rfl) ?_ | (refine wpH_text (v := ?_) (by rfl) (fun W k1 => ?_) ?_; rotate_left; (obtain ⟨hc1, hf1⟩ := bcell k1;  go_simp; refine comes_v ?_; exact k1))
      (try simp only [Act.put, List.setIfInBounds_toArray, List.set_cons_zero, List.set_cons_succ])
      first | refine wpH_skip (by rfl) ?_ | (refine wpH_text (v := .agg #[.int .i64 a', .int .i64 b', .int .i64 c', .int .i64 d', .int .i64 x', .int .i64 y']) (by rfl) (fun W k1 => ?_) ?_; (obtain ⟨hc1, hf1⟩ := bcell k1;  go_simp; exact comes_c ( KV.out _) (fun wn hbn => k1.trans (hbn.mono k1.size))))
      (try simp only [Act.put, List.setIfInBounds_toArray, List.set_cons_zero, List.set_cons_succ])
      first | refine wpH_skip (by rfl) ?_ | (refine wpH_text (v := .agg #[.int .i64 r0, .int .i64 r1, .int .i64 r2, .int .i64 r3, .int .i64 r4, .int .i64 r5]) (by rfl) (fun W k1 => ?_) ?_; (obtain ⟨hc1, hf1⟩ := bcell k1;  go_simp; exact comes_c ( KA.out _) (fun wn hbn => k1.trans (hbn.mono k1.size))))
      (try simp only [Act.put, List.setIfInBounds_toArray, List.set_cons_zero, List.set_cons_succ])
      first | refine wpH_skip (by rfl) ?_ | (refine wpH_text (v := .tuple #[.agg #[.int .i64 v0, .int .i64 v1, .int .i64 v2, .int .i64 v3, .int .i64 v4, .int .i64 v5], .bool gg]) (by rfl) (fun W k1 => ?_) ?_; (obtain ⟨hc1, hf1⟩ := bcell k1;  go_simp; exact comes_c ( KI.out _) (fun wn hbn => k1.trans (hbn.mono k1.size))))
      (try simp only [Act.put, List.setIfInBounds_toArray, List.set_cons_zero, List.set_cons_succ])
      first | refine wpH_skip (by rfl) ?_ | (refine wpH_text (v := ?_) (by rfl) (fun W k1 => ?_) ?_; rotate_left; (obtain ⟨hc1, hf1⟩ := bcell k1;  go_simp; refine comes_v ?_; exact k1))
      (try simp only [Act.put, List.setIfInBounds_toArray, List.set_cons_zero, List.set_cons_succ])
      first | refine wpH_skip (by rfl) ?_ | (refine wpH_text (v := ?_) (by rfl) (fun W k1 => ?_) ?_; rotate_left; (obtain ⟨hc1, hf1⟩ := bcell k1;  go_simp; refine comes_v ?_; exact k1))
      (try simp only [Act.put, List.setIfInBounds_toArray, List.set_cons_zero, List.set_cons_succ])
      refine wpH_nil ?_
      intro W k1; obtain ⟨hc1, hf1⟩ := bcell k1
      rename World => W3
      have BW3 := Bw2.trans (k1.mono Bw2.size)
      have R6 := Lib.hid (own6_below R6.out k1 R6.out.1.1)
      clear zp fp cp0 cp1 cp2 cp3 cp4 cp5
      clear zq fq cq0 cq1 cq2 cq3 cq4 cq5
      clear hc1 hf1 k1 Bw2
      have R7 := Lib.hid (at6_set5 (at6_set4 (at6_set3 (at6_set2 (at6_set1 (at6_set0 (R6.out.1) v0) v1) v2) v3) v4) v5)
      have B7 := Lib.hid ((((((BW3.setCell (p := ⟨w.heap.size + 2, 0, none⟩) (Nat.le_add_right _ _) (.int .i64 v0)).setCell (p := ⟨w.heap.size + 2, 1, none⟩) (Nat.le_add_right _ _) (.int .i64 v1)).setCell (p := ⟨w.heap.size + 2, 2, none⟩) (Nat.le_add_right _ _) (.int .i64 v2)).setCell (p := ⟨w.heap.size + 2, 3, none⟩) (Nat.le_add_right _ _) (.int .i64 v3)).setCell (p := ⟨w.heap.size + 2, 4, none⟩) (Nat.le_add_right _ _) (.int .i64 v4)).setCell (p := ⟨w.heap.size + 2, 5, none⟩) (Nat.le_add_right _ _) (.int .i64 v5))
      obtain ⟨⟨zr, cr0, cr1, cr2, cr3, cr4, cr5⟩, fr⟩ := R6.out
      unfold Fz at fr
      go_wp2_with fail
      have R8 := R7.out
      have B8 := B7.out
      clear R7 B7
      revert R8 B8
      generalize ((((((W3.setCell ⟨w.heap.size + 2, 0, none⟩ (.int .i64 v0)).setCell ⟨w.heap.size + 2, 1, none⟩ (.int .i64 v1)).setCell ⟨w.heap.size + 2, 2, none⟩ (.int .i64 v2)).setCell ⟨w.heap.size + 2, 3, none⟩ (.int .i64 v3)).setCell ⟨w.heap.size + 2, 4, none⟩ (.int .i64 v4)).setCell ⟨w.heap.size + 2, 5, none⟩ (.int .i64 v5)) = W9
      intro R8 B8
      obtain ⟨zz, s0, s1, s2, s3, s4, s5⟩ := R8
      exact bodyPost_ret (v := .tuple #[.agg #[.int .i64 v0, .int .i64 v1, .int .i64 v2, .int .i64 v3, .int .i64 v4, .int .i64 v5], .bool gg]) (by simp [results, Try.results23, go_sem, s0, s1, s2, s3, s4, s5]) rfl ⟨rfl, B8⟩
    · have hk : goodM a' b' c' d' x' y' = false := by simpa using hk
      rw [hk] at KK ⊢
      rw [Bool.false_and, bsel_f, bsel_f, bsel_f, bsel_f, bsel_f, bsel_f]
      clear hk hg u1 u2 u3 u4 u5 u6 u7 u8 u9 u10 u11 u12
      go_enter Try.func23, Try.ntmps23
      go_wp2_with fail
      obtain ⟨W0, hW0⟩ : ∃ W0, W0 = (((w.alloc (.cells #[.int .i64 a, .int .i64 b, .int .i64 c, .int .i64 d, .int .i64 x, .int .i64 y] 25)).alloc (.cells #[.int .i64 a', .int .i64 b', .int .i64 c', .int .i64 d', .int .i64 x', .int .i64 y'] 25)).alloc (.cells #[.int .i64 0, .int .i64 0, .int .i64 0, .int .i64 0, .int .i64 0, .int .i64 0] 25)) := ⟨_, rfl⟩
      rw [← hW0]
      have yW00_0 : W0.cell? ⟨w.heap.size, 0, none⟩ = some (.int .i64 a) := by rw [hW0]; go_simp
      have yW00_1 : W0.cell? ⟨w.heap.size, 1, none⟩ = some (.int .i64 b) := by rw [hW0]; go_simp
      have yW00_2 : W0.cell? ⟨w.heap.size, 2, none⟩ = some (.int .i64 c) := by rw [hW0]; go_simp
      have yW00_3 : W0.cell? ⟨w.heap.size, 3, none⟩ = some (.int .i64 d) := by rw [hW0]; go_simp
      have yW00_4 : W0.cell? ⟨w.heap.size, 4, none⟩ = some (.int .i64 x) := by rw [hW0]; go_simp
      have yW00_5 : W0.cell? ⟨w.heap.size, 5, none⟩ = some (.int .i64 y) := by rw [hW0]; go_simp
      have fW00 : ∀ o, W0.frozen? ⟨w.heap.size, o, none⟩ = false := by intro o; rw [hW0]; (repeat rw [frozen?_alloc_cells]); simp [World.frozen?]
      have zW00 : w.heap.size < W0.heap.size := by rw [hW0]; simp <;> omega
      have yW01_0 : W0.cell? ⟨w.heap.size + 1, 0, none⟩ = some (.int .i64 a') := by rw [hW0]; go_simp
      have yW01_1 : W0.cell? ⟨w.heap.size + 1, 1, none⟩ = some (.int .i64 b') := by rw [hW0]; go_simp
      have yW01_2 : W0.cell? ⟨w.heap.size + 1, 2, none⟩ = some (.int .i64 c') := by rw [hW0]; go_simp
      have yW01_3 : W0.cell? ⟨w.heap.size + 1, 3, none⟩ = some (.int .i64 d') := by rw [hW0]; go_simp
      have yW01_4 : W0.cell? ⟨w.heap.size + 1, 4, none⟩ = some (.int .i64 x') := by rw [hW0]; go_simp
      have yW01_5 : W0.cell? ⟨w.heap.size + 1, 5, none⟩ = some (.int .i64 y') := by rw [hW0]; go_simp
      have fW01 : ∀ o, W0.frozen? ⟨w.heap.size + 1, o, none⟩ = false := by intro o; rw [hW0]; (repeat rw [frozen?_alloc_cells]); simp [World.frozen?]
      have zW01 : w.heap.size + 1 < W0.heap.size := by rw [hW0]; simp <;> omega
      have yW02_0 : W0.cell? ⟨w.heap.size + 2, 0, none⟩ = some (.int .i64 0) := by rw [hW0]; go_simp
      have yW02_1 : W0.cell? ⟨w.heap.size + 2, 1, none⟩ = some (.int .i64 0) := by rw [hW0]; go_simp
      have yW02_2 : W0.cell? ⟨w.heap.size + 2, 2, none⟩ = some (.int .i64 0) := by rw [hW0]; go_simp
      have yW02_3 : W0.cell? ⟨w.heap.size + 2, 3, none⟩ = some (.int .i64 0) := by rw [hW0]; go_simp
      have yW02_4 : W0.cell? ⟨w.heap.size + 2, 4, none⟩ = some (.int .i64 0) := by rw [hW0]; go_simp
      have yW02_5 : W0.cell? ⟨w.heap.size + 2, 5, none⟩ = some (.int .i64 0) := by rw [hW0]; go_simp
      have fW02 : ∀ o, W0.frozen? ⟨w.heap.size + 2, o, none⟩ = false := by intro o; rw [hW0]; (repeat rw [frozen?_alloc_cells]); simp [World.frozen?]
      have zW02 : w.heap.size + 2 < W0.heap.size := by rw [hW0]; simp <;> omega
      have BW0 : Below w.heap.size w W0 := by rw [hW0]; exact (Below.alloc (Below.alloc (Below.alloc (Below.refl _ _) (by simp <;> omega) _) (by simp <;> omega) _) (by simp <;> omega) _)
      have eW0 : Hid (W0.heap.size = w.heap.size + 3) := Lib.hid (by rw [hW0]; simp)
      clear hW0
      have E6 := Lib.hid (show Own6 W0 (w.heap.size) a b c d x y from ⟨⟨zW00, yW00_0, yW00_1, yW00_2, yW00_3, yW00_4, yW00_5⟩, fW00⟩)
      have F6 := Lib.hid (show Own6 W0 (w.heap.size + 1) a' b' c' d' x' y' from ⟨⟨zW01, yW01_0, yW01_1, yW01_2, yW01_3, yW01_4, yW01_5⟩, fW01⟩)
      have R6 := Lib.hid (show Own6 W0 (w.heap.size + 2) 0 0 0 0 0 0 from ⟨⟨zW02, yW02_0, yW02_1, yW02_2, yW02_3, yW02_4, yW02_5⟩, fW02⟩)
      clear zW00 fW00 yW00_0 yW00_1 yW00_2 yW00_3 yW00_4 yW00_5 zW01 fW01 yW01_0 yW01_1 yW01_2 yW01_3 yW01_4 yW01_5 zW02 fW02 yW02_0 yW02_1 yW02_2 yW02_3 yW02_4 yW02_5 eW0
      refine (K.out _).mono ?_; rintro e w1 ⟨rfl, hbw1⟩
      have Bw1 := BW0.trans (hbw1.mono BW0.size)
      have E6 := Lib.hid (own6_below E6.out hbw1 E6.out.1.1)
      have F6 := Lib.hid (own6_below F6.out hbw1 F6.out.1.1)
      have R6 := Lib.hid (own6_below R6.out hbw1 R6.out.1.1)
      clear hbw1 BW0
      obtain ⟨⟨zq, cq0, cq1, cq2, cq3, cq4, cq5⟩, fq⟩ := F6.out
      unfold Fz at fq
      go_wp2_with fail
      clear zq fq cq0 cq1 cq2 cq3 cq4 cq5
      refine (KK.out _).mono ?_; rintro e w2 ⟨rfl, hbw2⟩
      have Bw2 := Bw1.trans (hbw2.mono Bw1.size)
      have E6 := Lib.hid (own6_below E6.out hbw2 E6.out.1.1)
      have F6 := Lib.hid (own6_below F6.out hbw2 F6.out.1.1)
      have R6 := Lib.hid (own6_below R6.out hbw2 R6.out.1.1)
      clear hbw2 Bw1
      have R7 := Lib.hid (at6_set5 (at6_set4 (at6_set3 (at6_set2 (at6_set1 (at6_set0 (R6.out.1) 0) 0) 0) 0) 0) 0)
      have B7 := Lib.hid ((((((Bw2.setCell (p := ⟨w.heap.size + 2, 0, none⟩) (Nat.le_add_right _ _) (.int .i64 0)).setCell (p := ⟨w.heap.size + 2, 1, none⟩) (Nat.le_add_right _ _) (.int .i64 0)).setCell (p := ⟨w.heap.size + 2, 2, none⟩) (Nat.le_add_right _ _) (.int .i64 0)).setCell (p := ⟨w.heap.size + 2, 3, none⟩) (Nat.le_add_right _ _) (.int .i64 0)).setCell (p := ⟨w.heap.size + 2, 4, none⟩) (Nat.le_add_right _ _) (.int .i64 0)).setCell (p := ⟨w.heap.size + 2, 5, none⟩) (Nat.le_add_right _ _) (.int .i64 0))
      obtain ⟨⟨zr, cr0, cr1, cr2, cr3, cr4, cr5⟩, fr⟩ := R6.out
      unfold Fz at fr
      go_wp2_with fail
      have R8 := R7.out
      have B8 := B7.out
      clear R7 B7
      revert R8 B8
      generalize ((((((w2.setCell ⟨w.heap.size + 2, 0, none⟩ (.int .i64 0)).setCell ⟨w.heap.size + 2, 1, none⟩ (.int .i64 0)).setCell ⟨w.heap.size + 2, 2, none⟩ (.int .i64 0)).setCell ⟨w.heap.size + 2, 3, none⟩ (.int .i64 0)).setCell ⟨w.heap.size + 2, 4, none⟩ (.int .i64 0)).setCell ⟨w.heap.size + 2, 5, none⟩ (.int .i64 0)) = W9
      intro R8 B8
      obtain ⟨zz, s0, s1, s2, s3, s4, s5⟩ := R8
      exact bodyPost_ret (v := .tuple #[.agg #[.int .i64 0, .int .i64 0, .int .i64 0, .int .i64 0, .int .i64 0, .int .i64 0], .bool false]) (by simp [results, Try.results23, go_sem, s0, s1, s2, s3, s4, s5]) rfl ⟨rfl, B8⟩
  · have hg : goodM a b c d x y = false := by simpa using hg
    rw [hg] at K ⊢
    rw [Bool.false_and, bsel_f, bsel_f, bsel_f, bsel_f, bsel_f, bsel_f]
    clear hg KK
    go_enter Try.func23, Try.ntmps23
    go_wp2_with fail
    obtain ⟨W0, hW0⟩ : ∃ W0, W0 = (((w.alloc (.cells #[.int .i64 a, .int .i64 b, .int .i64 c, .int .i64 d, .int .i64 x, .int .i64 y] 25)).alloc (.cells #[.int .i64 a', .int .i64 b', .int .i64 c', .int .i64 d', .int .i64 x', .int .i64 y'] 25)).alloc (.cells #[.int .i64 0, .int .i64 0, .int .i64 0, .int .i64 0, .int .i64 0, .int .i64 0] 25)) := ⟨_, rfl⟩
    rw [← hW0]
    have yW00_0 : W0.cell? ⟨w.heap.size, 0, none⟩ = some (.int .i64 a) := by rw [hW0]; go_simp
    have yW00_1 : W0.cell? ⟨w.heap.size, 1, none⟩ = some (.int .i64 b) := by rw [hW0]; go_simp
    have yW00_2 : W0.cell? ⟨w.heap.size, 2, none⟩ = some (.int .i64 c) := by rw [hW0]; go_simp
    have yW00_3 : W0.cell? ⟨w.heap.size, 3, none⟩ = some (.int .i64 d) := by rw [hW0]; go_simp
    have yW00_4 : W0.cell? ⟨w.heap.size, 4, none⟩ = some (.int .i64 x) := by rw [hW0]; go_simp
    have yW00_5 : W0.cell? ⟨w.heap.size, 5, none⟩ = some (.int .i64 y) := by rw [hW0]; go_simp
    have fW00 : ∀ o, W0.frozen? ⟨w.heap.size, o, none⟩ = false := by intro o; rw [hW0]; (repeat rw [frozen?_alloc_cells]); simp [World.frozen?]
    have zW00 : w.heap.size < W0.heap.size := by rw [hW0]; simp <;> omega
    have yW01_0 : W0.cell? ⟨w.heap.size + 1, 0, none⟩ = some (.int .i64 a') := by rw [hW0]; go_simp
    have yW01_1 : W0.cell? ⟨w.heap.size + 1, 1, none⟩ = some (.int .i64 b') := by rw [hW0]; go_simp
    have yW01_2 : W0.cell? ⟨w.heap.size + 1, 2, none⟩ = some (.int .i64 c') := by rw [hW0]; go_simp
    have yW01_3 : W0.cell? ⟨w.heap.size + 1, 3, none⟩ = some (.int .i64 d') := by rw [hW0]; go_simp
    have yW01_4 : W0.cell? ⟨w.heap.size + 1, 4, none⟩ = some (.int .i64 x') := by rw [hW0]; go_simp
    have yW01_5 : W0.cell? ⟨w.heap.size + 1, 5, none⟩ = some (.int .i64 y') := by rw [hW0]; go_simp
    have fW01 : ∀ o, W0.frozen? ⟨w.heap.size + 1, o, none⟩ = false := by intro o; rw [hW0]; (repeat rw [frozen?_alloc_cells]); simp [World.frozen?]
    have zW01 : w.heap.size + 1 < W0.heap.size := by rw [hW0]; simp <;> omega
    have yW02_0 : W0.cell? ⟨w.heap.size + 2, 0, none⟩ = some (.int .i64 0) := by rw [hW0]; go_simp
    have yW02_1 : W0.cell? ⟨w.heap.size + 2, 1, none⟩ = some (.int .i64 0) := by rw [hW0]; go_simp
    have yW02_2 : W0.cell? ⟨w.heap.size + 2, 2, none⟩ = some (.int .i64 0) := by rw [hW0]; go_simp
    have yW02_3 : W0.cell? ⟨w.heap.size + 2, 3, none⟩ = some (.int .i64 0) := by rw [hW0]; go_simp
    have yW02_4 : W0.cell? ⟨w.heap.size + 2, 4, none⟩ = some (.int .i64 0) := by rw [hW0]; go_simp
    have yW02_5 : W0.cell? ⟨w.heap.size + 2, 5, none⟩ = some (.int .i64 0) := by rw [hW0]; go_simp
    have fW02 : ∀ o, W0.frozen? ⟨w.heap.size + 2, o, none⟩ = false := by intro o; rw [hW0]; (repeat rw [frozen?_alloc_cells]); simp [World.frozen?]
    have zW02 : w.heap.size + 2 < W0.heap.size := by rw [hW0]; simp <;> omega
    have BW0 : Below w.heap.size w W0 := by rw [hW0]; exact (Below.alloc (Below.alloc (Below.alloc (Below.refl _ _) (by simp <;> omega) _) (by simp <;> omega) _) (by simp <;> omega) _)
    have eW0 : Hid (W0.heap.size = w.heap.size + 3) := Lib.hid (by rw [hW0]; simp)
    clear hW0
    have E6 := Lib.hid (show Own6 W0 (w.heap.size) a b c d x y from ⟨⟨zW00, yW00_0, yW00_1, yW00_2, yW00_3, yW00_4, yW00_5⟩, fW00⟩)
    have F6 := Lib.hid (show Own6 W0 (w.heap.size + 1) a' b' c' d' x' y' from ⟨⟨zW01, yW01_0, yW01_1, yW01_2, yW01_3, yW01_4, yW01_5⟩, fW01⟩)
    have R6 := Lib.hid (show Own6 W0 (w.heap.size + 2) 0 0 0 0 0 0 from ⟨⟨zW02, yW02_0, yW02_1, yW02_2, yW02_3, yW02_4, yW02_5⟩, fW02⟩)
    clear zW00 fW00 yW00_0 yW00_1 yW00_2 yW00_3 yW00_4 yW00_5 zW01 fW01 yW01_0 yW01_1 yW01_2 yW01_3 yW01_4 yW01_5 zW02 fW02 yW02_0 yW02_1 yW02_2 yW02_3 yW02_4 yW02_5 eW0
    refine (K.out _).mono ?_; rintro e w1 ⟨rfl, hbw1⟩
    have Bw1 := BW0.trans (hbw1.mono BW0.size)
    have E6 := Lib.hid (own6_below E6.out hbw1 E6.out.1.1)
    have F6 := Lib.hid (own6_below F6.out hbw1 F6.out.1.1)
    have R6 := Lib.hid (own6_below R6.out hbw1 R6.out.1.1)
    clear hbw1 BW0
    have R7 := Lib.hid (at6_set5 (at6_set4 (at6_set3 (at6_set2 (at6_set1 (at6_set0 (R6.out.1) 0) 0) 0) 0) 0) 0)
    have B7 := Lib.hid ((((((Bw1.setCell (p := ⟨w.heap.size + 2, 0, none⟩) (Nat.le_add_right _ _) (.int .i64 0)).setCell (p := ⟨w.heap.size + 2, 1, none⟩) (Nat.le_add_right _ _) (.int .i64 0)).setCell (p := ⟨w.heap.size + 2, 2, none⟩) (Nat.le_add_right _ _) (.int .i64 0)).setCell (p := ⟨w.heap.size + 2, 3, none⟩) (Nat.le_add_right _ _) (.int .i64 0)).setCell (p := ⟨w.heap.size + 2, 4, none⟩) (Nat.le_add_right _ _) (.int .i64 0)).setCell (p := ⟨w.heap.size + 2, 5, none⟩) (Nat.le_add_right _ _) (.int .i64 0))
    obtain ⟨⟨zr, cr0, cr1, cr2, cr3, cr4, cr5⟩, fr⟩ := R6.out
    unfold Fz at fr
    go_wp2_with fail
    have R8 := R7.out
    have B8 := B7.out
    clear R7 B7
    revert R8 B8
    generalize ((((((w1.setCell ⟨w.heap.size + 2, 0, none⟩ (.int .i64 0)).setCell ⟨w.heap.size + 2, 1, none⟩ (.int .i64 0)).setCell ⟨w.heap.size + 2, 2, none⟩ (.int .i64 0)).setCell ⟨w.heap.size + 2, 3, none⟩ (.int .i64 0)).setCell ⟨w.heap.size + 2, 4, none⟩ (.int .i64 0)).setCell ⟨w.heap.size + 2, 5, none⟩ (.int .i64 0)) = W9
    intro R8 B8
    obtain ⟨zz, s0, s1, s2, s3, s4, s5⟩ := R8
    exact bodyPost_ret (v := .tuple #[.agg #[.int .i64 0, .int .i64 0, .int .i64 0, .int .i64 0, .int .i64 0, .int .i64 0], .bool false]) (by simp [results, Try.results23, go_sem, s0, s1, s2, s3, s4, s5]) rfl ⟨rfl, B8⟩
end Go.Proofs.Ytjlihafpnppchaa
