/- contracts: the move back -/
import Derived.Test.YtjlihafpnppchaaMi
namespace Go.Proofs.Ytjlihafpnppchaa
open Go.ChangeShapes Go.WideShapes Go.ChangeAt Go.RowKit Go.Joins
set_option linter.unusedVariables false
set_option linter.unusedSimpArgs false
theorem neg_two (p q x y : Int) : p * (-x) + q * (-y) = -(p * x + q * y) := by grind
set_option maxHeartbeats 2000000 in
theorem back_any (a b c d x y : Int) (w : World) (ha : -10000000 ≤ a ∧ a ≤ 10000000) (hb : -10000000 ≤ b ∧ b ≤ 10000000) (hc : -10000000 ≤ c ∧ c ≤ 10000000) (hd : -10000000 ≤ d ∧ d ≤ 10000000) (hx : -1000000000 ≤ x ∧ x ≤ 1000000000) (hy : -1000000000 ≤ y ∧ y ≤ 1000000000) (hs : a * d - b * c = 1 ∨ a * d - b * c = -1) :
    Calls Try.prog 46 #[.agg #[.int .i64 a, .int .i64 b, .int .i64 c, .int .i64 d, .int .i64 x, .int .i64 y]] w fun e w' => e = .returned (.agg #[.int .i64 (((a * d - b * c) * d)), .int .i64 ((-(a * d - b * c) * b)), .int .i64 ((-(a * d - b * c) * c)), .int .i64 (((a * d - b * c) * a)), .int .i64 ((-((a * d - b * c) * d * x + -(a * d - b * c) * b * y))), .int .i64 ((-(-(a * d - b * c) * c * x + (a * d - b * c) * a * y)))]) ∧ Below w.heap.size w w' := by
  have KS := Lib.hid (fun W => side_any a b c d x y W ha hb hc hd)
  have hs' := hs
  obtain ⟨s, hS⟩ : ∃ s, s = a * d - b * c := ⟨_, rfl⟩
  rw [← hS] at hs' ⊢
  obtain ⟨A, hA⟩ : ∃ A, A = s * d := ⟨_, rfl⟩
  obtain ⟨B, hB⟩ : ∃ B, B = -s * b := ⟨_, rfl⟩
  obtain ⟨C, hC⟩ : ∃ C, C = -s * c := ⟨_, rfl⟩
  obtain ⟨D, hD⟩ : ∃ D, D = s * a := ⟨_, rfl⟩
  have bA : -10000000 ≤ A ∧ A ≤ 10000000 := by rw [hA]; rcases hs' with h | h <;> rw [h] <;> omega
  have bB : -10000000 ≤ B ∧ B ≤ 10000000 := by rw [hB]; rcases hs' with h | h <;> rw [h] <;> omega
  have bC : -10000000 ≤ C ∧ C ≤ 10000000 := by rw [hC]; rcases hs' with h | h <;> rw [h] <;> omega
  have bD : -10000000 ≤ D ∧ D ≤ 10000000 := by rw [hD]; rcases hs' with h | h <;> rw [h] <;> omega
  have e0 : IntKind.i64.wrap (-s) = -s := IntWalk.i64_in _ (by rcases hs' with h | h <;> rw [h] <;> omega)
  have e1 : IntKind.i64.wrap (s * d) = A := by rw [← hA]; exact IntWalk.i64_in _ (by omega)
  have e2 : IntKind.i64.wrap (-s * b) = B := by rw [← hB]; exact IntWalk.i64_in _ (by omega)
  have e3 : IntKind.i64.wrap (-s * c) = C := by rw [← hC]; exact IntWalk.i64_in _ (by omega)
  have e4 : IntKind.i64.wrap (s * a) = D := by rw [← hD]; exact IntWalk.i64_in _ (by omega)
  have e2' : IntKind.i64.wrap (-(s * b)) = B := by rw [← Int.neg_mul]; exact e2
  have e3' : IntKind.i64.wrap (-(s * c)) = C := by rw [← Int.neg_mul]; exact e3
  rw [← hA, ← hB, ← hC, ← hD]
  rw [← hS] at KS
  have KH := Lib.hid (fun W => shift_any (-x) (-y) W)
  have KA := Lib.hid (fun W => by
    have h := after_any A B C D 0 0 1 0 0 1 (-x) (-y) W bA bB bC bD (by omega) (by omega) (by omega) (by omega) (by omega) (by omega) (by omega) (by omega)
    simp only [Int.mul_one, Int.mul_zero, Int.add_zero, Int.zero_add] at h
    rw [neg_two, neg_two] at h
    exact h)
  have ex : IntKind.i64.wrap (-x) = -x := IntWalk.i64_in _ (by omega)
  have ey : IntKind.i64.wrap (-y) = -y := IntWalk.i64_in _ (by omega)
  clear ha hb hc hd hx hy hs hs' hS hA hB hC hD bA bB bC bD
  generalize -(A * x + B * y) = o1 at *
  generalize -(C * x + D * y) = o2 at *
  go_enter Try.func46, Try.ntmps46
  go_wp2_with fail
  obtain ⟨W0, hW0⟩ : ∃ W0, W0 = ((w.alloc (.cells #[.int .i64 a, .int .i64 b, .int .i64 c, .int .i64 d, .int .i64 x, .int .i64 y] 55)).alloc (.cells #[.int .i64 0, .int .i64 0, .int .i64 0, .int .i64 0, .int .i64 0, .int .i64 0] 55)) := ⟨_, rfl⟩
  rw [← hW0]
  have yW00_0 : W0.cell? ⟨w.heap.size, 0, none⟩ = some (.int .i64 a) := by rw [hW0]; go_simp
  have yW00_1 : W0.cell? ⟨w.heap.size, 1, none⟩ = some (.int .i64 b) := by rw [hW0]; go_simp
  have yW00_2 : W0.cell? ⟨w.heap.size, 2, none⟩ = some (.int .i64 c) := by rw [hW0]; go_simp
  have yW00_3 : W0.cell? ⟨w.heap.size, 3, none⟩ = some (.int .i64 d) := by rw [hW0]; go_simp
  have yW00_4 : W0.cell? ⟨w.heap.size, 4, none⟩ = some (.int .i64 x) := by rw [hW0]; go_simp
  have yW00_5 : W0.cell? ⟨w.heap.size, 5, none⟩ = some (.int .i64 y) := by rw [hW0]; go_simp
  have fW00 : ∀ o, W0.frozen? ⟨w.heap.size, o, none⟩ = false := by intro o; rw [hW0]; (repeat rw [frozen?_alloc_cells]); simp [World.frozen?]
  have zW00 : w.heap.size < W0.heap.size := by rw [hW0]; simp <;> omega
  have yW01_0 : W0.cell? ⟨w.heap.size + 1, 0, none⟩ = some (.int .i64 0) := by rw [hW0]; go_simp
  have yW01_1 : W0.cell? ⟨w.heap.size + 1, 1, none⟩ = some (.int .i64 0) := by rw [hW0]; go_simp
  have yW01_2 : W0.cell? ⟨w.heap.size + 1, 2, none⟩ = some (.int .i64 0) := by rw [hW0]; go_simp
  have yW01_3 : W0.cell? ⟨w.heap.size + 1, 3, none⟩ = some (.int .i64 0) := by rw [hW0]; go_simp
  have yW01_4 : W0.cell? ⟨w.heap.size + 1, 4, none⟩ = some (.int .i64 0) := by rw [hW0]; go_simp
  have yW01_5 : W0.cell? ⟨w.heap.size + 1, 5, none⟩ = some (.int .i64 0) := by rw [hW0]; go_simp
  have fW01 : ∀ o, W0.frozen? ⟨w.heap.size + 1, o, none⟩ = false := by intro o; rw [hW0]; (repeat rw [frozen?_alloc_cells]); simp [World.frozen?]
  have zW01 : w.heap.size + 1 < W0.heap.size := by rw [hW0]; simp <;> omega
  have BW0 : Below w.heap.size w W0 := by rw [hW0]; exact (Below.alloc (Below.alloc (Below.refl _ _) (by simp <;> omega) _) (by simp <;> omega) _)
  have eW0 : Hid (W0.heap.size = w.heap.size + 2) := Lib.hid (by rw [hW0]; simp)
  clear hW0
  have E6 := Lib.hid (show Own6 W0 (w.heap.size) a b c d x y from ⟨⟨zW00, yW00_0, yW00_1, yW00_2, yW00_3, yW00_4, yW00_5⟩, fW00⟩)
  have R6 := Lib.hid (show Own6 W0 (w.heap.size + 1) 0 0 0 0 0 0 from ⟨⟨zW01, yW01_0, yW01_1, yW01_2, yW01_3, yW01_4, yW01_5⟩, fW01⟩)
  clear zW00 fW00 yW00_0 yW00_1 yW00_2 yW00_3 yW00_4 yW00_5 zW01 fW01 yW01_0 yW01_1 yW01_2 yW01_3 yW01_4 yW01_5 eW0
  refine (KS.out _).mono ?_; rintro e w1 ⟨rfl, hbw1⟩
  have Bw1 := BW0.trans (hbw1.mono BW0.size)
  have E6 := Lib.hid (own6_below E6.out hbw1 E6.out.1.1)
  have R6 := Lib.hid (own6_below R6.out hbw1 R6.out.1.1)
  clear hbw1 BW0
  obtain ⟨⟨zp, cp0, cp1, cp2, cp3, cp4, cp5⟩, fp⟩ := E6.out
  unfold Fz at fp
  go_wp2_with fail
  clear zp fp cp0 cp1 cp2 cp3 cp4 cp5
  obtain ⟨W2, hW2⟩ : ∃ W2, W2 = (w1.alloc (.cells #[.int .i64 A, .int .i64 B, .int .i64 C, .int .i64 D, .int .i64 0, .int .i64 0] 55)) := ⟨_, rfl⟩
  rw [← hW2]
  have yW20_0 : W2.cell? ⟨w1.heap.size, 0, none⟩ = some (.int .i64 A) := by rw [hW2]; go_simp
  have yW20_1 : W2.cell? ⟨w1.heap.size, 1, none⟩ = some (.int .i64 B) := by rw [hW2]; go_simp
  have yW20_2 : W2.cell? ⟨w1.heap.size, 2, none⟩ = some (.int .i64 C) := by rw [hW2]; go_simp
  have yW20_3 : W2.cell? ⟨w1.heap.size, 3, none⟩ = some (.int .i64 D) := by rw [hW2]; go_simp
  have yW20_4 : W2.cell? ⟨w1.heap.size, 4, none⟩ = some (.int .i64 0) := by rw [hW2]; go_simp
  have yW20_5 : W2.cell? ⟨w1.heap.size, 5, none⟩ = some (.int .i64 0) := by rw [hW2]; go_simp
  have fW20 : ∀ o, W2.frozen? ⟨w1.heap.size, o, none⟩ = false := by intro o; rw [hW2]; (repeat rw [frozen?_alloc_cells]); simp [World.frozen?]
  have zW20 : w1.heap.size < W2.heap.size := by rw [hW2]; simp <;> omega
  have BW2 : Below w1.heap.size w1 W2 := by rw [hW2]; exact (Below.alloc (Below.refl _ _) (by simp <;> omega) _)
  have eW2 : Hid (W2.heap.size = w1.heap.size + 1) := Lib.hid (by rw [hW2]; simp)
  clear hW2
  have E6 := Lib.hid (own6_below E6.out BW2 E6.out.1.1)
  have R6 := Lib.hid (own6_below R6.out BW2 R6.out.1.1)
  have T6 := Lib.hid (show Own6 W2 (w1.heap.size) A B C D 0 0 from ⟨⟨zW20, yW20_0, yW20_1, yW20_2, yW20_3, yW20_4, yW20_5⟩, fW20⟩)
  have BW2 := Bw1.trans (BW2.mono Bw1.size)
  clear Bw1
  clear zW20 fW20 yW20_0 yW20_1 yW20_2 yW20_3 yW20_4 yW20_5 eW2
  obtain ⟨⟨zp, cp0, cp1, cp2, cp3, cp4, cp5⟩, fp⟩ := E6.out
  unfold Fz at fp
  obtain ⟨⟨zq, cq0, cq1, cq2, cq3, cq4, cq5⟩, fq⟩ := T6.out
  unfold Fz at fq
  refine wp_region_BT 10 (fun W => Below (W2).heap.size (W2) W) (by kernel_rfl) (by kernel_rfl) (by repeat (first | exact Below.refl _ _ | apply Below.drew)) ?_
  simp only [List.take_succ_cons, List.take_zero, List.drop_succ_cons, List.drop_zero]
  first | refine wpH_skip (by rfl) ?_ | (refine wpH_text (v := ?_) (by rfl) (fun W k1 => ?_) ?_; rotate_left; (obtain ⟨hc1, hf1⟩ := bcell k1;  go_simp; refine comes_v ?_; exact k1))
  (try simp only [Act.put, List.setIfInBounds_toArray, List.set_cons_zero, List.set_cons_succ])
  first | refine wpH_skip (by rfl) ?_ | (refine wpH_text (v := ?_) (by rfl) (fun W k1 => ?_) ?_; rotate_left; (obtain ⟨hc1, hf1⟩ := bcell k1;  go_simp; refine comes_v ?_; exact k1))
  (try simp only [Act.put, List.setIfInBounds_toArray, List.set_cons_zero, List.set_cons_succ])
  first | refine wpH_skip (by rfl) ?_ | (refine wpH_text (v := ?_) (by rfl) (fun W k1 => ?_) ?_; rotate_left; (obtain ⟨hc1, hf1⟩ := bcell k1;  go_simp; refine comes_v ?_; exact k1))
  (try simp only [Act.put, List.setIfInBounds_toArray, List.set_cons_zero, List.set_cons_succ])
  first | refine wpH_skip (by rfl) ?_ | (refine wpH_text (v := ?_) (by rfl) (fun W k1 => ?_) ?_; rotate_left; (obtain ⟨hc1, hf1⟩ := bcell k1;  go_simp; refine comes_v ?_; exact k1))
  (try simp only [Act.put, List.setIfInBounds_toArray, List.set_cons_zero, List.set_cons_succ])
  first | refine wpH_skip (by rfl) ?_ | (refine wpH_text (v := ?_) (by rfl) (fun W k1 => ?_) ?_; rotate_left; (obtain ⟨hc1, hf1⟩ := bcell k1;  go_simp; refine comes_v ?_; exact k1))
  (try simp only [Act.put, List.setIfInBounds_toArray, List.set_cons_zero, List.set_cons_succ])
  first | refine wpH_skip (by rfl) ?_ | (refine wpH_text (v := ?_) (by rfl) (fun W k1 => ?_) ?_; rotate_left; (obtain ⟨hc1, hf1⟩ := bcell k1;  go_simp; refine comes_v ?_; exact k1))
  (try simp only [Act.put, List.setIfInBounds_toArray, List.set_cons_zero, List.set_cons_succ])
  first | refine wpH_skip (by rfl) ?_ | (refine wpH_text (v := ?_) (by rfl) (fun W k1 => ?_) ?_; rotate_left; (obtain ⟨hc1, hf1⟩ := bcell k1;  go_simp; refine comes_v ?_; exact k1))
  (try simp only [Act.put, List.setIfInBounds_toArray, List.set_cons_zero, List.set_cons_succ])
  first | refine wpH_skip (by rfl) ?_ | (refine wpH_text (v := ?_) (by rfl) (fun W k1 => ?_) ?_; rotate_left; (obtain ⟨hc1, hf1⟩ := bcell k1;  go_simp; refine comes_v ?_; exact k1))
  (try simp only [Act.put, List.setIfInBounds_toArray, List.set_cons_zero, List.set_cons_succ])
  first | refine wpH_skip (by rfl) ?_ | (refine wpH_text (v := .agg #[.int .i64 1, .int .i64 0, .int .i64 0, .int .i64 1, .int .i64 (-x), .int .i64 (-y)]) (by rfl) (fun W k1 => ?_) ?_; (obtain ⟨hc1, hf1⟩ := bcell k1;  go_simp; exact comes_c ( KH.out _) (fun wn hbn => k1.trans (hbn.mono k1.size))))
  (try simp only [Act.put, List.setIfInBounds_toArray, List.set_cons_zero, List.set_cons_succ])
  first | refine wpH_skip (by rfl) ?_ | (refine wpH_text (v := .agg #[.int .i64 A, .int .i64 B, .int .i64 C, .int .i64 D, .int .i64 o1, .int .i64 o2]) (by rfl) (fun W k1 => ?_) ?_; (obtain ⟨hc1, hf1⟩ := bcell k1;  go_simp; exact comes_c ( KA.out _) (fun wn hbn => k1.trans (hbn.mono k1.size))))
  (try simp only [Act.put, List.setIfInBounds_toArray, List.set_cons_zero, List.set_cons_succ])
  refine wpH_nil ?_
  intro W k1; obtain ⟨hc1, hf1⟩ := bcell k1
  rename World => W3
  have BW3 := BW2.trans (k1.mono BW2.size)
  have R6 := Lib.hid (own6_below R6.out k1 R6.out.1.1)
  clear zp fp cp0 cp1 cp2 cp3 cp4 cp5
  clear zq fq cq0 cq1 cq2 cq3 cq4 cq5
  clear hc1 hf1 k1 BW2
  have R7 := Lib.hid (at6_set5 (at6_set4 (at6_set3 (at6_set2 (at6_set1 (at6_set0 (R6.out.1) A) B) C) D) o1) o2)
  have B7 := Lib.hid ((((((BW3.setCell (p := ⟨w.heap.size + 1, 0, none⟩) (Nat.le_add_right _ _) (.int .i64 A)).setCell (p := ⟨w.heap.size + 1, 1, none⟩) (Nat.le_add_right _ _) (.int .i64 B)).setCell (p := ⟨w.heap.size + 1, 2, none⟩) (Nat.le_add_right _ _) (.int .i64 C)).setCell (p := ⟨w.heap.size + 1, 3, none⟩) (Nat.le_add_right _ _) (.int .i64 D)).setCell (p := ⟨w.heap.size + 1, 4, none⟩) (Nat.le_add_right _ _) (.int .i64 o1)).setCell (p := ⟨w.heap.size + 1, 5, none⟩) (Nat.le_add_right _ _) (.int .i64 o2))
  obtain ⟨⟨zr, cr0, cr1, cr2, cr3, cr4, cr5⟩, fr⟩ := R6.out
  unfold Fz at fr
  go_wp2_with fail
  have R8 := R7.out
  have B8 := B7.out
  clear R7 B7
  revert R8 B8
  generalize ((((((W3.setCell ⟨w.heap.size + 1, 0, none⟩ (.int .i64 A)).setCell ⟨w.heap.size + 1, 1, none⟩ (.int .i64 B)).setCell ⟨w.heap.size + 1, 2, none⟩ (.int .i64 C)).setCell ⟨w.heap.size + 1, 3, none⟩ (.int .i64 D)).setCell ⟨w.heap.size + 1, 4, none⟩ (.int .i64 o1)).setCell ⟨w.heap.size + 1, 5, none⟩ (.int .i64 o2)) = W9
  intro R8 B8
  obtain ⟨zz, s0, s1, s2, s3, s4, s5⟩ := R8
  exact bodyPost_ret (v := .agg #[.int .i64 A, .int .i64 B, .int .i64 C, .int .i64 D, .int .i64 o1, .int .i64 o2]) (by simp [results, Try.results46, go_sem, s0, s1, s2, s3, s4, s5]) rfl ⟨rfl, B8⟩
end Go.Proofs.Ytjlihafpnppchaa
