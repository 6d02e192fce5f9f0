/- contracts: moves one behind the other and back, the program's own -/
import Derived.Test.YtjlihafpnppchaaMh0
import Derived.Test.YtjlihafpnppchaaRo
namespace Go.Proofs.Ytjlihafpnppchaa
open Go.ChangeShapes Go.WideShapes Go.ChangeAt Go.RowKit Go.Joins
set_option linter.unusedVariables false
set_option linter.unusedSimpArgs false
theorem bring_bd {a b x p q : Int} (ha : -10000000 ≤ a ∧ a ≤ 10000000) (hb : -10000000 ≤ b ∧ b ≤ 10000000) (hx : -100000000000000000 ≤ x ∧ x ≤ 100000000000000000) (hp : -10000000000 ≤ p ∧ p ≤ 10000000000) (hq : -10000000000 ≤ q ∧ q ≤ 10000000000) :
    -300000000000000000 ≤ a * p + b * q + x ∧ a * p + b * q + x ≤ 300000000000000000 := by
  obtain ⟨m1, m2⟩ := mul_bd (x := a) (y := p) (m := 10000000) (n := 10000000000) (by omega) (by omega) (by omega) (by omega)
  obtain ⟨m3, m4⟩ := mul_bd (x := b) (y := q) (m := 10000000) (n := 10000000000) (by omega) (by omega) (by omega) (by omega)
  omega
theorem minusL_any (a1 a2 b1 b2 : Int) (w : World) (h1 : -300000000000000000 ≤ a1 ∧ a1 ≤ 300000000000000000) (h2 : -300000000000000000 ≤ a2 ∧ a2 ≤ 300000000000000000) (h3 : -300000000000000000 ≤ b1 ∧ b1 ≤ 300000000000000000) (h4 : -300000000000000000 ≤ b2 ∧ b2 ≤ 300000000000000000) :
    Calls Try.prog 53 #[.agg #[.int .i64 a1, .int .i64 a2], .agg #[.int .i64 b1, .int .i64 b2]] w fun e w' => e = .returned (.agg #[.int .i64 (a1 - b1), .int .i64 (a2 - b2)]) ∧ Below w.heap.size w w' := by
  obtain ⟨h1, h1'⟩ := h1
  obtain ⟨h2, h2'⟩ := h2
  obtain ⟨h3, h3'⟩ := h3
  obtain ⟨h4, h4'⟩ := h4
  go_enter Try.func53, Try.ntmps53
  go_wp2
  exact bodyPost_ret (v := .agg #[.int .i64 (a1 - b1), .int .i64 (a2 - b2)]) (by simp [results, Try.results53, go_sem]) rfl ⟨rfl, (by repeat (first | exact Below.refl _ _ | assumption | apply Below.drew | refine Below.alloc ?_ (by simp <;> omega) _))⟩
theorem diff_eq (a b x p q r s : Int) : (a * (p + r) + b * (q + s) + x) - (a * r + b * s + x) = a * p + b * q := by grind
theorem shift_any (p1 p2 : Int) (w : World) :
    Calls Try.prog 54 #[.agg #[.int .i64 p1, .int .i64 p2]] w fun e w' => e = .returned (.agg #[.int .i64 1, .int .i64 0, .int .i64 0, .int .i64 1, .int .i64 p1, .int .i64 p2]) ∧ Below w.heap.size w w' := by
  go_enter Try.func54, Try.ntmps54
  go_wp2_with fail
  exact bodyPost_ret (v := .agg #[.int .i64 1, .int .i64 0, .int .i64 0, .int .i64 1, .int .i64 p1, .int .i64 p2]) (by simp [results, Try.results54, go_sem]) rfl ⟨rfl, (by repeat (first | exact Below.refl _ _ | assumption | apply Below.drew | refine Below.alloc ?_ (by simp <;> omega) _))⟩
set_option maxHeartbeats 2000000 in
theorem after_any (a b c d x y a' b' c' d' x' y' : Int) (w : World) (ha : -10000000 ≤ a ∧ a ≤ 10000000) (hb : -10000000 ≤ b ∧ b ≤ 10000000) (hc : -10000000 ≤ c ∧ c ≤ 10000000) (hd : -10000000 ≤ d ∧ d ≤ 10000000) (hx : -100000000000000000 ≤ x ∧ x ≤ 100000000000000000) (hy : -100000000000000000 ≤ y ∧ y ≤ 100000000000000000) (ka : -10000000 ≤ a' ∧ a' ≤ 10000000) (kb : -10000000 ≤ b' ∧ b' ≤ 10000000) (kc : -10000000 ≤ c' ∧ c' ≤ 10000000) (kd : -10000000 ≤ d' ∧ d' ≤ 10000000) (kx : -1000000000 ≤ x' ∧ x' ≤ 1000000000) (ky : -1000000000 ≤ y' ∧ y' ≤ 1000000000) :
    Calls Try.prog 45 #[.agg #[.int .i64 a, .int .i64 b, .int .i64 c, .int .i64 d, .int .i64 x, .int .i64 y], .agg #[.int .i64 a', .int .i64 b', .int .i64 c', .int .i64 d', .int .i64 x', .int .i64 y']] w fun e w' => e = .returned (.agg #[.int .i64 ((a * a' + b * c')), .int .i64 ((a * b' + b * d')), .int .i64 ((c * a' + d * c')), .int .i64 ((c * b' + d * d')), .int .i64 ((a * x' + b * y' + x)), .int .i64 ((c * x' + d * y' + y))]) ∧ Below w.heap.size w w' := by
  have K1 := Lib.hid (fun W => by have h := bring_any a' b' c' d' x' y' 0 0 W (by omega) (by omega) (by omega) (by omega) (by omega) (by omega) (by omega) (by omega); simp only [Int.mul_zero, Int.zero_add, Int.add_zero, Int.mul_one] at h; exact h)
  have K2 := Lib.hid (fun W => bring_any a b c d x y x' y' W (by omega) (by omega) (by omega) (by omega) (by omega) (by omega) (by omega) (by omega))
  have K3 := Lib.hid (fun W => by have h := bring_any a' b' c' d' x' y' 1 0 W (by omega) (by omega) (by omega) (by omega) (by omega) (by omega) (by omega) (by omega); simp only [Int.mul_zero, Int.zero_add, Int.add_zero, Int.mul_one] at h; exact h)
  have K4 := Lib.hid (fun W => bring_any a b c d x y (a' + x') (c' + y') W (by omega) (by omega) (by omega) (by omega) (by omega) (by omega) (by omega) (by omega))
  have K5 := Lib.hid (fun W => by have h := bring_any a' b' c' d' x' y' 0 1 W (by omega) (by omega) (by omega) (by omega) (by omega) (by omega) (by omega) (by omega); simp only [Int.mul_zero, Int.zero_add, Int.add_zero, Int.mul_one] at h; exact h)
  have K6 := Lib.hid (fun W => bring_any a b c d x y (b' + x') (d' + y') W (by omega) (by omega) (by omega) (by omega) (by omega) (by omega) (by omega) (by omega))
  have KR := Lib.hid (fun W => by have h := minusL_any (a * (a' + x') + b * (c' + y') + x) (c * (a' + x') + d * (c' + y') + y) (a * x' + b * y' + x) (c * x' + d * y' + y) W (bring_bd ha hb hx (by omega) (by omega)) (bring_bd hc hd hy (by omega) (by omega)) (bring_bd ha hb hx (by omega) (by omega)) (bring_bd hc hd hy (by omega) (by omega)); rw [diff_eq, diff_eq] at h; exact h)
  have KU := Lib.hid (fun W => by have h := minusL_any (a * (b' + x') + b * (d' + y') + x) (c * (b' + x') + d * (d' + y') + y) (a * x' + b * y' + x) (c * x' + d * y' + y) W (bring_bd ha hb hx (by omega) (by omega)) (bring_bd hc hd hy (by omega) (by omega)) (bring_bd ha hb hx (by omega) (by omega)) (bring_bd hc hd hy (by omega) (by omega)); rw [diff_eq, diff_eq] at h; exact h)
  clear ha hb hc hd hx hy ka kb kc kd kx ky
  generalize a * (a' + x') + b * (c' + y') + x = g1 at *
  generalize c * (a' + x') + d * (c' + y') + y = g2 at *
  generalize a * (b' + x') + b * (d' + y') + x = g3 at *
  generalize c * (b' + x') + d * (d' + y') + y = g4 at *
  generalize a * x' + b * y' + x = o1 at *
  generalize c * x' + d * y' + y = o2 at *
  generalize a * a' + b * c' = r1 at *
  generalize a * b' + b * d' = r2 at *
  generalize c * a' + d * c' = r3 at *
  generalize c * b' + d * d' = r4 at *
  generalize a' + x' = p1 at *
  generalize c' + y' = p2 at *
  generalize b' + x' = p3 at *
  generalize d' + y' = p4 at *
  go_enter Try.func45, Try.ntmps45
  go_wp2_with fail
  obtain ⟨W0, hW0⟩ : ∃ W0, W0 = (((w.alloc (.cells #[.int .i64 a, .int .i64 b, .int .i64 c, .int .i64 d, .int .i64 x, .int .i64 y] 55)).alloc (.cells #[.int .i64 a', .int .i64 b', .int .i64 c', .int .i64 d', .int .i64 x', .int .i64 y'] 55)).alloc (.cells #[.int .i64 0, .int .i64 0, .int .i64 0, .int .i64 0, .int .i64 0, .int .i64 0] 55)) := ⟨_, rfl⟩
  rw [← hW0]
  have yW00_0 : W0.cell? ⟨w.heap.size, 0, none⟩ = some (.int .i64 a) := by rw [hW0]; go_simp
  have yW00_1 : W0.cell? ⟨w.heap.size, 1, none⟩ = some (.int .i64 b) := by rw [hW0]; go_simp
  have yW00_2 : W0.cell? ⟨w.heap.size, 2, none⟩ = some (.int .i64 c) := by rw [hW0]; go_simp
  have yW00_3 : W0.cell? ⟨w.heap.size, 3, none⟩ = some (.int .i64 d) := by rw [hW0]; go_simp
  have yW00_4 : W0.cell? ⟨w.heap.size, 4, none⟩ = some (.int .i64 x) := by rw [hW0]; go_simp
  have yW00_5 : W0.cell? ⟨w.heap.size, 5, none⟩ = some (.int .i64 y) := by rw [hW0]; go_simp
  have fW00 : ∀ o, W0.frozen? ⟨w.heap.size, o, none⟩ = false := by intro o; rw [hW0]; (repeat rw [frozen?_alloc_cells]); simp [World.frozen?]
  have zW00 : w.heap.size < W0.heap.size := by rw [hW0]; simp <;> omega
  have yW01_0 : W0.cell? ⟨w.heap.size + 1, 0, none⟩ = some (.int .i64 a') := by rw [hW0]; go_simp
  have yW01_1 : W0.cell? ⟨w.heap.size + 1, 1, none⟩ = some (.int .i64 b') := by rw [hW0]; go_simp
  have yW01_2 : W0.cell? ⟨w.heap.size + 1, 2, none⟩ = some (.int .i64 c') := by rw [hW0]; go_simp
  have yW01_3 : W0.cell? ⟨w.heap.size + 1, 3, none⟩ = some (.int .i64 d') := by rw [hW0]; go_simp
  have yW01_4 : W0.cell? ⟨w.heap.size + 1, 4, none⟩ = some (.int .i64 x') := by rw [hW0]; go_simp
  have yW01_5 : W0.cell? ⟨w.heap.size + 1, 5, none⟩ = some (.int .i64 y') := by rw [hW0]; go_simp
  have fW01 : ∀ o, W0.frozen? ⟨w.heap.size + 1, o, none⟩ = false := by intro o; rw [hW0]; (repeat rw [frozen?_alloc_cells]); simp [World.frozen?]
  have zW01 : w.heap.size + 1 < W0.heap.size := by rw [hW0]; simp <;> omega
  have yW02_0 : W0.cell? ⟨w.heap.size + 2, 0, none⟩ = some (.int .i64 0) := by rw [hW0]; go_simp
  have yW02_1 : W0.cell? ⟨w.heap.size + 2, 1, none⟩ = some (.int .i64 0) := by rw [hW0]; go_simp
  have yW02_2 : W0.cell? ⟨w.heap.size + 2, 2, none⟩ = some (.int .i64 0) := by rw [hW0]; go_simp
  have yW02_3 : W0.cell? ⟨w.heap.size + 2, 3, none⟩ = some (.int .i64 0) := by rw [hW0]; go_simp
  have yW02_4 : W0.cell? ⟨w.heap.size + 2, 4, none⟩ = some (.int .i64 0) := by rw [hW0]; go_simp
  have yW02_5 : W0.cell? ⟨w.heap.size + 2, 5, none⟩ = some (.int .i64 0) := by rw [hW0]; go_simp
  have fW02 : ∀ o, W0.frozen? ⟨w.heap.size + 2, o, none⟩ = false := by intro o; rw [hW0]; (repeat rw [frozen?_alloc_cells]); simp [World.frozen?]
  have zW02 : w.heap.size + 2 < W0.heap.size := by rw [hW0]; simp <;> omega
  have BW0 : Below w.heap.size w W0 := by rw [hW0]; exact (Below.alloc (Below.alloc (Below.alloc (Below.refl _ _) (by simp <;> omega) _) (by simp <;> omega) _) (by simp <;> omega) _)
  have eW0 : Hid (W0.heap.size = w.heap.size + 3) := Lib.hid (by rw [hW0]; simp)
  clear hW0
  have E6 := Lib.hid (show Own6 W0 (w.heap.size) a b c d x y from ⟨⟨zW00, yW00_0, yW00_1, yW00_2, yW00_3, yW00_4, yW00_5⟩, fW00⟩)
  have F6 := Lib.hid (show Own6 W0 (w.heap.size + 1) a' b' c' d' x' y' from ⟨⟨zW01, yW01_0, yW01_1, yW01_2, yW01_3, yW01_4, yW01_5⟩, fW01⟩)
  have R6 := Lib.hid (show Own6 W0 (w.heap.size + 2) 0 0 0 0 0 0 from ⟨⟨zW02, yW02_0, yW02_1, yW02_2, yW02_3, yW02_4, yW02_5⟩, fW02⟩)
  clear zW00 fW00 yW00_0 yW00_1 yW00_2 yW00_3 yW00_4 yW00_5 zW01 fW01 yW01_0 yW01_1 yW01_2 yW01_3 yW01_4 yW01_5 zW02 fW02 yW02_0 yW02_1 yW02_2 yW02_3 yW02_4 yW02_5 eW0
  obtain ⟨⟨zp, cp0, cp1, cp2, cp3, cp4, cp5⟩, fp⟩ := E6.out
  unfold Fz at fp
  obtain ⟨⟨zq, cq0, cq1, cq2, cq3, cq4, cq5⟩, fq⟩ := F6.out
  unfold Fz at fq
  refine wp_region_AL 5 (W0) (obj := .cells #[.int .i64 0, .int .i64 0] 30) (by kernel_rfl) (by kernel_rfl) (by repeat (first | exact Below.refl _ _ | apply Below.drew)) rfl (fun _ => by rfl) (fun _ _ => by first | rfl | go_simp) ?_
  simp only [List.take_succ_cons, List.take_zero, List.drop_succ_cons, List.drop_zero]
  first | refine wpR_skip (by rfl) ?_ | (refine wpR_text (v := ?_) (by rfl) (fun W k1 => ?_) ?_; rotate_left; (obtain ⟨hc1, hf1⟩ := bcell k1;  go_simp; refine comes_v ?_; exact Below.refl _ _))
  (try simp only [Act.put, List.setIfInBounds_toArray, List.set_cons_zero, List.set_cons_succ])
  first | refine wpR_skip (by rfl) ?_ | (refine wpR_text (v := ?_) (by rfl) (fun W k1 => ?_) ?_; rotate_left; (obtain ⟨hc1, hf1⟩ := bcell k1;  go_simp; refine comes_v ?_; exact Below.refl _ _))
  (try simp only [Act.put, List.setIfInBounds_toArray, List.set_cons_zero, List.set_cons_succ])
  first | refine wpR_skip (by rfl) ?_ | (refine wpR_text (v := ?_) (by rfl) (fun W k1 => ?_) ?_; rotate_left; (obtain ⟨hc1, hf1⟩ := bcell k1;  go_simp; refine comes_v ?_; exact Below.refl _ _))
  (try simp only [Act.put, List.setIfInBounds_toArray, List.set_cons_zero, List.set_cons_succ])
  first | refine wpR_skip (by rfl) ?_ | (refine wpR_text (v := .agg #[.int .i64 x', .int .i64 y']) (by rfl) (fun W k1 => ?_) ?_; (obtain ⟨hc1, hf1⟩ := bcell k1;  go_simp; exact comes_c ( K1.out _) (fun wn hbn => hbn)))
  (try simp only [Act.put, List.setIfInBounds_toArray, List.set_cons_zero, List.set_cons_succ])
  first | refine wpR_skip (by rfl) ?_ | (refine wpR_text (v := .agg #[.int .i64 o1, .int .i64 o2]) (by rfl) (fun W k1 => ?_) ?_; (obtain ⟨hc1, hf1⟩ := bcell k1;  go_simp; exact comes_c ( K2.out _) (fun wn hbn => hbn)))
  (try simp only [Act.put, List.setIfInBounds_toArray, List.set_cons_zero, List.set_cons_succ])
  refine wpR_nil ?_
  intro W1 W k1 k2
  (try simp only [Act.put, List.setIfInBounds_toArray, List.set_cons_zero, List.set_cons_succ])
  have HA := Lib.hid (al2 (t := 30) k1 k2 o1 o2)
  obtain ⟨⟨zal, cal0, cal1⟩, fal⟩ := own2_below (own2_new W1 30) k2 (own2_new W1 30).1.1
  unfold Fz at fal
  have LAL := (al_below k1 k2).2.1
  have KB := Lib.hid (al_below k1 k2).1
  have E6w := Lib.hid (own6_below E6.out KB.out E6.out.1.1)
  have F6w := Lib.hid (own6_below F6.out KB.out F6.out.1.1)
  have R6w := Lib.hid (own6_below R6.out KB.out R6.out.1.1)
  clear k1 k2
  go_wp2_with fail
  have HA2 := HA.out
  clear HA zal fal cal0 cal1
  obtain ⟨gW2, hgW2⟩ : ∃ x, x = W1.heap.size := ⟨_, rfl⟩
  rw [← hgW2] at HA2 LAL ⊢
  clear hgW2
  generalize ((W.setCell ⟨gW2, 0, none⟩ (.int .i64 o1)).setCell ⟨gW2, 1, none⟩ (.int .i64 o2)) = W2 at HA2 ⊢
  have S2 := Lib.hid HA2.1
  have BW2 := BW0.trans (HA2.2.mono BW0.size)
  have E6 := Lib.hid (own6_below E6.out HA2.2 E6.out.1.1)
  have F6 := Lib.hid (own6_below F6.out HA2.2 F6.out.1.1)
  have R6 := Lib.hid (own6_below R6.out HA2.2 R6.out.1.1)
  clear HA2 KB E6w F6w R6w BW0
  clear zp fp cp0 cp1 cp2 cp3 cp4 cp5
  clear zq fq cq0 cq1 cq2 cq3 cq4 cq5
  obtain ⟨⟨zp, cp0, cp1, cp2, cp3, cp4, cp5⟩, fp⟩ := E6.out
  unfold Fz at fp
  obtain ⟨⟨zq, cq0, cq1, cq2, cq3, cq4, cq5⟩, fq⟩ := F6.out
  unfold Fz at fq
  obtain ⟨⟨zr, cr0, cr1⟩, fr⟩ := S2.out
  unfold Fz at fr
  refine wp_region_AL 7 (W2) (obj := .cells #[.int .i64 0, .int .i64 0] 30) (by kernel_rfl) (by kernel_rfl) (by repeat (first | exact Below.refl _ _ | apply Below.drew)) rfl (fun _ => by rfl) (fun _ _ => by first | rfl | go_simp) ?_
  simp only [List.take_succ_cons, List.take_zero, List.drop_succ_cons, List.drop_zero]
  first | refine wpR_skip (by rfl) ?_ | (refine wpR_text (v := ?_) (by rfl) (fun W k1 => ?_) ?_; rotate_left; (obtain ⟨hc1, hf1⟩ := bcell k1;  go_simp; refine comes_v ?_; exact Below.refl _ _))
  (try simp only [Act.put, List.setIfInBounds_toArray, List.set_cons_zero, List.set_cons_succ])
  first | refine wpR_skip (by rfl) ?_ | (refine wpR_text (v := ?_) (by rfl) (fun W k1 => ?_) ?_; rotate_left; (obtain ⟨hc1, hf1⟩ := bcell k1;  go_simp; refine comes_v ?_; exact Below.refl _ _))
  (try simp only [Act.put, List.setIfInBounds_toArray, List.set_cons_zero, List.set_cons_succ])
  first | refine wpR_skip (by rfl) ?_ | (refine wpR_text (v := ?_) (by rfl) (fun W k1 => ?_) ?_; rotate_left; (obtain ⟨hc1, hf1⟩ := bcell k1;  go_simp; refine comes_v ?_; exact Below.refl _ _))
  (try simp only [Act.put, List.setIfInBounds_toArray, List.set_cons_zero, List.set_cons_succ])
  first | refine wpR_skip (by rfl) ?_ | (refine wpR_text (v := .agg #[.int .i64 p1, .int .i64 p2]) (by rfl) (fun W k1 => ?_) ?_; (obtain ⟨hc1, hf1⟩ := bcell k1;  go_simp; exact comes_c ( K3.out _) (fun wn hbn => hbn)))
  (try simp only [Act.put, List.setIfInBounds_toArray, List.set_cons_zero, List.set_cons_succ])
  first | refine wpR_skip (by rfl) ?_ | (refine wpR_text (v := .agg #[.int .i64 g1, .int .i64 g2]) (by rfl) (fun W k1 => ?_) ?_; (obtain ⟨hc1, hf1⟩ := bcell k1;  go_simp; exact comes_c ( K4.out _) (fun wn hbn => hbn)))
  (try simp only [Act.put, List.setIfInBounds_toArray, List.set_cons_zero, List.set_cons_succ])
  first | refine wpR_skip (by rfl) ?_ | (refine wpR_text (v := ?_) (by rfl) (fun W k1 => ?_) ?_; rotate_left; (obtain ⟨hc1, hf1⟩ := bcell k1;  go_simp; refine comes_v ?_; exact Below.refl _ _))
  (try simp only [Act.put, List.setIfInBounds_toArray, List.set_cons_zero, List.set_cons_succ])
  first | refine wpR_skip (by rfl) ?_ | (refine wpR_text (v := .agg #[.int .i64 r1, .int .i64 r3]) (by rfl) (fun W k1 => ?_) ?_; (obtain ⟨hc1, hf1⟩ := bcell k1;  go_simp; exact comes_c ( KR.out _) (fun wn hbn => hbn)))
  (try simp only [Act.put, List.setIfInBounds_toArray, List.set_cons_zero, List.set_cons_succ])
  refine wpR_nil ?_
  intro W1 W k1 k2
  (try simp only [Act.put, List.setIfInBounds_toArray, List.set_cons_zero, List.set_cons_succ])
  have HA := Lib.hid (al2 (t := 30) k1 k2 r1 r3)
  obtain ⟨⟨zal, cal0, cal1⟩, fal⟩ := own2_below (own2_new W1 30) k2 (own2_new W1 30).1.1
  unfold Fz at fal
  have LAL := (al_below k1 k2).2.1
  have KB := Lib.hid (al_below k1 k2).1
  have E6w := Lib.hid (own6_below E6.out KB.out E6.out.1.1)
  have F6w := Lib.hid (own6_below F6.out KB.out F6.out.1.1)
  have R6w := Lib.hid (own6_below R6.out KB.out R6.out.1.1)
  have S2w := Lib.hid (own2_below S2.out KB.out S2.out.1.1)
  clear k1 k2
  go_wp2_with fail
  have HA2 := HA.out
  clear HA zal fal cal0 cal1
  obtain ⟨gW4, hgW4⟩ : ∃ x, x = W1.heap.size := ⟨_, rfl⟩
  rw [← hgW4] at HA2 LAL ⊢
  clear hgW4
  generalize ((W.setCell ⟨gW4, 0, none⟩ (.int .i64 r1)).setCell ⟨gW4, 1, none⟩ (.int .i64 r3)) = W4 at HA2 ⊢
  have T2 := Lib.hid HA2.1
  have BW4 := BW2.trans (HA2.2.mono BW2.size)
  have E6 := Lib.hid (own6_below E6.out HA2.2 E6.out.1.1)
  have F6 := Lib.hid (own6_below F6.out HA2.2 F6.out.1.1)
  have R6 := Lib.hid (own6_below R6.out HA2.2 R6.out.1.1)
  have S2 := Lib.hid (own2_below S2.out HA2.2 S2.out.1.1)
  clear HA2 KB E6w F6w R6w S2w BW2
  clear zp fp cp0 cp1 cp2 cp3 cp4 cp5
  clear zq fq cq0 cq1 cq2 cq3 cq4 cq5
  clear zr fr cr0 cr1
  obtain ⟨⟨zp, cp0, cp1, cp2, cp3, cp4, cp5⟩, fp⟩ := E6.out
  unfold Fz at fp
  obtain ⟨⟨zq, cq0, cq1, cq2, cq3, cq4, cq5⟩, fq⟩ := F6.out
  unfold Fz at fq
  obtain ⟨⟨zr, cr0, cr1⟩, fr⟩ := S2.out
  unfold Fz at fr
  refine wp_region_AL 7 (W4) (obj := .cells #[.int .i64 0, .int .i64 0] 30) (by kernel_rfl) (by kernel_rfl) (by repeat (first | exact Below.refl _ _ | apply Below.drew)) rfl (fun _ => by rfl) (fun _ _ => by first | rfl | go_simp) ?_
  simp only [List.take_succ_cons, List.take_zero, List.drop_succ_cons, List.drop_zero]
  first | refine wpR_skip (by rfl) ?_ | (refine wpR_text (v := ?_) (by rfl) (fun W k1 => ?_) ?_; rotate_left; (obtain ⟨hc1, hf1⟩ := bcell k1;  go_simp; refine comes_v ?_; exact Below.refl _ _))
  (try simp only [Act.put, List.setIfInBounds_toArray, List.set_cons_zero, List.set_cons_succ])
  first | refine wpR_skip (by rfl) ?_ | (refine wpR_text (v := ?_) (by rfl) (fun W k1 => ?_) ?_; rotate_left; (obtain ⟨hc1, hf1⟩ := bcell k1;  go_simp; refine comes_v ?_; exact Below.refl _ _))
  (try simp only [Act.put, List.setIfInBounds_toArray, List.set_cons_zero, List.set_cons_succ])
  first | refine wpR_skip (by rfl) ?_ | (refine wpR_text (v := ?_) (by rfl) (fun W k1 => ?_) ?_; rotate_left; (obtain ⟨hc1, hf1⟩ := bcell k1;  go_simp; refine comes_v ?_; exact Below.refl _ _))
  (try simp only [Act.put, List.setIfInBounds_toArray, List.set_cons_zero, List.set_cons_succ])
  first | refine wpR_skip (by rfl) ?_ | (refine wpR_text (v := .agg #[.int .i64 p3, .int .i64 p4]) (by rfl) (fun W k1 => ?_) ?_; (obtain ⟨hc1, hf1⟩ := bcell k1;  go_simp; exact comes_c ( K5.out _) (fun wn hbn => hbn)))
  (try simp only [Act.put, List.setIfInBounds_toArray, List.set_cons_zero, List.set_cons_succ])
  first | refine wpR_skip (by rfl) ?_ | (refine wpR_text (v := .agg #[.int .i64 g3, .int .i64 g4]) (by rfl) (fun W k1 => ?_) ?_; (obtain ⟨hc1, hf1⟩ := bcell k1;  go_simp; exact comes_c ( K6.out _) (fun wn hbn => hbn)))
  (try simp only [Act.put, List.setIfInBounds_toArray, List.set_cons_zero, List.set_cons_succ])
  first | refine wpR_skip (by rfl) ?_ | (refine wpR_text (v := ?_) (by rfl) (fun W k1 => ?_) ?_; rotate_left; (obtain ⟨hc1, hf1⟩ := bcell k1;  go_simp; refine comes_v ?_; exact Below.refl _ _))
  (try simp only [Act.put, List.setIfInBounds_toArray, List.set_cons_zero, List.set_cons_succ])
  first | refine wpR_skip (by rfl) ?_ | (refine wpR_text (v := .agg #[.int .i64 r2, .int .i64 r4]) (by rfl) (fun W k1 => ?_) ?_; (obtain ⟨hc1, hf1⟩ := bcell k1;  go_simp; exact comes_c ( KU.out _) (fun wn hbn => hbn)))
  (try simp only [Act.put, List.setIfInBounds_toArray, List.set_cons_zero, List.set_cons_succ])
  refine wpR_nil ?_
  intro W1 W k1 k2
  (try simp only [Act.put, List.setIfInBounds_toArray, List.set_cons_zero, List.set_cons_succ])
  have HA := Lib.hid (al2 (t := 30) k1 k2 r2 r4)
  obtain ⟨⟨zal, cal0, cal1⟩, fal⟩ := own2_below (own2_new W1 30) k2 (own2_new W1 30).1.1
  unfold Fz at fal
  have LAL := (al_below k1 k2).2.1
  have KB := (al_below k1 k2).1
  have BW := BW4.trans (KB.mono BW4.size)
  have net := Nat.ne_of_lt (Nat.lt_of_lt_of_le T2.out.1.1 LAL)
  have T2w := Lib.hid (own2_below T2.out KB T2.out.1.1)
  obtain ⟨⟨zt, ct0, ct1⟩, ft⟩ := T2w.out
  unfold Fz at ft
  have nes := Nat.ne_of_lt (Nat.lt_of_lt_of_le S2.out.1.1 LAL)
  have S2w := Lib.hid (own2_below S2.out KB S2.out.1.1)
  obtain ⟨⟨zs, cs0, cs1⟩, fs⟩ := S2w.out
  unfold Fz at fs
  have neu := Nat.ne_of_lt (Nat.lt_of_lt_of_le R6.out.1.1 LAL)
  have R6w := Lib.hid (own6_below R6.out KB R6.out.1.1)
  obtain ⟨⟨zu, cu0, cu1, cu2, cu3, cu4, cu5⟩, fu⟩ := R6w.out
  unfold Fz at fu
  clear k1 k2 KB
  clear zp fp cp0 cp1 cp2 cp3 cp4 cp5
  clear zq fq cq0 cq1 cq2 cq3 cq4 cq5
  clear zr fr cr0 cr1
  go_wp2_with fail
  have HA2 := HA.out
  have R7 := own6_sets (own6_below R6.out HA2.2 R6.out.1.1) r1 r2 r3 r4 o1 o2
  have BX := BW4.trans (HA2.2.mono BW4.size)
  have B8 := ((((((BX.setCell (p := ⟨w.heap.size + 2, 0, none⟩) (Nat.le_add_right _ _) (.int .i64 r1)).setCell (p := ⟨w.heap.size + 2, 1, none⟩) (Nat.le_add_right _ _) (.int .i64 r2)).setCell (p := ⟨w.heap.size + 2, 2, none⟩) (Nat.le_add_right _ _) (.int .i64 r3)).setCell (p := ⟨w.heap.size + 2, 3, none⟩) (Nat.le_add_right _ _) (.int .i64 r4)).setCell (p := ⟨w.heap.size + 2, 4, none⟩) (Nat.le_add_right _ _) (.int .i64 o1)).setCell (p := ⟨w.heap.size + 2, 5, none⟩) (Nat.le_add_right _ _) (.int .i64 o2))
  clear HA HA2 BX T2w S2w R6w zt ft net zs fs nes zu fu neu
  clear ct0 ct1 cs0 cs1 cu0 cu1 cu2 cu3 cu4 cu5 cal0 cal1 fal
  revert R7 B8
  generalize ((((((((W.setCell ⟨W1.heap.size, 0, none⟩ (.int .i64 r2)).setCell ⟨W1.heap.size, 1, none⟩ (.int .i64 r4)).setCell ⟨w.heap.size + 2, 0, none⟩ (.int .i64 r1)).setCell ⟨w.heap.size + 2, 1, none⟩ (.int .i64 r2)).setCell ⟨w.heap.size + 2, 2, none⟩ (.int .i64 r3)).setCell ⟨w.heap.size + 2, 3, none⟩ (.int .i64 r4)).setCell ⟨w.heap.size + 2, 4, none⟩ (.int .i64 o1)).setCell ⟨w.heap.size + 2, 5, none⟩ (.int .i64 o2)) = W9
  intro R7 B8
  obtain ⟨⟨zz, s0, s1, s2, s3, s4, s5⟩, _⟩ := R7
  exact bodyPost_ret (v := .agg #[.int .i64 r1, .int .i64 r2, .int .i64 r3, .int .i64 r4, .int .i64 o1, .int .i64 o2]) (by simp [results, Try.results45, go_sem, s0, s1, s2, s3, s4, s5]) rfl ⟨rfl, B8⟩
end Go.Proofs.Ytjlihafpnppchaa
