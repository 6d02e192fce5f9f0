/- The law FnExactJoinMoves returns true at every twelve numbers, and changes nothing: the program tells the move that is one and then another one as its model does. -/
import Derived.Test.YtjlihafpnppchaaMjs
import Derived.Test.YtjlihafpnppchaaMe
namespace Go.Proofs.Ytjlihafpnppchaa
open Go.ChangeShapes Go.WideShapes Go.ChangeAt Go.RowKit Go.Joins
set_option linter.unusedVariables false
set_option linter.unusedSimpArgs false
set_option maxHeartbeats 2000000 in
theorem joinMoves_walk (a b c d x y a' b' c' d' x' y' : Int) (w : World) :
    Calls Try.prog 7 #[.agg #[.int .i64 a, .int .i64 b, .int .i64 c, .int .i64 d, .int .i64 x, .int .i64 y], .agg #[.int .i64 a', .int .i64 b', .int .i64 c', .int .i64 d', .int .i64 x', .int .i64 y']] w fun e w' => e = .returned (.bool true) ∧ Below w.heap.size w w' := by
  have KM := Lib.hid (fun W => toMove_any a b c d x y W)
  have KP := Lib.hid (fun W => toMove_any a' b' c' d' x' y' W)
  have KS := Lib.hid (fun W => specJoinMoves_any a b c d x y a' b' c' d' x' y' W)
  have KI := Lib.hid (fun W => implJoinMoves_any a b c d x y a' b' c' d' x' y' W)
  generalize bsel (goodM a b c d x y && (goodM a' b' c' d' x' y' && (goodM (a * a' + b * c') (a * b' + b * d') (c * a' + d * c') (c * b' + d * d') (a * x' + b * y' + x) (c * x' + d * y' + y)))) (a * a' + b * c') = v0 at *
  generalize bsel (goodM a b c d x y && (goodM a' b' c' d' x' y' && (goodM (a * a' + b * c') (a * b' + b * d') (c * a' + d * c') (c * b' + d * d') (a * x' + b * y' + x) (c * x' + d * y' + y)))) (a * b' + b * d') = v1 at *
  generalize bsel (goodM a b c d x y && (goodM a' b' c' d' x' y' && (goodM (a * a' + b * c') (a * b' + b * d') (c * a' + d * c') (c * b' + d * d') (a * x' + b * y' + x) (c * x' + d * y' + y)))) (c * a' + d * c') = v2 at *
  generalize bsel (goodM a b c d x y && (goodM a' b' c' d' x' y' && (goodM (a * a' + b * c') (a * b' + b * d') (c * a' + d * c') (c * b' + d * d') (a * x' + b * y' + x) (c * x' + d * y' + y)))) (c * b' + d * d') = v3 at *
  generalize bsel (goodM a b c d x y && (goodM a' b' c' d' x' y' && (goodM (a * a' + b * c') (a * b' + b * d') (c * a' + d * c') (c * b' + d * d') (a * x' + b * y' + x) (c * x' + d * y' + y)))) (a * x' + b * y' + x) = v4 at *
  generalize bsel (goodM a b c d x y && (goodM a' b' c' d' x' y' && (goodM (a * a' + b * c') (a * b' + b * d') (c * a' + d * c') (c * b' + d * d') (a * x' + b * y' + x) (c * x' + d * y' + y)))) (c * x' + d * y' + y) = v5 at *
  generalize (goodM a b c d x y && (goodM a' b' c' d' x' y' && (goodM (a * a' + b * c') (a * b' + b * d') (c * a' + d * c') (c * b' + d * d') (a * x' + b * y' + x) (c * x' + d * y' + y)))) = gg at *
  have KE := Lib.hid (fun W => eqMove_same v0 v1 v2 v3 v4 v5 W)
  go_enter Try.func7, Try.ntmps7
  go_wp2_with fail
  obtain ⟨W0, hW0⟩ : ∃ W0, W0 = ((w.alloc (.cells #[.int .i64 a, .int .i64 b, .int .i64 c, .int .i64 d, .int .i64 x, .int .i64 y] 23)).alloc (.cells #[.int .i64 a', .int .i64 b', .int .i64 c', .int .i64 d', .int .i64 x', .int .i64 y'] 23)) := ⟨_, rfl⟩
  rw [← hW0]
  have yW00_0 : W0.cell? ⟨w.heap.size, 0, none⟩ = some (.int .i64 a) := by rw [hW0]; go_simp
  have yW00_1 : W0.cell? ⟨w.heap.size, 1, none⟩ = some (.int .i64 b) := by rw [hW0]; go_simp
  have yW00_2 : W0.cell? ⟨w.heap.size, 2, none⟩ = some (.int .i64 c) := by rw [hW0]; go_simp
  have yW00_3 : W0.cell? ⟨w.heap.size, 3, none⟩ = some (.int .i64 d) := by rw [hW0]; go_simp
  have yW00_4 : W0.cell? ⟨w.heap.size, 4, none⟩ = some (.int .i64 x) := by rw [hW0]; go_simp
  have yW00_5 : W0.cell? ⟨w.heap.size, 5, none⟩ = some (.int .i64 y) := by rw [hW0]; go_simp
  have fW00 : ∀ o, W0.frozen? ⟨w.heap.size, o, none⟩ = false := by intro o; rw [hW0]; (repeat rw [frozen?_alloc_cells]); simp [World.frozen?]
  have zW00 : w.heap.size < W0.heap.size := by rw [hW0]; simp <;> omega
  have yW01_0 : W0.cell? ⟨w.heap.size + 1, 0, none⟩ = some (.int .i64 a') := by rw [hW0]; go_simp
  have yW01_1 : W0.cell? ⟨w.heap.size + 1, 1, none⟩ = some (.int .i64 b') := by rw [hW0]; go_simp
  have yW01_2 : W0.cell? ⟨w.heap.size + 1, 2, none⟩ = some (.int .i64 c') := by rw [hW0]; go_simp
  have yW01_3 : W0.cell? ⟨w.heap.size + 1, 3, none⟩ = some (.int .i64 d') := by rw [hW0]; go_simp
  have yW01_4 : W0.cell? ⟨w.heap.size + 1, 4, none⟩ = some (.int .i64 x') := by rw [hW0]; go_simp
  have yW01_5 : W0.cell? ⟨w.heap.size + 1, 5, none⟩ = some (.int .i64 y') := by rw [hW0]; go_simp
  have fW01 : ∀ o, W0.frozen? ⟨w.heap.size + 1, o, none⟩ = false := by intro o; rw [hW0]; (repeat rw [frozen?_alloc_cells]); simp [World.frozen?]
  have zW01 : w.heap.size + 1 < W0.heap.size := by rw [hW0]; simp <;> omega
  have BW0 : Below w.heap.size w W0 := by rw [hW0]; exact (Below.alloc (Below.alloc (Below.refl _ _) (by simp <;> omega) _) (by simp <;> omega) _)
  have eW0 : Hid (W0.heap.size = w.heap.size + 2) := Lib.hid (by rw [hW0]; simp)
  clear hW0
  have E6 := Lib.hid (show Own6 W0 (w.heap.size) a b c d x y from ⟨⟨zW00, yW00_0, yW00_1, yW00_2, yW00_3, yW00_4, yW00_5⟩, fW00⟩)
  have F6 := Lib.hid (show Own6 W0 (w.heap.size + 1) a' b' c' d' x' y' from ⟨⟨zW01, yW01_0, yW01_1, yW01_2, yW01_3, yW01_4, yW01_5⟩, fW01⟩)
  clear zW00 fW00 yW00_0 yW00_1 yW00_2 yW00_3 yW00_4 yW00_5 zW01 fW01 yW01_0 yW01_1 yW01_2 yW01_3 yW01_4 yW01_5 eW0
  obtain ⟨⟨zp, cp0, cp1, cp2, cp3, cp4, cp5⟩, fp⟩ := E6.out
  unfold Fz at fp
  obtain ⟨⟨zq, cq0, cq1, cq2, cq3, cq4, cq5⟩, fq⟩ := F6.out
  unfold Fz at fq
  refine wp_region_AM 8 7 (W0) (obj := .cells #[.int .i64 0, .int .i64 0, .int .i64 0, .int .i64 0, .int .i64 0, .int .i64 0] 25) (by kernel_rfl) (by kernel_rfl) (by repeat (first | exact Below.refl _ _ | apply Below.drew)) rfl rfl (fun _ => by rfl) (fun _ _ => by first | rfl | go_simp) (fun S a v w w2 h => extract_pure rfl h) (fun _ _ _ _ h => h) ?_
  simp only [List.take_succ_cons, List.take_zero, List.drop_succ_cons, List.drop_zero]
  first | refine wpR_skip (by rfl) ?_ | (refine wpR_text (v := ?_) (by rfl) (fun W k1 => ?_) ?_; rotate_left; (obtain ⟨hc1, hf1⟩ := bcell k1;  go_simp; refine comes_v ?_; exact Below.refl _ _))
  (try simp only [Act.put, List.setIfInBounds_toArray, List.set_cons_zero, List.set_cons_succ])
  first | refine wpR_skip (by rfl) ?_ | (refine wpR_text (v := .agg #[.int .i64 a, .int .i64 b, .int .i64 c, .int .i64 d, .int .i64 x, .int .i64 y]) (by rfl) (fun W k1 => ?_) ?_; (obtain ⟨hc1, hf1⟩ := bcell k1;  go_simp; exact comes_c ( KM.out _) (fun wn hbn => hbn)))
  (try simp only [Act.put, List.setIfInBounds_toArray, List.set_cons_zero, List.set_cons_succ])
  first | refine wpR_skip (by rfl) ?_ | (refine wpR_text (v := ?_) (by rfl) (fun W k1 => ?_) ?_; rotate_left; (obtain ⟨hc1, hf1⟩ := bcell k1;  go_simp; refine comes_v ?_; exact Below.refl _ _))
  (try simp only [Act.put, List.setIfInBounds_toArray, List.set_cons_zero, List.set_cons_succ])
  first | refine wpR_skip (by rfl) ?_ | (refine wpR_text (v := .agg #[.int .i64 a', .int .i64 b', .int .i64 c', .int .i64 d', .int .i64 x', .int .i64 y']) (by rfl) (fun W k1 => ?_) ?_; (obtain ⟨hc1, hf1⟩ := bcell k1;  go_simp; exact comes_c ( KP.out _) (fun wn hbn => hbn)))
  (try simp only [Act.put, List.setIfInBounds_toArray, List.set_cons_zero, List.set_cons_succ])
  first | refine wpR_skip (by rfl) ?_ | (refine wpR_text (v := .tuple #[.agg #[.int .i64 v0, .int .i64 v1, .int .i64 v2, .int .i64 v3, .int .i64 v4, .int .i64 v5], .bool gg]) (by rfl) (fun W k1 => ?_) ?_; (obtain ⟨hc1, hf1⟩ := bcell k1;  go_simp; exact comes_c ( KS.out _) (fun wn hbn => hbn)))
  (try simp only [Act.put, List.setIfInBounds_toArray, List.set_cons_zero, List.set_cons_succ])
  first | refine wpR_skip (by rfl) ?_ | (refine wpR_text (v := ?_) (by rfl) (fun W k1 => ?_) ?_; rotate_left; (obtain ⟨hc1, hf1⟩ := bcell k1;  go_simp; refine comes_v ?_; exact Below.refl _ _))
  (try simp only [Act.put, List.setIfInBounds_toArray, List.set_cons_zero, List.set_cons_succ])
  first | refine wpR_skip (by rfl) ?_ | (refine wpR_text (v := ?_) (by rfl) (fun W k1 => ?_) ?_; rotate_left; (obtain ⟨hc1, hf1⟩ := bcell k1;  go_simp; refine comes_v ?_; exact Below.refl _ _))
  (try simp only [Act.put, List.setIfInBounds_toArray, List.set_cons_zero, List.set_cons_succ])
  first | refine wpR_skip (by rfl) ?_ | (refine wpR_text (v := ?_) (by rfl) (fun W k1 => ?_) ?_; rotate_left; (obtain ⟨hc1, hf1⟩ := bcell k1;  go_simp; refine comes_v ?_; exact Below.refl _ _))
  (try simp only [Act.put, List.setIfInBounds_toArray, List.set_cons_zero, List.set_cons_succ])
  refine wpR_nil ?_
  intro W1 W k1 k2
  (try simp only [Act.put, List.setIfInBounds_toArray, List.set_cons_zero, List.set_cons_succ])
  have HA := Lib.hid (al6 (t := 25) k1 k2 v0 v1 v2 v3 v4 v5)
  obtain ⟨⟨zal, cal0, cal1, cal2, cal3, cal4, cal5⟩, fal⟩ := own6_below (own6_new W1 25) k2 (own6_new W1 25).1.1
  unfold Fz at fal
  have LAL := (al_below k1 k2).2.1
  have KB := Lib.hid (al_below k1 k2).1
  have E6w := Lib.hid (own6_below E6.out KB.out E6.out.1.1)
  have F6w := Lib.hid (own6_below F6.out KB.out F6.out.1.1)
  clear k1 k2
  go_wp2_with fail
  have HA2 := HA.out
  clear HA zal fal cal0 cal1 cal2 cal3 cal4 cal5
  obtain ⟨gW2, hgW2⟩ : ∃ x, x = W1.heap.size := ⟨_, rfl⟩
  rw [← hgW2] at HA2 LAL ⊢
  clear hgW2
  generalize ((((((W.setCell ⟨gW2, 0, none⟩ (.int .i64 v0)).setCell ⟨gW2, 1, none⟩ (.int .i64 v1)).setCell ⟨gW2, 2, none⟩ (.int .i64 v2)).setCell ⟨gW2, 3, none⟩ (.int .i64 v3)).setCell ⟨gW2, 4, none⟩ (.int .i64 v4)).setCell ⟨gW2, 5, none⟩ (.int .i64 v5)) = W2 at HA2 ⊢
  have R6 := Lib.hid HA2.1
  have BW2 := BW0.trans (HA2.2.mono BW0.size)
  have E6 := Lib.hid (own6_below E6.out HA2.2 E6.out.1.1)
  have F6 := Lib.hid (own6_below F6.out HA2.2 F6.out.1.1)
  clear HA2 KB E6w F6w BW0
  clear zp fp cp0 cp1 cp2 cp3 cp4 cp5
  clear zq fq cq0 cq1 cq2 cq3 cq4 cq5
  obtain ⟨⟨zp, cp0, cp1, cp2, cp3, cp4, cp5⟩, fp⟩ := E6.out
  unfold Fz at fp
  obtain ⟨⟨zq, cq0, cq1, cq2, cq3, cq4, cq5⟩, fq⟩ := F6.out
  unfold Fz at fq
  refine wp_region_AM 8 7 (W2) (obj := .cells #[.int .i64 0, .int .i64 0, .int .i64 0, .int .i64 0, .int .i64 0, .int .i64 0] 25) (by kernel_rfl) (by kernel_rfl) (by repeat (first | exact Below.refl _ _ | apply Below.drew)) rfl rfl (fun _ => by rfl) (fun _ _ => by first | rfl | go_simp) (fun S a v w w2 h => extract_pure rfl h) (fun _ _ _ _ h => h) ?_
  simp only [List.take_succ_cons, List.take_zero, List.drop_succ_cons, List.drop_zero]
  first | refine wpR_skip (by rfl) ?_ | (refine wpR_text (v := ?_) (by rfl) (fun W k1 => ?_) ?_; rotate_left; (obtain ⟨hc1, hf1⟩ := bcell k1;  go_simp; refine comes_v ?_; exact Below.refl _ _))
  (try simp only [Act.put, List.setIfInBounds_toArray, List.set_cons_zero, List.set_cons_succ])
  first | refine wpR_skip (by rfl) ?_ | (refine wpR_text (v := .agg #[.int .i64 a, .int .i64 b, .int .i64 c, .int .i64 d, .int .i64 x, .int .i64 y]) (by rfl) (fun W k1 => ?_) ?_; (obtain ⟨hc1, hf1⟩ := bcell k1;  go_simp; exact comes_c ( KM.out _) (fun wn hbn => hbn)))
  (try simp only [Act.put, List.setIfInBounds_toArray, List.set_cons_zero, List.set_cons_succ])
  first | refine wpR_skip (by rfl) ?_ | (refine wpR_text (v := ?_) (by rfl) (fun W k1 => ?_) ?_; rotate_left; (obtain ⟨hc1, hf1⟩ := bcell k1;  go_simp; refine comes_v ?_; exact Below.refl _ _))
  (try simp only [Act.put, List.setIfInBounds_toArray, List.set_cons_zero, List.set_cons_succ])
  first | refine wpR_skip (by rfl) ?_ | (refine wpR_text (v := .agg #[.int .i64 a', .int .i64 b', .int .i64 c', .int .i64 d', .int .i64 x', .int .i64 y']) (by rfl) (fun W k1 => ?_) ?_; (obtain ⟨hc1, hf1⟩ := bcell k1;  go_simp; exact comes_c ( KP.out _) (fun wn hbn => hbn)))
  (try simp only [Act.put, List.setIfInBounds_toArray, List.set_cons_zero, List.set_cons_succ])
  first | refine wpR_skip (by rfl) ?_ | (refine wpR_text (v := .tuple #[.agg #[.int .i64 v0, .int .i64 v1, .int .i64 v2, .int .i64 v3, .int .i64 v4, .int .i64 v5], .bool gg]) (by rfl) (fun W k1 => ?_) ?_; (obtain ⟨hc1, hf1⟩ := bcell k1;  go_simp; exact comes_c ( KI.out _) (fun wn hbn => hbn)))
  (try simp only [Act.put, List.setIfInBounds_toArray, List.set_cons_zero, List.set_cons_succ])
  first | refine wpR_skip (by rfl) ?_ | (refine wpR_text (v := ?_) (by rfl) (fun W k1 => ?_) ?_; rotate_left; (obtain ⟨hc1, hf1⟩ := bcell k1;  go_simp; refine comes_v ?_; exact Below.refl _ _))
  (try simp only [Act.put, List.setIfInBounds_toArray, List.set_cons_zero, List.set_cons_succ])
  first | refine wpR_skip (by rfl) ?_ | (refine wpR_text (v := ?_) (by rfl) (fun W k1 => ?_) ?_; rotate_left; (obtain ⟨hc1, hf1⟩ := bcell k1;  go_simp; refine comes_v ?_; exact Below.refl _ _))
  (try simp only [Act.put, List.setIfInBounds_toArray, List.set_cons_zero, List.set_cons_succ])
  first | refine wpR_skip (by rfl) ?_ | (refine wpR_text (v := ?_) (by rfl) (fun W k1 => ?_) ?_; rotate_left; (obtain ⟨hc1, hf1⟩ := bcell k1;  go_simp; refine comes_v ?_; exact Below.refl _ _))
  (try simp only [Act.put, List.setIfInBounds_toArray, List.set_cons_zero, List.set_cons_succ])
  refine wpR_nil ?_
  intro W1 W k1 k2
  (try simp only [Act.put, List.setIfInBounds_toArray, List.set_cons_zero, List.set_cons_succ])
  have HA := Lib.hid (al6 (t := 25) k1 k2 v0 v1 v2 v3 v4 v5)
  obtain ⟨⟨zal, cal0, cal1, cal2, cal3, cal4, cal5⟩, fal⟩ := own6_below (own6_new W1 25) k2 (own6_new W1 25).1.1
  unfold Fz at fal
  have LAL := (al_below k1 k2).2.1
  have KB := Lib.hid (al_below k1 k2).1
  have R6w := Lib.hid (own6_below R6.out KB.out R6.out.1.1)
  clear k1 k2
  have ner := Nat.ne_of_lt (Nat.lt_of_lt_of_le R6.out.1.1 LAL)
  obtain ⟨⟨zr, cr0, cr1, cr2, cr3, cr4, cr5⟩, fr⟩ := R6w.out
  unfold Fz at fr
  go_wp2_with fail
  clear zr fr cr0 cr1 cr2 cr3 cr4 cr5
  clear ner
  have HA2 := HA.out
  clear HA zal fal cal0 cal1 cal2 cal3 cal4 cal5
  obtain ⟨gW4, hgW4⟩ : ∃ x, x = W1.heap.size := ⟨_, rfl⟩
  rw [← hgW4] at HA2 LAL ⊢
  clear hgW4
  generalize ((((((W.setCell ⟨gW4, 0, none⟩ (.int .i64 v0)).setCell ⟨gW4, 1, none⟩ (.int .i64 v1)).setCell ⟨gW4, 2, none⟩ (.int .i64 v2)).setCell ⟨gW4, 3, none⟩ (.int .i64 v3)).setCell ⟨gW4, 4, none⟩ (.int .i64 v4)).setCell ⟨gW4, 5, none⟩ (.int .i64 v5)) = W4 at HA2 ⊢
  have S6 := Lib.hid HA2.1
  have BW4 := BW2.trans (HA2.2.mono BW2.size)
  have R6 := Lib.hid (own6_below R6.out HA2.2 R6.out.1.1)
  clear HA2 KB R6w BW2
  clear zp fp cp0 cp1 cp2 cp3 cp4 cp5
  clear zq fq cq0 cq1 cq2 cq3 cq4 cq5
  refine (KE.out _).mono ?_; rintro e w5 ⟨rfl, hbw5⟩
  have Bw5 := BW4.trans (hbw5.mono BW4.size)
  clear hbw5 BW4
  go_wp2_with fail
  go_ret
  exact ⟨rfl, Bw5⟩
set_option maxRecDepth 100000 in
theorem joinMoves_lifted (os : Os) (started : os.Started) (H : Type) (enc : TypeId × Value → H) :
    ReturnsInHanded {} Try.checked os 7 .any (Rows.fnExactJoinMovesSpec.pre6 enc Try.prog Try.f7 Rows.fnExactJoinMovesRow.domain false) (Rows.fnExactJoinMovesSpec.post enc Try.prog Try.f7 false true false false) := by
  refine returnsInHanded_of_change (C := Try.checked) own started (by kernel_rfl) Try.func7
    (ChangeSpec.witness6 (enc := enc) (C := Try.checked) false ⟨#[], #[.agg #[.int .i64 0, .int .i64 0, .int .i64 0, .int .i64 0, .int .i64 0, .int .i64 0], .agg #[.int .i64 0, .int .i64 0, .int .i64 0, .int .i64 0, .int .i64 0, .int .i64 0]], []⟩ 8 (by kernel_rfl) (by kernel_rfl) (by kernel_rfl) (by kernel_rfl)) ?_
  intro W base args ds gs before hval0 hW hcnd _
  have hval : ∀ (j : Nat) t v, Try.f7.params[j]? = some t → args[j]? = some v → Value.okWide Try.prog W .any base t v := hval0
  have hW' := hW
  obtain ⟨p, q, hA0, hV, rfl, hfz, hnd⟩ := hW
  have hA : DataW.TrodAll enc Try.prog W 0 (fun _ => true) true Try.f7.params.toList args.toList ds p := hA0
  rw [Try.params7] at hA hval
  obtain ⟨v0, vs0, d0, ds0, p0, q0, hargs, rfl, rfl, h0, r0⟩ := trodAll_cons hA
  obtain ⟨v1, vs1, d1, ds1, p1, q1, rfl, rfl, rfl, h1, r1⟩ := trodAll_cons r0
  obtain ⟨rfl, rfl, rfl⟩ := trodAll_nil r1
  obtain rfl : args = #[v0, v1] := by cases args; simp_all
  obtain ⟨a0, b0, c0, d0, x0, y0, rfl⟩ := open_move (hval 0 23 v0 rfl rfl) h0
  obtain ⟨a1, b1, c1, d1, x1, y1, rfl⟩ := open_move (hval 1 23 v1 rfl rfl) h1
  refine (joinMoves_walk a0 b0 c0 d0 x0 y0 a1 b1 c1 d1 x1 y1 W).mono fun e W' ⟨he, hb⟩ => ?_
  subst he
  exact ⟨_, rfl, law_done hW' rfl (by kernel_rfl) (fun t ht => by rw [Try.params7] at ht; simp at ht; first | (subst ht; exact fineM)) rfl hb⟩
theorem joinMoves_over : Rows.fnExactJoinMovesRow.holds Try.pinned (OpenSpec.ofChange Rows.fnExactJoinMovesSpec) :=
  OpenClaim.holds_of_wide 7 Try.f7 rfl rfl rfl rfl rfl rfl rfl ⟨rfl, rfl, rfl, rfl, rfl⟩ rfl rfl rfl rfl rfl (by kernel_rfl) Try.func7 (by kernel_rfl)
    (of_decide_eq_true (by kernel_rfl)) (by unfold Func.isWrapper; rw [if_neg (of_decide_eq_false (by kernel_rfl))]; exact ⟨rfl, rfl⟩)
    (fun os started H enc _ => joinMoves_lifted os started H enc)
theorem joinMoves_proved : Rows.FnExactJoinMovesSaid := joinMoves_over
end Go.Proofs.Ytjlihafpnppchaa
