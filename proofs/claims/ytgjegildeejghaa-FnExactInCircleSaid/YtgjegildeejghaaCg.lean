/- contract: InCircle, the program -/
import Derived.Test.YtgjegildeejghaaCf
import Derived.Test.YtgjegildeejghaaTc
namespace Go.Proofs.Ytgjegildeejghaa
open Go.ChangeShapes Go.WideShapes Go.ChangeAt Go.RowKit Go.Joins
set_option linter.unusedVariables false
set_option linter.unusedSimpArgs false
set_option maxRecDepth 4000
set_option maxHeartbeats 4000000 in
theorem implInCircle_any (A : Option Addr) (c : Nat) (l : List (Int × Int)) (p1 p2 : Int) (w : World) (hn : l.length ≤ 1048576) (hR : Rd w w.heap.size A l) :
    Calls Try.prog 46 #[.slice A l.length c, .agg #[.int .i64 p1, .int .i64 p2]] w fun e w' => e = .returned (.tuple #[.int .i64 (isel (tB l && isPegB p1 p2) (inC l p1 p2)), .bool (tB l && isPegB p1 p2)]) ∧ Below w.heap.size w w' := by
  by_cases ht : tB l = true
  · obtain ⟨a1, a2, b1, b2, c1, c2, htr⟩ := tB_true ht
    have K := Lib.hid (fun W (hb : Below w.heap.size w W) => threeOf_t A c l a1 a2 b1 b2 c1 c2 W (rd_more (rd_below hR hb (Nat.le_refl _)) hb.size) htr)
    have KP := Lib.hid (fun W => implIsPeg_any p1 p2 W)
    by_cases hp : isPegB p1 p2 = true
    · obtain ⟨u1, u2, _⟩ := tri_bd htr
      obtain ⟨q1, q2, q3⟩ := six_bd htr
      have K3 := Lib.hid (fun W => circle_any l a1 a2 b1 b2 c1 c2 W htr (tri_turn htr))
      rw [← (tri_cir htr).1, ← (tri_cir htr).2.1, ← (tri_cir htr).2.2] at K3
      rw [ht]
      rw [hp] at KP ⊢
      have hv : vx l 0 = (a1, a2) := by rw [htr.1]; rfl
      have HI : Hid (inC l p1 p2 = sgI ((a1 * cirD l - cirX l) * (a1 * cirD l - cirX l) + (a2 * cirD l - cirY l) * (a2 * cirD l - cirY l) - ((p1 * cirD l - cirX l) * (p1 * cirD l - cirX l) + (p2 * cirD l - cirY l) * (p2 * cirD l - cirY l)))) := Lib.hid (by unfold inC rdI; rw [hv])
      unfold isPegB at hp
      simp only [Bool.and_eq_true, decide_eq_true_eq] at hp
      rw [Bool.true_and, isel_t, HI.out]
      obtain ⟨⟨f1, f2⟩, _, _⟩ := rdI_in a1 (cirD l) (cirX l) u1 q1 q3
      obtain ⟨⟨f5, f6⟩, _, _⟩ := rdI_in a2 (cirD l) (cirY l) u2 q2 q3
      obtain ⟨⟨g1, g2⟩, _, _⟩ := rdI_in p1 (cirD l) (cirX l) hp.1 q1 q3
      obtain ⟨⟨g5, g6⟩, _, _⟩ := rdI_in p2 (cirD l) (cirY l) hp.2 q2 q3
      clear HI hv ht hR
      generalize cirX l = X at *
      generalize cirY l = Y at *
      generalize cirD l = D at *
      have KT1 := Lib.hid (fun W => times_any p1 p2 D W (by omega) (by omega))
      have KM1 := Lib.hid (fun W => minus_any (p1 * D) (p2 * D) X Y W (by unfold Mid; omega) (by unfold Mid; omega) (by unfold Mid; omega) (by unfold Mid; omega))
      have KQ1 := Lib.hid (fun W => square_any (p1 * D - X) (p2 * D - Y) W (by omega) (by omega))
      have KT2 := Lib.hid (fun W => times_any a1 a2 D W (by omega) (by omega))
      have KM2 := Lib.hid (fun W => minus_any (a1 * D) (a2 * D) X Y W (by unfold Mid; omega) (by unfold Mid; omega) (by unfold Mid; omega) (by unfold Mid; omega))
      have KQ2 := Lib.hid (fun W => square_any (a1 * D - X) (a2 * D - Y) W (by omega) (by omega))
      clear f1 f2 f5 f6 g1 g2 g5 g6 hp u1 u2 q1 q2 q3 htr
      generalize (p1 * D - X) * (p1 * D - X) + (p2 * D - Y) * (p2 * D - Y) = s1 at *
      generalize (a1 * D - X) * (a1 * D - X) + (a2 * D - Y) * (a2 * D - Y) = s2 at *
      generalize p1 * D - X = d1 at *
      generalize p2 * D - Y = d2 at *
      generalize a1 * D - X = d3 at *
      generalize a2 * D - Y = d4 at *
      generalize p1 * D = t1 at *
      generalize p2 * D = t2 at *
      generalize a1 * D = t3 at *
      generalize a2 * D = t4 at *
      have KC := Lib.hid (fun W => compare_any s2 s1 W)
      go_enter Try.func46, Try.ntmps46
      go_wp2_with fail
      obtain ⟨Wa, hWa⟩ : ∃ Wa, Wa = (w.alloc (.cells #[.int .i64 p1, .int .i64 p2] 46)) := ⟨_, rfl⟩
      rw [← hWa]
      have yWa0_0 : Wa.cell? ⟨w.heap.size, 0, none⟩ = some (.int .i64 p1) := by rw [hWa]; go_simp
      have yWa0_1 : Wa.cell? ⟨w.heap.size, 1, none⟩ = some (.int .i64 p2) := by rw [hWa]; go_simp
      have fWa0 : ∀ o, Wa.frozen? ⟨w.heap.size, o, none⟩ = false := by intro o; rw [hWa]; (repeat rw [frozen?_alloc_cells]); simp [World.frozen?]
      have zWa0 : w.heap.size < Wa.heap.size := by rw [hWa]; simp <;> omega
      have BWa : Below w.heap.size w Wa := by rw [hWa]; exact (Below.alloc (Below.refl _ _) (by simp <;> omega) _)
      have eWa : Hid (Wa.heap.size = w.heap.size + 1) := Lib.hid (by rw [hWa]; simp)
      clear hWa
      refine (K.out _ BWa).mono ?_; rintro e w1 ⟨rfl, hb1⟩
      have B1 := BWa.trans (hb1.mono BWa.size)
      have y0 := ((bcell hb1).1 _ _ zWa0).trans yWa0_0
      have y1 := ((bcell hb1).1 _ _ zWa0).trans yWa0_1
      have z1 : w.heap.size < w1.heap.size := by have := hb1.size; omega
      clear yWa0_0 yWa0_1 fWa0 zWa0 eWa BWa hb1
      go_wp2_with fail
      obtain ⟨Wb, hWb⟩ : ∃ Wb, Wb = (w1.alloc (.cells #[.int .i64 a1, .int .i64 a2, .int .i64 b1, .int .i64 b2, .int .i64 c1, .int .i64 c2] 67)) := ⟨_, rfl⟩
      rw [← hWb]
      have yWb0_0 : Wb.cell? ⟨w1.heap.size, 0, none⟩ = some (.int .i64 a1) := by rw [hWb]; go_simp
      have yWb0_1 : Wb.cell? ⟨w1.heap.size, 1, none⟩ = some (.int .i64 a2) := by rw [hWb]; go_simp
      have yWb0_2 : Wb.cell? ⟨w1.heap.size, 2, none⟩ = some (.int .i64 b1) := by rw [hWb]; go_simp
      have yWb0_3 : Wb.cell? ⟨w1.heap.size, 3, none⟩ = some (.int .i64 b2) := by rw [hWb]; go_simp
      have yWb0_4 : Wb.cell? ⟨w1.heap.size, 4, none⟩ = some (.int .i64 c1) := by rw [hWb]; go_simp
      have yWb0_5 : Wb.cell? ⟨w1.heap.size, 5, none⟩ = some (.int .i64 c2) := by rw [hWb]; go_simp
      have fWb0 : ∀ o, Wb.frozen? ⟨w1.heap.size, o, none⟩ = false := by intro o; rw [hWb]; (repeat rw [frozen?_alloc_cells]); simp [World.frozen?]
      have zWb0 : w1.heap.size < Wb.heap.size := by rw [hWb]; simp <;> omega
      have BWb : Below w1.heap.size w1 Wb := by rw [hWb]; exact (Below.alloc (Below.refl _ _) (by simp <;> omega) _)
      have eWb : Hid (Wb.heap.size = w1.heap.size + 1) := Lib.hid (by rw [hWb]; simp)
      clear hWb
      refine (KP.out _).mono ?_; rintro e w2 ⟨rfl, hb2⟩
      have BB := BWb.trans (hb2.mono BWb.size)
      have x0 := ((bcell BB).1 _ _ z1).trans y0
      have x1 := ((bcell BB).1 _ _ z1).trans y1
      have h0 := ((bcell hb2).1 _ _ zWb0).trans yWb0_0
      have h1 := ((bcell hb2).1 _ _ zWb0).trans yWb0_1
      have h2 := ((bcell hb2).1 _ _ zWb0).trans yWb0_2
      have h3 := ((bcell hb2).1 _ _ zWb0).trans yWb0_3
      have h4 := ((bcell hb2).1 _ _ zWb0).trans yWb0_4
      have h5 := ((bcell hb2).1 _ _ zWb0).trans yWb0_5
      have z2 : w1.heap.size < w2.heap.size := by have := hb2.size; omega
      have z3 : w.heap.size < w2.heap.size := by omega
      have B2 := B1.trans (BB.mono B1.size)
      clear y0 y1 yWb0_0 yWb0_1 yWb0_2 yWb0_3 yWb0_4 yWb0_5 fWb0 zWb0 eWb BWb hb2 B1 BB
      go_wp2_with fail
      refine (K3.out _).mono ?_; rintro e w3 ⟨rfl, hb3⟩
      have B3 := B2.trans (hb3.mono B2.size)
      have y0 := ((bcell hb3).1 _ _ z3).trans x0
      have y1 := ((bcell hb3).1 _ _ z3).trans x1
      have y2 := ((bcell hb3).1 _ _ z2).trans h0
      have y3 := ((bcell hb3).1 _ _ z2).trans h1
      have z4 : w1.heap.size < w3.heap.size := by have := hb3.size; omega
      have z5 : w.heap.size < w3.heap.size := by omega
      clear x0 x1 h0 h1 h2 h3 h4 h5 z2 z3 hb3 B2
      go_wp2_with fail
      obtain ⟨W0, hW0⟩ : ∃ W0, W0 = (w3.alloc (.cells #[.int .i64 X, .int .i64 Y] 46)) := ⟨_, rfl⟩
      rw [← hW0]
      have yW00_0 : W0.cell? ⟨w3.heap.size, 0, none⟩ = some (.int .i64 X) := by rw [hW0]; go_simp
      have yW00_1 : W0.cell? ⟨w3.heap.size, 1, none⟩ = some (.int .i64 Y) := by rw [hW0]; go_simp
      have fW00 : ∀ o, W0.frozen? ⟨w3.heap.size, o, none⟩ = false := by intro o; rw [hW0]; (repeat rw [frozen?_alloc_cells]); simp [World.frozen?]
      have zW00 : w3.heap.size < W0.heap.size := by rw [hW0]; simp <;> omega
      have BW0 : Below w3.heap.size w3 W0 := by rw [hW0]; exact (Below.alloc (Below.refl _ _) (by simp <;> omega) _)
      have eW0 : Hid (W0.heap.size = w3.heap.size + 1) := Lib.hid (by rw [hW0]; simp)
      clear hW0
      have x0 := ((bcell BW0).1 _ _ z5).trans y0
      have x1 := ((bcell BW0).1 _ _ z5).trans y1
      have x2 := ((bcell BW0).1 _ _ z4).trans y2
      have x3 := ((bcell BW0).1 _ _ z4).trans y3
      have z6 : w1.heap.size < W0.heap.size := by have := BW0.size; omega
      have z7 : w.heap.size < W0.heap.size := by have := BW0.size; omega
      have B0 := B3.trans (BW0.mono B3.size)
      clear y0 y1 y2 y3 z4 z5 fW00 eW0 BW0 B3 K KP K3
      refine wp_region_BT 6 (fun W => Below (W0).heap.size (W0) W) (by kernel_rfl) (by kernel_rfl) (by repeat (first | exact Below.refl _ _ | apply Below.drew)) ?_
      simp only [List.take_succ_cons, List.take_zero, List.drop_succ_cons, List.drop_zero]
      first | refine wpH_skip (by rfl) ?_ | (refine wpH_text (v := ?_) (by rfl) (fun W k1 => ?_) ?_; rotate_left; (obtain ⟨hc1, hf1⟩ := bcell k1;  go_simp; refine comes_v ?_; exact k1))
      (try simp only [Act.put, List.setIfInBounds_toArray, List.set_cons_zero, List.set_cons_succ])
      first | refine wpH_skip (by rfl) ?_ | (refine wpH_text (v := ?_) (by rfl) (fun W k1 => ?_) ?_; rotate_left; (obtain ⟨hc1, hf1⟩ := bcell k1;  go_simp; refine comes_v ?_; exact k1))
      (try simp only [Act.put, List.setIfInBounds_toArray, List.set_cons_zero, List.set_cons_succ])
      first | refine wpH_skip (by rfl) ?_ | (refine wpH_text (v := .agg #[.int .i64 t1, .int .i64 t2]) (by rfl) (fun W k1 => ?_) ?_; (obtain ⟨hc1, hf1⟩ := bcell k1;  go_simp; exact comes_c ( KT1.out _) (fun wn hbn => k1.trans (hbn.mono k1.size))))
      (try simp only [Act.put, List.setIfInBounds_toArray, List.set_cons_zero, List.set_cons_succ])
      first | refine wpH_skip (by rfl) ?_ | (refine wpH_text (v := ?_) (by rfl) (fun W k1 => ?_) ?_; rotate_left; (obtain ⟨hc1, hf1⟩ := bcell k1;  go_simp; refine comes_v ?_; exact k1))
      (try simp only [Act.put, List.setIfInBounds_toArray, List.set_cons_zero, List.set_cons_succ])
      first | refine wpH_skip (by rfl) ?_ | (refine wpH_text (v := .agg #[.int .i64 d1, .int .i64 d2]) (by rfl) (fun W k1 => ?_) ?_; (obtain ⟨hc1, hf1⟩ := bcell k1;  go_simp; exact comes_c ( KM1.out _) (fun wn hbn => k1.trans (hbn.mono k1.size))))
      (try simp only [Act.put, List.setIfInBounds_toArray, List.set_cons_zero, List.set_cons_succ])
      first | refine wpH_skip (by rfl) ?_ | (refine wpH_text (v := .int .i64 s1) (by rfl) (fun W k1 => ?_) ?_; (obtain ⟨hc1, hf1⟩ := bcell k1;  go_simp; exact comes_c ( KQ1.out _) (fun wn hbn => k1.trans (hbn.mono k1.size))))
      (try simp only [Act.put, List.setIfInBounds_toArray, List.set_cons_zero, List.set_cons_succ])
      refine wpH_nil ?_
      intro W k1; obtain ⟨hc1, hf1⟩ := bcell k1
      have B5 := B0.trans (k1.mono B0.size)
      have r2 := (hc1 _ 0 z6).trans x2
      have r3 := (hc1 _ 1 z6).trans x3
      have r4 := (hc1 _ 0 zW00).trans yW00_0
      have r5 := (hc1 _ 1 zW00).trans yW00_1
      have z8 : w1.heap.size < W.heap.size := by have := k1.size; omega
      have z9 : w3.heap.size < W.heap.size := by have := k1.size; omega
      clear hc1 hf1 x0 x1 x2 x3 yW00_0 yW00_1 zW00 z6 z7 B0 k1
      rename World => Wr
      go_wp2_with fail
      refine wp_region_BT 7 (fun W => Below (Wr).heap.size (Wr) W) (by kernel_rfl) (by kernel_rfl) (by repeat (first | exact Below.refl _ _ | apply Below.drew)) ?_
      simp only [List.take_succ_cons, List.take_zero, List.drop_succ_cons, List.drop_zero]
      first | refine wpH_skip (by rfl) ?_ | (refine wpH_text (v := ?_) (by rfl) (fun W k1 => ?_) ?_; rotate_left; (obtain ⟨hc1, hf1⟩ := bcell k1;  go_simp; refine comes_v ?_; exact k1))
      (try simp only [Act.put, List.setIfInBounds_toArray, List.set_cons_zero, List.set_cons_succ])
      first | refine wpH_skip (by rfl) ?_ | (refine wpH_text (v := ?_) (by rfl) (fun W k1 => ?_) ?_; rotate_left; (obtain ⟨hc1, hf1⟩ := bcell k1;  go_simp; refine comes_v ?_; exact k1))
      (try simp only [Act.put, List.setIfInBounds_toArray, List.set_cons_zero, List.set_cons_succ])
      first | refine wpH_skip (by rfl) ?_ | (refine wpH_text (v := ?_) (by rfl) (fun W k1 => ?_) ?_; rotate_left; (obtain ⟨hc1, hf1⟩ := bcell k1;  go_simp; refine comes_v ?_; exact k1))
      (try simp only [Act.put, List.setIfInBounds_toArray, List.set_cons_zero, List.set_cons_succ])
      first | refine wpH_skip (by rfl) ?_ | (refine wpH_text (v := .agg #[.int .i64 t3, .int .i64 t4]) (by rfl) (fun W k1 => ?_) ?_; (obtain ⟨hc1, hf1⟩ := bcell k1;  go_simp; exact comes_c ( KT2.out _) (fun wn hbn => k1.trans (hbn.mono k1.size))))
      (try simp only [Act.put, List.setIfInBounds_toArray, List.set_cons_zero, List.set_cons_succ])
      first | refine wpH_skip (by rfl) ?_ | (refine wpH_text (v := ?_) (by rfl) (fun W k1 => ?_) ?_; rotate_left; (obtain ⟨hc1, hf1⟩ := bcell k1;  go_simp; refine comes_v ?_; exact k1))
      (try simp only [Act.put, List.setIfInBounds_toArray, List.set_cons_zero, List.set_cons_succ])
      first | refine wpH_skip (by rfl) ?_ | (refine wpH_text (v := .agg #[.int .i64 d3, .int .i64 d4]) (by rfl) (fun W k1 => ?_) ?_; (obtain ⟨hc1, hf1⟩ := bcell k1;  go_simp; exact comes_c ( KM2.out _) (fun wn hbn => k1.trans (hbn.mono k1.size))))
      (try simp only [Act.put, List.setIfInBounds_toArray, List.set_cons_zero, List.set_cons_succ])
      first | refine wpH_skip (by rfl) ?_ | (refine wpH_text (v := .int .i64 s2) (by rfl) (fun W k1 => ?_) ?_; (obtain ⟨hc1, hf1⟩ := bcell k1;  go_simp; exact comes_c ( KQ2.out _) (fun wn hbn => k1.trans (hbn.mono k1.size))))
      (try simp only [Act.put, List.setIfInBounds_toArray, List.set_cons_zero, List.set_cons_succ])
      refine wpH_nil ?_
      intro W k1; obtain ⟨hc1, hf1⟩ := bcell k1
      have B6 := B5.trans (k1.mono B5.size)
      clear hc1 hf1
      go_wp2_with fail
      refine (KC.out _).mono ?_; rintro e _ ⟨rfl, rfl⟩
      go_wp2_with fail
      go_ret2
      exact ⟨rfl, B6⟩
    · have hpf : isPegB p1 p2 = false := by simpa using hp
      rw [hpf] at KP ⊢
      rw [Bool.and_false, isel_f]
      clear ht hR hp hpf htr
      go_enter Try.func46, Try.ntmps46
      go_wp2_with fail
      obtain ⟨Wa, hWa⟩ : ∃ Wa, Wa = (w.alloc (.cells #[.int .i64 p1, .int .i64 p2] 46)) := ⟨_, rfl⟩
      rw [← hWa]
      have yWa0_0 : Wa.cell? ⟨w.heap.size, 0, none⟩ = some (.int .i64 p1) := by rw [hWa]; go_simp
      have yWa0_1 : Wa.cell? ⟨w.heap.size, 1, none⟩ = some (.int .i64 p2) := by rw [hWa]; go_simp
      have fWa0 : ∀ o, Wa.frozen? ⟨w.heap.size, o, none⟩ = false := by intro o; rw [hWa]; (repeat rw [frozen?_alloc_cells]); simp [World.frozen?]
      have zWa0 : w.heap.size < Wa.heap.size := by rw [hWa]; simp <;> omega
      have BWa : Below w.heap.size w Wa := by rw [hWa]; exact (Below.alloc (Below.refl _ _) (by simp <;> omega) _)
      have eWa : Hid (Wa.heap.size = w.heap.size + 1) := Lib.hid (by rw [hWa]; simp)
      clear hWa
      refine (K.out _ BWa).mono ?_; rintro e w1 ⟨rfl, hb1⟩
      have B1 := BWa.trans (hb1.mono BWa.size)
      have y0 := ((bcell hb1).1 _ _ zWa0).trans yWa0_0
      have y1 := ((bcell hb1).1 _ _ zWa0).trans yWa0_1
      have z1 : w.heap.size < w1.heap.size := by have := hb1.size; omega
      clear yWa0_0 yWa0_1 fWa0 zWa0 eWa BWa hb1
      go_wp2_with fail
      obtain ⟨Wb, hWb⟩ : ∃ Wb, Wb = (w1.alloc (.cells #[.int .i64 a1, .int .i64 a2, .int .i64 b1, .int .i64 b2, .int .i64 c1, .int .i64 c2] 67)) := ⟨_, rfl⟩
      rw [← hWb]
      have yWb0_0 : Wb.cell? ⟨w1.heap.size, 0, none⟩ = some (.int .i64 a1) := by rw [hWb]; go_simp
      have yWb0_1 : Wb.cell? ⟨w1.heap.size, 1, none⟩ = some (.int .i64 a2) := by rw [hWb]; go_simp
      have yWb0_2 : Wb.cell? ⟨w1.heap.size, 2, none⟩ = some (.int .i64 b1) := by rw [hWb]; go_simp
      have yWb0_3 : Wb.cell? ⟨w1.heap.size, 3, none⟩ = some (.int .i64 b2) := by rw [hWb]; go_simp
      have yWb0_4 : Wb.cell? ⟨w1.heap.size, 4, none⟩ = some (.int .i64 c1) := by rw [hWb]; go_simp
      have yWb0_5 : Wb.cell? ⟨w1.heap.size, 5, none⟩ = some (.int .i64 c2) := by rw [hWb]; go_simp
      have fWb0 : ∀ o, Wb.frozen? ⟨w1.heap.size, o, none⟩ = false := by intro o; rw [hWb]; (repeat rw [frozen?_alloc_cells]); simp [World.frozen?]
      have zWb0 : w1.heap.size < Wb.heap.size := by rw [hWb]; simp <;> omega
      have BWb : Below w1.heap.size w1 Wb := by rw [hWb]; exact (Below.alloc (Below.refl _ _) (by simp <;> omega) _)
      have eWb : Hid (Wb.heap.size = w1.heap.size + 1) := Lib.hid (by rw [hWb]; simp)
      clear hWb
      refine (KP.out _).mono ?_; rintro e w2 ⟨rfl, hb2⟩
      have B2 := B1.trans ((BWb.trans (hb2.mono BWb.size)).mono B1.size)
      go_wp2_with fail
      go_ret2
      exact ⟨rfl, B2⟩
  · have K := Lib.hid (fun W (hb : Below w.heap.size w W) => threeOf_f A c l W hn (rd_more (rd_below hR hb (Nat.le_refl _)) hb.size) ht)
    have htf : tB l = false := by simpa using ht
    rw [htf, Bool.false_and, isel_f]
    clear ht htf hR
    go_enter Try.func46, Try.ntmps46
    go_wp2_with fail
    obtain ⟨Wa, hWa⟩ : ∃ Wa, Wa = (w.alloc (.cells #[.int .i64 p1, .int .i64 p2] 46)) := ⟨_, rfl⟩
    rw [← hWa]
    have yWa0_0 : Wa.cell? ⟨w.heap.size, 0, none⟩ = some (.int .i64 p1) := by rw [hWa]; go_simp
    have yWa0_1 : Wa.cell? ⟨w.heap.size, 1, none⟩ = some (.int .i64 p2) := by rw [hWa]; go_simp
    have fWa0 : ∀ o, Wa.frozen? ⟨w.heap.size, o, none⟩ = false := by intro o; rw [hWa]; (repeat rw [frozen?_alloc_cells]); simp [World.frozen?]
    have zWa0 : w.heap.size < Wa.heap.size := by rw [hWa]; simp <;> omega
    have BWa : Below w.heap.size w Wa := by rw [hWa]; exact (Below.alloc (Below.refl _ _) (by simp <;> omega) _)
    have eWa : Hid (Wa.heap.size = w.heap.size + 1) := Lib.hid (by rw [hWa]; simp)
    clear hWa
    refine (K.out _ BWa).mono ?_; rintro e w1 ⟨rfl, hb1⟩
    have B1 := BWa.trans (hb1.mono BWa.size)
    have BA := Below.alloc B1 B1.size (.cells #[.int .i64 0, .int .i64 0, .int .i64 0, .int .i64 0, .int .i64 0, .int .i64 0] 67)
    go_wp2_with fail
    go_ret2
    exact ⟨rfl, BA⟩
end Go.Proofs.Ytgjegildeejghaa
