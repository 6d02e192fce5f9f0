/- contracts: MoveCorners, on both sides -/
import Derived.Test.YtieimijkkjhegaaMh0
import Derived.Test.YtieimijkkjhegaaQg
import Derived.Test.YtieimijkkjhegaaLd2
namespace Go.Proofs.Ytieimijkkjhegaa
open Go.ChangeShapes Go.WideShapes Go.ChangeAt Go.RowKit Go.Joins
set_option linter.unusedVariables false
set_option linter.unusedSimpArgs false
set_option maxRecDepth 4000
theorem own6_only {w w' : World} {g lo B : Nat} {a b c d x y : Int} (h : Own6 w g a b c d x y) (ho : Only lo B w w') (hg : g < lo) : Own6 w' g a b c d x y := by
  obtain ⟨⟨h0, h1, h2, h3, h4, h5, h6⟩, hf⟩ := h
  have hb : w'.heap[g]? = w.heap[g]? := ho.block g (by omega)
  have k : ∀ o, w'.cell? ⟨g, o, none⟩ = w.cell? ⟨g, o, none⟩ := fun o => World.cell?_of_block hb
  have z : ∀ o, w'.frozen? ⟨g, o, none⟩ = w.frozen? ⟨g, o, none⟩ := fun o => World.frozen?_of_block hb
  exact ⟨⟨by rw [ho.size]; exact h0, (k _).trans h1, (k _).trans h2, (k _).trans h3, (k _).trans h4, (k _).trans h5, (k _).trans h6⟩, fun o => (z o).trans (hf o)⟩
set_option maxHeartbeats 2000000 in
theorem specMoveCorners_any (m1 m2 m3 m4 m5 m6 : Int) (A : Option Addr) (c : Nat) (l : List (Int × Int)) (w : World) (hn : l.length ≤ 1048576) (hcap : l.length ≤ c) (hc2 : c ≤ 9223372036854775807) (hR : Rd w w.heap.size A l) :
    Calls Try.prog 24 #[.agg #[.int .i64 m1, .int .i64 m2, .int .i64 m3, .int .i64 m4, .int .i64 m5, .int .i64 m6], .slice A l.length c] w (RetL w (sel (goodM m1 m2 m3 m4 m5 m6 && (goodB l && allB (mapF m1 m2 m3 m4 m5 m6 l) l.length)) (firsts (mapF m1 m2 m3 m4 m5 m6 l) l.length)) (goodM m1 m2 m3 m4 m5 m6 && (goodB l && allB (mapF m1 m2 m3 m4 m5 m6 l) l.length))) := by
  have K := Lib.hid (fun W => mvGood_any m1 m2 m3 m4 m5 m6 W)
  by_cases hg : goodM m1 m2 m3 m4 m5 m6 = true
  · obtain ⟨⟨⟨u1, u2⟩, ⟨u3, u4⟩, ⟨u5, u6⟩, ⟨u7, u8⟩⟩, ⟨u9, u10⟩, ⟨u11, u12⟩⟩ := good_bd hg
    rw [hg] at K ⊢
    rw [Bool.true_and]
    have KG := Lib.hid (fun W (hb : Below w.heap.size w W) => pgGood_any A c l W hn hcap hc2 (rd_more (rd_below hR hb (Nat.le_refl _)) hb.size))
    by_cases hgd : Good l
    · have hgt := goodB_true hgd
      rw [hgt] at KG ⊢
      rw [Bool.true_and]
      have KM := Lib.hid (fun W (hb : Below w.heap.size w W) => pgMap_any A c l m1 m2 m3 m4 m5 m6 W (good_pos hgd) hgd.few.2 hgd.pegs (rd_more (rd_below hR hb (Nat.le_refl _)) hb.size) (by omega) (by omega) (by omega) (by omega) (by omega) (by omega))
      generalize allB (mapF m1 m2 m3 m4 m5 m6 l) l.length = ok at *
      generalize firsts (mapF m1 m2 m3 m4 m5 m6 l) l.length = m at *
      clear hgt hgd hg hR u1 u2 u3 u4 u5 u6 u7 u8 u9 u10 u11 u12
      go_enter Try.func24, Try.ntmps24
      go_wp2_with fail
      obtain ⟨W0, hW0⟩ : ∃ W0, W0 = (w.alloc (.cells #[.int .i64 m1, .int .i64 m2, .int .i64 m3, .int .i64 m4, .int .i64 m5, .int .i64 m6] 37)) := ⟨_, rfl⟩
      rw [← hW0]
      have yW00_0 : W0.cell? ⟨w.heap.size, 0, none⟩ = some (.int .i64 m1) := by rw [hW0]; go_simp
      have yW00_1 : W0.cell? ⟨w.heap.size, 1, none⟩ = some (.int .i64 m2) := by rw [hW0]; go_simp
      have yW00_2 : W0.cell? ⟨w.heap.size, 2, none⟩ = some (.int .i64 m3) := by rw [hW0]; go_simp
      have yW00_3 : W0.cell? ⟨w.heap.size, 3, none⟩ = some (.int .i64 m4) := by rw [hW0]; go_simp
      have yW00_4 : W0.cell? ⟨w.heap.size, 4, none⟩ = some (.int .i64 m5) := by rw [hW0]; go_simp
      have yW00_5 : W0.cell? ⟨w.heap.size, 5, none⟩ = some (.int .i64 m6) := by rw [hW0]; go_simp
      have fW00 : ∀ o, W0.frozen? ⟨w.heap.size, o, none⟩ = false := by intro o; rw [hW0]; (repeat rw [frozen?_alloc_cells]); simp [World.frozen?]
      have zW00 : w.heap.size < W0.heap.size := by rw [hW0]; simp <;> omega
      have BW0 : Below w.heap.size w W0 := by rw [hW0]; exact (Below.alloc (Below.refl _ _) (by simp <;> omega) _)
      have eW0 : Hid (W0.heap.size = w.heap.size + 1) := Lib.hid (by rw [hW0]; simp)
      clear hW0
      have E6 := Lib.hid (show Own6 W0 (w.heap.size) m1 m2 m3 m4 m5 m6 from ⟨⟨zW00, yW00_0, yW00_1, yW00_2, yW00_3, yW00_4, yW00_5⟩, fW00⟩)
      clear zW00 fW00 yW00_0 yW00_1 yW00_2 yW00_3 yW00_4 yW00_5 eW0
      refine (K.out _).mono ?_; rintro e w1 ⟨rfl, hbw1⟩
      have Bw1 := BW0.trans (hbw1.mono BW0.size)
      have E6 := Lib.hid (own6_below E6.out hbw1 E6.out.1.1)
      clear hbw1 BW0
      go_wp2_with fail
      refine (KG.out _ Bw1).mono ?_; rintro e w2 ⟨rfl, hbw2⟩
      have Bw2 := Bw1.trans (hbw2.mono Bw1.size)
      have E6 := Lib.hid (own6_below E6.out hbw2 E6.out.1.1)
      clear hbw2 Bw1
      obtain ⟨⟨zp, cp0, cp1, cp2, cp3, cp4, cp5⟩, fp⟩ := E6.out
      unfold Fz at fp
      go_wp2_with fail
      clear zp fp cp0 cp1 cp2 cp3 cp4 cp5
      refine (KM.out w2 Bw2).mono ?_; rintro e w3 ⟨A2, c2, rfl, q1, q2, hb3, q3⟩
      go_wp2_with fail
      go_ret2
      exact retL_up Bw2 ⟨A2, c2, rfl, q1, q2, hb3, q3⟩
    · have hgf := goodB_false hgd
      rw [hgf] at KG ⊢
      rw [Bool.false_and]
      clear hgf hgd hg hR u1 u2 u3 u4 u5 u6 u7 u8 u9 u10 u11 u12
      go_enter Try.func24, Try.ntmps24
      go_wp2_with fail
      obtain ⟨W0, hW0⟩ : ∃ W0, W0 = (w.alloc (.cells #[.int .i64 m1, .int .i64 m2, .int .i64 m3, .int .i64 m4, .int .i64 m5, .int .i64 m6] 37)) := ⟨_, rfl⟩
      rw [← hW0]
      have yW00_0 : W0.cell? ⟨w.heap.size, 0, none⟩ = some (.int .i64 m1) := by rw [hW0]; go_simp
      have yW00_1 : W0.cell? ⟨w.heap.size, 1, none⟩ = some (.int .i64 m2) := by rw [hW0]; go_simp
      have yW00_2 : W0.cell? ⟨w.heap.size, 2, none⟩ = some (.int .i64 m3) := by rw [hW0]; go_simp
      have yW00_3 : W0.cell? ⟨w.heap.size, 3, none⟩ = some (.int .i64 m4) := by rw [hW0]; go_simp
      have yW00_4 : W0.cell? ⟨w.heap.size, 4, none⟩ = some (.int .i64 m5) := by rw [hW0]; go_simp
      have yW00_5 : W0.cell? ⟨w.heap.size, 5, none⟩ = some (.int .i64 m6) := by rw [hW0]; go_simp
      have fW00 : ∀ o, W0.frozen? ⟨w.heap.size, o, none⟩ = false := by intro o; rw [hW0]; (repeat rw [frozen?_alloc_cells]); simp [World.frozen?]
      have zW00 : w.heap.size < W0.heap.size := by rw [hW0]; simp <;> omega
      have BW0 : Below w.heap.size w W0 := by rw [hW0]; exact (Below.alloc (Below.refl _ _) (by simp <;> omega) _)
      have eW0 : Hid (W0.heap.size = w.heap.size + 1) := Lib.hid (by rw [hW0]; simp)
      clear hW0
      have E6 := Lib.hid (show Own6 W0 (w.heap.size) m1 m2 m3 m4 m5 m6 from ⟨⟨zW00, yW00_0, yW00_1, yW00_2, yW00_3, yW00_4, yW00_5⟩, fW00⟩)
      clear zW00 fW00 yW00_0 yW00_1 yW00_2 yW00_3 yW00_4 yW00_5 eW0
      refine (K.out _).mono ?_; rintro e w1 ⟨rfl, hbw1⟩
      have Bw1 := BW0.trans (hbw1.mono BW0.size)
      have E6 := Lib.hid (own6_below E6.out hbw1 E6.out.1.1)
      clear hbw1 BW0
      go_wp2_with fail
      refine (KG.out _ Bw1).mono ?_; rintro e w2 ⟨rfl, hbw2⟩
      have Bw2 := Bw1.trans (hbw2.mono Bw1.size)
      have E6 := Lib.hid (own6_below E6.out hbw2 E6.out.1.1)
      clear hbw2 Bw1
      go_wp2_with fail
      go_ret2
      exact retL_nil Bw2
  · have hg : goodM m1 m2 m3 m4 m5 m6 = false := by simpa using hg
    rw [hg] at K ⊢
    rw [Bool.false_and]
    clear hg hR
    go_enter Try.func24, Try.ntmps24
    go_wp2_with fail
    obtain ⟨W0, hW0⟩ : ∃ W0, W0 = (w.alloc (.cells #[.int .i64 m1, .int .i64 m2, .int .i64 m3, .int .i64 m4, .int .i64 m5, .int .i64 m6] 37)) := ⟨_, rfl⟩
    rw [← hW0]
    have yW00_0 : W0.cell? ⟨w.heap.size, 0, none⟩ = some (.int .i64 m1) := by rw [hW0]; go_simp
    have yW00_1 : W0.cell? ⟨w.heap.size, 1, none⟩ = some (.int .i64 m2) := by rw [hW0]; go_simp
    have yW00_2 : W0.cell? ⟨w.heap.size, 2, none⟩ = some (.int .i64 m3) := by rw [hW0]; go_simp
    have yW00_3 : W0.cell? ⟨w.heap.size, 3, none⟩ = some (.int .i64 m4) := by rw [hW0]; go_simp
    have yW00_4 : W0.cell? ⟨w.heap.size, 4, none⟩ = some (.int .i64 m5) := by rw [hW0]; go_simp
    have yW00_5 : W0.cell? ⟨w.heap.size, 5, none⟩ = some (.int .i64 m6) := by rw [hW0]; go_simp
    have fW00 : ∀ o, W0.frozen? ⟨w.heap.size, o, none⟩ = false := by intro o; rw [hW0]; (repeat rw [frozen?_alloc_cells]); simp [World.frozen?]
    have zW00 : w.heap.size < W0.heap.size := by rw [hW0]; simp <;> omega
    have BW0 : Below w.heap.size w W0 := by rw [hW0]; exact (Below.alloc (Below.refl _ _) (by simp <;> omega) _)
    have eW0 : Hid (W0.heap.size = w.heap.size + 1) := Lib.hid (by rw [hW0]; simp)
    clear hW0
    have E6 := Lib.hid (show Own6 W0 (w.heap.size) m1 m2 m3 m4 m5 m6 from ⟨⟨zW00, yW00_0, yW00_1, yW00_2, yW00_3, yW00_4, yW00_5⟩, fW00⟩)
    clear zW00 fW00 yW00_0 yW00_1 yW00_2 yW00_3 yW00_4 yW00_5 eW0
    refine (K.out _).mono ?_; rintro e w1 ⟨rfl, hbw1⟩
    have Bw1 := BW0.trans (hbw1.mono BW0.size)
    have E6 := Lib.hid (own6_below E6.out hbw1 E6.out.1.1)
    clear hbw1 BW0
    go_wp2_with fail
    go_ret2
    exact retL_nil Bw1
set_option maxHeartbeats 2000000 in
theorem implMoveCorners_any (m1 m2 m3 m4 m5 m6 : Int) (A : Option Addr) (c : Nat) (l : List (Int × Int)) (w : World) (hn : l.length ≤ 1048576) (hR : Rd w w.heap.size A l) :
    Calls Try.prog 26 #[.agg #[.int .i64 m1, .int .i64 m2, .int .i64 m3, .int .i64 m4, .int .i64 m5, .int .i64 m6], .slice A l.length c] w (RetL w (sel (goodM m1 m2 m3 m4 m5 m6 && (goodB l && allB (mapF m1 m2 m3 m4 m5 m6 l) l.length)) (firsts (mapF m1 m2 m3 m4 m5 m6 l) l.length)) (goodM m1 m2 m3 m4 m5 m6 && (goodB l && allB (mapF m1 m2 m3 m4 m5 m6 l) l.length))) := by
  have K := Lib.hid (fun W => implIsMove_any m1 m2 m3 m4 m5 m6 W)
  by_cases hg : goodM m1 m2 m3 m4 m5 m6 = true
  · obtain ⟨⟨⟨u1, u2⟩, ⟨u3, u4⟩, ⟨u5, u6⟩, ⟨u7, u8⟩⟩, ⟨u9, u10⟩, ⟨u11, u12⟩⟩ := good_bd hg
    rw [hg] at K ⊢
    rw [Bool.true_and]
    have KW := Lib.hid (fun W => whole_any m1 m2 m3 m4 m5 m6 W)
    have KM := Lib.hid (fun W (hb : Below w.heap.size w W) => bringCornersB_any A c l 73 #[.agg #[.int .i64 m1, .int .i64 m2, .int .i64 m3, .int .i64 m4, .int .i64 m5, .int .i64 m6]] #[] (mapF m1 m2 m3 m4 m5 m6 l) W hn (rd_more (rd_below hR hb (Nat.le_refl _)) hb.size) Try.call73 (fun hgd i hi W' hb' => by
      have hp := hgd.pegs i hi
      unfold isPg isPegB at hp
      simp only [Bool.and_eq_true, decide_eq_true_eq] at hp
      exact bring_any m1 m2 m3 m4 m5 m6 (vx l i).1 (vx l i).2 W' (by omega) (by omega) (by omega) (by omega) (by omega) (by omega) (by omega) (by omega)))
    generalize (goodB l && allB (mapF m1 m2 m3 m4 m5 m6 l) l.length) = ok at *
    generalize firsts (mapF m1 m2 m3 m4 m5 m6 l) l.length = m at *
    clear hg hR u1 u2 u3 u4 u5 u6 u7 u8 u9 u10 u11 u12
    go_enter Try.func26, Try.ntmps26
    go_wp2_with fail
    obtain ⟨W0, hW0⟩ : ∃ W0, W0 = (w.alloc (.cells #[.int .i64 m1, .int .i64 m2, .int .i64 m3, .int .i64 m4, .int .i64 m5, .int .i64 m6] 37)) := ⟨_, rfl⟩
    rw [← hW0]
    have yW00_0 : W0.cell? ⟨w.heap.size, 0, none⟩ = some (.int .i64 m1) := by rw [hW0]; go_simp
    have yW00_1 : W0.cell? ⟨w.heap.size, 1, none⟩ = some (.int .i64 m2) := by rw [hW0]; go_simp
    have yW00_2 : W0.cell? ⟨w.heap.size, 2, none⟩ = some (.int .i64 m3) := by rw [hW0]; go_simp
    have yW00_3 : W0.cell? ⟨w.heap.size, 3, none⟩ = some (.int .i64 m4) := by rw [hW0]; go_simp
    have yW00_4 : W0.cell? ⟨w.heap.size, 4, none⟩ = some (.int .i64 m5) := by rw [hW0]; go_simp
    have yW00_5 : W0.cell? ⟨w.heap.size, 5, none⟩ = some (.int .i64 m6) := by rw [hW0]; go_simp
    have fW00 : ∀ o, W0.frozen? ⟨w.heap.size, o, none⟩ = false := by intro o; rw [hW0]; (repeat rw [frozen?_alloc_cells]); simp [World.frozen?]
    have zW00 : w.heap.size < W0.heap.size := by rw [hW0]; simp <;> omega
    have BW0 : Below w.heap.size w W0 := by rw [hW0]; exact (Below.alloc (Below.refl _ _) (by simp <;> omega) _)
    have eW0 : Hid (W0.heap.size = w.heap.size + 1) := Lib.hid (by rw [hW0]; simp)
    clear hW0
    have E6 := Lib.hid (show Own6 W0 (w.heap.size) m1 m2 m3 m4 m5 m6 from ⟨⟨zW00, yW00_0, yW00_1, yW00_2, yW00_3, yW00_4, yW00_5⟩, fW00⟩)
    clear zW00 fW00 yW00_0 yW00_1 yW00_2 yW00_3 yW00_4 yW00_5 eW0
    refine (K.out _).mono ?_; rintro e w1 ⟨rfl, hbw1⟩
    have Bw1 := BW0.trans (hbw1.mono BW0.size)
    have E6 := Lib.hid (own6_below E6.out hbw1 E6.out.1.1)
    clear hbw1 BW0
    obtain ⟨⟨zp, cp0, cp1, cp2, cp3, cp4, cp5⟩, fp⟩ := E6.out
    unfold Fz at fp
    go_wp2_with fail
    clear zp fp cp0 cp1 cp2 cp3 cp4 cp5
    refine (KW.out _).mono ?_; rintro e w2 ⟨rfl, hbw2⟩
    have Bw2 := Bw1.trans (hbw2.mono Bw1.size)
    clear hbw2 Bw1
    go_wp2_with fail
    refine (KM.out w2 Bw2).mono ?_; rintro e w3 ⟨A2, c2, rfl, q1, q2, hb3, q3⟩
    go_wp2_with fail
    go_ret2
    exact retL_up Bw2 ⟨A2, c2, rfl, q1, q2, hb3, q3⟩
  · have hg : goodM m1 m2 m3 m4 m5 m6 = false := by simpa using hg
    rw [hg] at K ⊢
    rw [Bool.false_and]
    clear hg hR
    go_enter Try.func26, Try.ntmps26
    go_wp2_with fail
    obtain ⟨W0, hW0⟩ : ∃ W0, W0 = (w.alloc (.cells #[.int .i64 m1, .int .i64 m2, .int .i64 m3, .int .i64 m4, .int .i64 m5, .int .i64 m6] 37)) := ⟨_, rfl⟩
    rw [← hW0]
    have yW00_0 : W0.cell? ⟨w.heap.size, 0, none⟩ = some (.int .i64 m1) := by rw [hW0]; go_simp
    have yW00_1 : W0.cell? ⟨w.heap.size, 1, none⟩ = some (.int .i64 m2) := by rw [hW0]; go_simp
    have yW00_2 : W0.cell? ⟨w.heap.size, 2, none⟩ = some (.int .i64 m3) := by rw [hW0]; go_simp
    have yW00_3 : W0.cell? ⟨w.heap.size, 3, none⟩ = some (.int .i64 m4) := by rw [hW0]; go_simp
    have yW00_4 : W0.cell? ⟨w.heap.size, 4, none⟩ = some (.int .i64 m5) := by rw [hW0]; go_simp
    have yW00_5 : W0.cell? ⟨w.heap.size, 5, none⟩ = some (.int .i64 m6) := by rw [hW0]; go_simp
    have fW00 : ∀ o, W0.frozen? ⟨w.heap.size, o, none⟩ = false := by intro o; rw [hW0]; (repeat rw [frozen?_alloc_cells]); simp [World.frozen?]
    have zW00 : w.heap.size < W0.heap.size := by rw [hW0]; simp <;> omega
    have BW0 : Below w.heap.size w W0 := by rw [hW0]; exact (Below.alloc (Below.refl _ _) (by simp <;> omega) _)
    have eW0 : Hid (W0.heap.size = w.heap.size + 1) := Lib.hid (by rw [hW0]; simp)
    clear hW0
    have E6 := Lib.hid (show Own6 W0 (w.heap.size) m1 m2 m3 m4 m5 m6 from ⟨⟨zW00, yW00_0, yW00_1, yW00_2, yW00_3, yW00_4, yW00_5⟩, fW00⟩)
    clear zW00 fW00 yW00_0 yW00_1 yW00_2 yW00_3 yW00_4 yW00_5 eW0
    refine (K.out _).mono ?_; rintro e w1 ⟨rfl, hbw1⟩
    have Bw1 := BW0.trans (hbw1.mono BW0.size)
    have E6 := Lib.hid (own6_below E6.out hbw1 E6.out.1.1)
    clear hbw1 BW0
    go_wp2_with fail
    go_ret2
    exact retL_nil Bw1
end Go.Proofs.Ytieimijkkjhegaa
