/- joined: Ld2 Mk Wq6 Km Lx Kh Lw -/
import Derived.Test.YtheddoinnakneaaZFlatPolygon9
import Derived.LoopTactic
/- contract: the program's corners brought elsewhere by a method of a value -/
namespace Go.Proofs.Ytheddoinnakneaa
open Go.ChangeShapes Go.WideShapes Go.ChangeAt Go.RowKit Go.Joins
set_option linter.unusedVariables false
set_option linter.unusedSimpArgs false
set_option maxRecDepth 4000
set_option maxHeartbeats 4000000 in
theorem bringCornersB_any (A : Option Addr) (c : Nat) (l : List (Int × Int)) (fid : Nat) (pre cap : Array Value) (f : Nat → Int × Int) (w : World) (hn : l.length ≤ 1048576) (hR : Rd w w.heap.size A l)
    (hcf : ∀ args W, (callFunc fid args).run Try.prog W = .ok (Next.enter fid args) W)
    (hK : Good l → ∀ i, i < l.length → ∀ W, Below w.heap.size w W → Calls Try.prog fid (pre ++ #[.agg #[.int .i64 (vx l i).1, .int .i64 (vx l i).2]] ++ cap) W fun e w' => e = .returned (.agg #[.int .i64 (f i).1, .int .i64 (f i).2]) ∧ Below W.heap.size W w') :
    Calls Try.prog 106 #[.slice A l.length c, .func (.func fid) pre cap] w (RetL w (sel (goodB l && allB f l.length) (firsts f l.length)) (goodB l && allB f l.length)) := by
  have K := Lib.hid (implIsPolygon_any A c l w hn hR)
  by_cases hgd : Good l
  · have hgt := goodB_true hgd
    rw [hgt] at K ⊢
    rw [Bool.true_and]
    obtain ⟨i0, hi0, hz0, hz1, hz2⟩ := info_parts peg_info
    have h10 := hgd.few
    have hmk := fun W => run_make (P := Try.prog) W 26 56 i0 _ Try.underlying26 hi0 hz0 .i64 .i64 (l.length : Int) (l.length : Int) (by omega) (by omega) (by rw [hz2]; omega) (by omega)
    obtain ⟨b, off, rfl, hb, HC⟩ := pts_of (by omega) hR
    have HF := Lib.hid (hK hgd)
    have KA := Lib.hid (fun W g (h : Set W g l.length l.length (firsts f l.length)) => (show Calls Try.prog 86 #[.slice (some ⟨g, 0, none⟩) l.length l.length] W fun e w' => e = .returned (.bool (allB f l.length)) ∧ Below W.heap.size W w' from by
      have := arePegs_any (some ⟨g, 0, none⟩) l.length (firsts f l.length) W (by rw [firsts_len]; exact hn) (rd_of_set (by rw [firsts_len]; exact h))
      rw [firsts_len] at this
      exact this))
    obtain ⟨n3, n10⟩ := h10
    clear hgd hgt hR hK hn
    generalize hN : l.length = n at *
    have HN := Lib.hid hN
    clear hN
    go_enter Try.func106, Try.ntmps106
    go_wp2_with fail
    refine K.out.mono ?_; rintro e w1 ⟨rfl, hb1⟩
    have HS := Lib.hid (set_new w1 56 n (firsts f n))
    have hw1 := hb1.size
    have hB0 := Below.alloc hb1 hw1 (.cells (madeCells #[.int .i64 0, .int .i64 0] (n * 2)) 56)
    go_wp2_with fail
    clear hmk
    go_loopg [17] n (fun g i wr => ∃ k : Nat, k ≤ n ∧ g = n - k ∧ i = .int .i64 k ∧ Below w.heap.size w wr ∧ Hid (Set wr w1.heap.size n k (firsts f n)))
    case atStart => exact ⟨0, Nat.zero_le _, rfl, rfl, hB0, HS⟩
    case round =>
      clear hB0 HS hb1
      obtain ⟨k, hk, hg, rfl, hB, hS⟩ := hrel
      rename World => wo
      have HGK := Lib.hid hg
      clear hg
      by_cases hlt : k < n
      · have hq := HC.out wo hB k hlt
        have hzB := hB.size
        have S0 := set_below hS.out (Below.alloc (Below.refl _ _) (Nat.le_refl _) (.cells #[.int .i64 (vx l k).1, .int .i64 (vx l k).2] 56))
        have B0 := Below.alloc hB hzB (.cells #[.int .i64 (vx l k).1, .int .i64 (vx l k).2] 56)
        have KF := Lib.hid (HF.out k hlt _ B0)
        have S0H := Lib.hid S0
        clear S0 hS
        go_wp2_with fail
        refine KF.out.mono ?_; rintro e w2 ⟨rfl, hb2⟩
        have B2 := B0.trans (hb2.mono B0.size)
        have S2 := set_below S0H.out hb2
        obtain ⟨g1, g2, g3⟩ := S2
        obtain ⟨⟨u1, d1⟩, ⟨u2, d2⟩, d3, d4⟩ := g2 k hlt
        have S3 := Lib.hid (set_store (show Set w2 w1.heap.size n k (firsts f n) from ⟨g1, g2, g3⟩) hlt (firsts_get f n k hlt))
        have B3 := Lib.hid ((B2.setCell (p := ⟨w1.heap.size, k * 2, none⟩) hw1 (.int .i64 (f k).1)).setCell (p := ⟨w1.heap.size, k * 2 + 1, none⟩) hw1 (.int .i64 (f k).2))
        clear g2 g3 S0H KF B0 B2 hq hb2
        go_wp2_with fail
        go_roundg (n - (k + 1))
        case measure => have := HGK.out; omega
        case rel => exact ⟨k + 1, by omega, rfl, by go_num, B3.out, S3⟩
      · have hkn : n = k := by omega
        subst hkn
        have KB := Lib.hid (KA.out _ _ hS.out)
        have hzB := hB.size
        cases hab : allB f n
        · rw [hab] at KB
          have HAB := Lib.hid hab
          clear hab
          go_wp2_with fail
          refine KB.out.mono ?_; rintro e w2 ⟨rfl, hb2⟩
          have B2 := hB.trans (hb2.mono hzB)
          go_wp2_with fail
          go_ret2
          rw [HAB.out]
          exact retL_nil B2
        · rw [hab] at KB
          have HAB := Lib.hid hab
          clear hab
          go_wp2_with fail
          refine KB.out.mono ?_; rintro e w2 ⟨rfl, hb2⟩
          have B2 := hB.trans (hb2.mono hzB)
          have S2 := Lib.hid (set_below hS.out hb2)
          go_wp2_with fail
          go_ret2
          rw [HAB.out]
          exact retL_of_set (W := w) S2.out B2 (by omega) hw1
  · have hgf := goodB_false hgd
    rw [hgf] at K ⊢
    rw [Bool.false_and]
    clear hgf hgd hR hK
    go_enter Try.func106, Try.ntmps106
    go_wp2_with fail
    refine K.out.mono ?_; rintro e w1 ⟨rfl, hb1⟩
    go_wp2_with fail
    go_ret2
    exact retL_nil hb1
end Go.Proofs.Ytheddoinnakneaa
/- contracts: MoveCorners, on both sides -/
namespace Go.Proofs.Ytheddoinnakneaa
open Go.ChangeShapes Go.WideShapes Go.ChangeAt Go.RowKit Go.Joins
set_option linter.unusedVariables false
set_option linter.unusedSimpArgs false
set_option maxRecDepth 4000
theorem own6_only {w w' : World} {g lo B : Nat} {a b c d x y : Int} (h : Own6 w g a b c d x y) (ho : Only lo B w w') (hg : g < lo) : Own6 w' g a b c d x y := by
  obtain ⟨⟨h0, h1, h2, h3, h4, h5, h6⟩, hf⟩ := h
  have hb : w'.heap[g]? = w.heap[g]? := ho.block g (by omega)
  have k : ∀ o, w'.cell? ⟨g, o, none⟩ = w.cell? ⟨g, o, none⟩ := fun o => World.cell?_of_block hb
  have z : ∀ o, w'.frozen? ⟨g, o, none⟩ = w.frozen? ⟨g, o, none⟩ := fun o => World.frozen?_of_block hb
  exact ⟨⟨by rw [ho.size]; exact h0, (k _).trans h1, (k _).trans h2, (k _).trans h3, (k _).trans h4, (k _).trans h5, (k _).trans h6⟩, fun o => (z o).trans (hf o)⟩
set_option maxHeartbeats 2000000 in
theorem specMoveCorners_any (m1 m2 m3 m4 m5 m6 : Int) (A : Option Addr) (c : Nat) (l : List (Int × Int)) (w : World) (hn : l.length ≤ 1048576) (hcap : l.length ≤ c) (hc2 : c ≤ 9223372036854775807) (hR : Rd w w.heap.size A l) :
    Calls Try.prog 66 #[.agg #[.int .i64 m1, .int .i64 m2, .int .i64 m3, .int .i64 m4, .int .i64 m5, .int .i64 m6], .slice A l.length c] w (RetL w (sel (goodM m1 m2 m3 m4 m5 m6 && (goodB l && allB (mapF m1 m2 m3 m4 m5 m6 l) l.length)) (firsts (mapF m1 m2 m3 m4 m5 m6 l) l.length)) (goodM m1 m2 m3 m4 m5 m6 && (goodB l && allB (mapF m1 m2 m3 m4 m5 m6 l) l.length))) := by
  have K := Lib.hid (fun W => mvGood_any m1 m2 m3 m4 m5 m6 W)
  by_cases hg : goodM m1 m2 m3 m4 m5 m6 = true
  · obtain ⟨⟨⟨u1, u2⟩, ⟨u3, u4⟩, ⟨u5, u6⟩, ⟨u7, u8⟩⟩, ⟨u9, u10⟩, ⟨u11, u12⟩⟩ := good_bd hg
    rw [hg] at K ⊢
    rw [Bool.true_and]
    have KG := Lib.hid (fun W (hb : Below w.heap.size w W) => pgGood_any A c l W hn hcap hc2 (rd_more (rd_below hR hb (Nat.le_refl _)) hb.size))
    by_cases hgd : Good l
    · have hgt := goodB_true hgd
      rw [hgt] at KG ⊢
      rw [Bool.true_and]
      have KM := Lib.hid (fun W (hb : Below w.heap.size w W) => pgMap_any A c l m1 m2 m3 m4 m5 m6 W (good_pos hgd) hgd.few.2 hgd.pegs (rd_more (rd_below hR hb (Nat.le_refl _)) hb.size) (by omega) (by omega) (by omega) (by omega) (by omega) (by omega))
      generalize allB (mapF m1 m2 m3 m4 m5 m6 l) l.length = ok at *
      generalize firsts (mapF m1 m2 m3 m4 m5 m6 l) l.length = m at *
      clear hgt hgd hg hR u1 u2 u3 u4 u5 u6 u7 u8 u9 u10 u11 u12
      go_enter Try.func66, Try.ntmps66
      go_wp2_with fail
      obtain ⟨W0, hW0⟩ : ∃ W0, W0 = (w.alloc (.cells #[.int .i64 m1, .int .i64 m2, .int .i64 m3, .int .i64 m4, .int .i64 m5, .int .i64 m6] 41)) := ⟨_, rfl⟩
      rw [← hW0]
      have yW00_0 : W0.cell? ⟨w.heap.size, 0, none⟩ = some (.int .i64 m1) := by rw [hW0]; go_simp
      have yW00_1 : W0.cell? ⟨w.heap.size, 1, none⟩ = some (.int .i64 m2) := by rw [hW0]; go_simp
      have yW00_2 : W0.cell? ⟨w.heap.size, 2, none⟩ = some (.int .i64 m3) := by rw [hW0]; go_simp
      have yW00_3 : W0.cell? ⟨w.heap.size, 3, none⟩ = some (.int .i64 m4) := by rw [hW0]; go_simp
      have yW00_4 : W0.cell? ⟨w.heap.size, 4, none⟩ = some (.int .i64 m5) := by rw [hW0]; go_simp
      have yW00_5 : W0.cell? ⟨w.heap.size, 5, none⟩ = some (.int .i64 m6) := by rw [hW0]; go_simp
      have fW00 : ∀ o, W0.frozen? ⟨w.heap.size, o, none⟩ = false := by intro o; rw [hW0]; (repeat rw [frozen?_alloc_cells]); simp [World.frozen?]
      have zW00 : w.heap.size < W0.heap.size := by rw [hW0]; simp <;> omega
      have BW0 : Below w.heap.size w W0 := by rw [hW0]; exact (Below.alloc (Below.refl _ _) (by simp <;> omega) _)
      have eW0 : Hid (W0.heap.size = w.heap.size + 1) := Lib.hid (by rw [hW0]; simp)
      clear hW0
      have E6 := Lib.hid (show Own6 W0 (w.heap.size) m1 m2 m3 m4 m5 m6 from ⟨⟨zW00, yW00_0, yW00_1, yW00_2, yW00_3, yW00_4, yW00_5⟩, fW00⟩)
      clear zW00 fW00 yW00_0 yW00_1 yW00_2 yW00_3 yW00_4 yW00_5 eW0
      refine (K.out _).mono ?_; rintro e w1 ⟨rfl, hbw1⟩
      have Bw1 := BW0.trans (hbw1.mono BW0.size)
      have E6 := Lib.hid (own6_below E6.out hbw1 E6.out.1.1)
      clear hbw1 BW0
      go_wp2_with fail
      refine (KG.out _ Bw1).mono ?_; rintro e w2 ⟨rfl, hbw2⟩
      have Bw2 := Bw1.trans (hbw2.mono Bw1.size)
      have E6 := Lib.hid (own6_below E6.out hbw2 E6.out.1.1)
      clear hbw2 Bw1
      obtain ⟨⟨zp, cp0, cp1, cp2, cp3, cp4, cp5⟩, fp⟩ := E6.out
      unfold Fz at fp
      go_wp2_with fail
      clear zp fp cp0 cp1 cp2 cp3 cp4 cp5
      refine (KM.out w2 Bw2).mono ?_; rintro e w3 ⟨A2, c2, rfl, q1, q2, hb3, q3⟩
      go_wp2_with fail
      go_ret2
      exact retL_up Bw2 ⟨A2, c2, rfl, q1, q2, hb3, q3⟩
    · have hgf := goodB_false hgd
      rw [hgf] at KG ⊢
      rw [Bool.false_and]
      clear hgf hgd hg hR u1 u2 u3 u4 u5 u6 u7 u8 u9 u10 u11 u12
      go_enter Try.func66, Try.ntmps66
      go_wp2_with fail
      obtain ⟨W0, hW0⟩ : ∃ W0, W0 = (w.alloc (.cells #[.int .i64 m1, .int .i64 m2, .int .i64 m3, .int .i64 m4, .int .i64 m5, .int .i64 m6] 41)) := ⟨_, rfl⟩
      rw [← hW0]
      have yW00_0 : W0.cell? ⟨w.heap.size, 0, none⟩ = some (.int .i64 m1) := by rw [hW0]; go_simp
      have yW00_1 : W0.cell? ⟨w.heap.size, 1, none⟩ = some (.int .i64 m2) := by rw [hW0]; go_simp
      have yW00_2 : W0.cell? ⟨w.heap.size, 2, none⟩ = some (.int .i64 m3) := by rw [hW0]; go_simp
      have yW00_3 : W0.cell? ⟨w.heap.size, 3, none⟩ = some (.int .i64 m4) := by rw [hW0]; go_simp
      have yW00_4 : W0.cell? ⟨w.heap.size, 4, none⟩ = some (.int .i64 m5) := by rw [hW0]; go_simp
      have yW00_5 : W0.cell? ⟨w.heap.size, 5, none⟩ = some (.int .i64 m6) := by rw [hW0]; go_simp
      have fW00 : ∀ o, W0.frozen? ⟨w.heap.size, o, none⟩ = false := by intro o; rw [hW0]; (repeat rw [frozen?_alloc_cells]); simp [World.frozen?]
      have zW00 : w.heap.size < W0.heap.size := by rw [hW0]; simp <;> omega
      have BW0 : Below w.heap.size w W0 := by rw [hW0]; exact (Below.alloc (Below.refl _ _) (by simp <;> omega) _)
      have eW0 : Hid (W0.heap.size = w.heap.size + 1) := Lib.hid (by rw [hW0]; simp)
      clear hW0
      have E6 := Lib.hid (show Own6 W0 (w.heap.size) m1 m2 m3 m4 m5 m6 from ⟨⟨zW00, yW00_0, yW00_1, yW00_2, yW00_3, yW00_4, yW00_5⟩, fW00⟩)
      clear zW00 fW00 yW00_0 yW00_1 yW00_2 yW00_3 yW00_4 yW00_5 eW0
      refine (K.out _).mono ?_; rintro e w1 ⟨rfl, hbw1⟩
      have Bw1 := BW0.trans (hbw1.mono BW0.size)
      have E6 := Lib.hid (own6_below E6.out hbw1 E6.out.1.1)
      clear hbw1 BW0
      go_wp2_with fail
      refine (KG.out _ Bw1).mono ?_; rintro e w2 ⟨rfl, hbw2⟩
      have Bw2 := Bw1.trans (hbw2.mono Bw1.size)
      have E6 := Lib.hid (own6_below E6.out hbw2 E6.out.1.1)
      clear hbw2 Bw1
      go_wp2_with fail
      go_ret2
      exact retL_nil Bw2
  · have hg : goodM m1 m2 m3 m4 m5 m6 = false := by simpa using hg
    rw [hg] at K ⊢
    rw [Bool.false_and]
    clear hg hR
    go_enter Try.func66, Try.ntmps66
    go_wp2_with fail
    obtain ⟨W0, hW0⟩ : ∃ W0, W0 = (w.alloc (.cells #[.int .i64 m1, .int .i64 m2, .int .i64 m3, .int .i64 m4, .int .i64 m5, .int .i64 m6] 41)) := ⟨_, rfl⟩
    rw [← hW0]
    have yW00_0 : W0.cell? ⟨w.heap.size, 0, none⟩ = some (.int .i64 m1) := by rw [hW0]; go_simp
    have yW00_1 : W0.cell? ⟨w.heap.size, 1, none⟩ = some (.int .i64 m2) := by rw [hW0]; go_simp
    have yW00_2 : W0.cell? ⟨w.heap.size, 2, none⟩ = some (.int .i64 m3) := by rw [hW0]; go_simp
    have yW00_3 : W0.cell? ⟨w.heap.size, 3, none⟩ = some (.int .i64 m4) := by rw [hW0]; go_simp
    have yW00_4 : W0.cell? ⟨w.heap.size, 4, none⟩ = some (.int .i64 m5) := by rw [hW0]; go_simp
    have yW00_5 : W0.cell? ⟨w.heap.size, 5, none⟩ = some (.int .i64 m6) := by rw [hW0]; go_simp
    have fW00 : ∀ o, W0.frozen? ⟨w.heap.size, o, none⟩ = false := by intro o; rw [hW0]; (repeat rw [frozen?_alloc_cells]); simp [World.frozen?]
    have zW00 : w.heap.size < W0.heap.size := by rw [hW0]; simp <;> omega
    have BW0 : Below w.heap.size w W0 := by rw [hW0]; exact (Below.alloc (Below.refl _ _) (by simp <;> omega) _)
    have eW0 : Hid (W0.heap.size = w.heap.size + 1) := Lib.hid (by rw [hW0]; simp)
    clear hW0
    have E6 := Lib.hid (show Own6 W0 (w.heap.size) m1 m2 m3 m4 m5 m6 from ⟨⟨zW00, yW00_0, yW00_1, yW00_2, yW00_3, yW00_4, yW00_5⟩, fW00⟩)
    clear zW00 fW00 yW00_0 yW00_1 yW00_2 yW00_3 yW00_4 yW00_5 eW0
    refine (K.out _).mono ?_; rintro e w1 ⟨rfl, hbw1⟩
    have Bw1 := BW0.trans (hbw1.mono BW0.size)
    have E6 := Lib.hid (own6_below E6.out hbw1 E6.out.1.1)
    clear hbw1 BW0
    go_wp2_with fail
    go_ret2
    exact retL_nil Bw1
set_option maxHeartbeats 2000000 in
theorem implMoveCorners_any (m1 m2 m3 m4 m5 m6 : Int) (A : Option Addr) (c : Nat) (l : List (Int × Int)) (w : World) (hn : l.length ≤ 1048576) (hR : Rd w w.heap.size A l) :
    Calls Try.prog 67 #[.agg #[.int .i64 m1, .int .i64 m2, .int .i64 m3, .int .i64 m4, .int .i64 m5, .int .i64 m6], .slice A l.length c] w (RetL w (sel (goodM m1 m2 m3 m4 m5 m6 && (goodB l && allB (mapF m1 m2 m3 m4 m5 m6 l) l.length)) (firsts (mapF m1 m2 m3 m4 m5 m6 l) l.length)) (goodM m1 m2 m3 m4 m5 m6 && (goodB l && allB (mapF m1 m2 m3 m4 m5 m6 l) l.length))) := by
  have K := Lib.hid (fun W => implIsMove_any m1 m2 m3 m4 m5 m6 W)
  by_cases hg : goodM m1 m2 m3 m4 m5 m6 = true
  · obtain ⟨⟨⟨u1, u2⟩, ⟨u3, u4⟩, ⟨u5, u6⟩, ⟨u7, u8⟩⟩, ⟨u9, u10⟩, ⟨u11, u12⟩⟩ := good_bd hg
    rw [hg] at K ⊢
    rw [Bool.true_and]
    have KW := Lib.hid (fun W => whole_any m1 m2 m3 m4 m5 m6 W)
    have KM := Lib.hid (fun W (hb : Below w.heap.size w W) => bringCornersB_any A c l 108 #[.agg #[.int .i64 m1, .int .i64 m2, .int .i64 m3, .int .i64 m4, .int .i64 m5, .int .i64 m6]] #[] (mapF m1 m2 m3 m4 m5 m6 l) W hn (rd_more (rd_below hR hb (Nat.le_refl _)) hb.size) Try.call108 (fun hgd i hi W' hb' => by
      have hp := hgd.pegs i hi
      unfold isPg isPegB at hp
      simp only [Bool.and_eq_true, decide_eq_true_eq] at hp
      exact bring_any m1 m2 m3 m4 m5 m6 (vx l i).1 (vx l i).2 W' (by omega) (by omega) (by omega) (by omega) (by omega) (by omega) (by omega) (by omega)))
    generalize (goodB l && allB (mapF m1 m2 m3 m4 m5 m6 l) l.length) = ok at *
    generalize firsts (mapF m1 m2 m3 m4 m5 m6 l) l.length = m at *
    clear hg hR u1 u2 u3 u4 u5 u6 u7 u8 u9 u10 u11 u12
    go_enter Try.func67, Try.ntmps67
    go_wp2_with fail
    obtain ⟨W0, hW0⟩ : ∃ W0, W0 = (w.alloc (.cells #[.int .i64 m1, .int .i64 m2, .int .i64 m3, .int .i64 m4, .int .i64 m5, .int .i64 m6] 41)) := ⟨_, rfl⟩
    rw [← hW0]
    have yW00_0 : W0.cell? ⟨w.heap.size, 0, none⟩ = some (.int .i64 m1) := by rw [hW0]; go_simp
    have yW00_1 : W0.cell? ⟨w.heap.size, 1, none⟩ = some (.int .i64 m2) := by rw [hW0]; go_simp
    have yW00_2 : W0.cell? ⟨w.heap.size, 2, none⟩ = some (.int .i64 m3) := by rw [hW0]; go_simp
    have yW00_3 : W0.cell? ⟨w.heap.size, 3, none⟩ = some (.int .i64 m4) := by rw [hW0]; go_simp
    have yW00_4 : W0.cell? ⟨w.heap.size, 4, none⟩ = some (.int .i64 m5) := by rw [hW0]; go_simp
    have yW00_5 : W0.cell? ⟨w.heap.size, 5, none⟩ = some (.int .i64 m6) := by rw [hW0]; go_simp
    have fW00 : ∀ o, W0.frozen? ⟨w.heap.size, o, none⟩ = false := by intro o; rw [hW0]; (repeat rw [frozen?_alloc_cells]); simp [World.frozen?]
    have zW00 : w.heap.size < W0.heap.size := by rw [hW0]; simp <;> omega
    have BW0 : Below w.heap.size w W0 := by rw [hW0]; exact (Below.alloc (Below.refl _ _) (by simp <;> omega) _)
    have eW0 : Hid (W0.heap.size = w.heap.size + 1) := Lib.hid (by rw [hW0]; simp)
    clear hW0
    have E6 := Lib.hid (show Own6 W0 (w.heap.size) m1 m2 m3 m4 m5 m6 from ⟨⟨zW00, yW00_0, yW00_1, yW00_2, yW00_3, yW00_4, yW00_5⟩, fW00⟩)
    clear zW00 fW00 yW00_0 yW00_1 yW00_2 yW00_3 yW00_4 yW00_5 eW0
    refine (K.out _).mono ?_; rintro e w1 ⟨rfl, hbw1⟩
    have Bw1 := BW0.trans (hbw1.mono BW0.size)
    have E6 := Lib.hid (own6_below E6.out hbw1 E6.out.1.1)
    clear hbw1 BW0
    obtain ⟨⟨zp, cp0, cp1, cp2, cp3, cp4, cp5⟩, fp⟩ := E6.out
    unfold Fz at fp
    go_wp2_with fail
    clear zp fp cp0 cp1 cp2 cp3 cp4 cp5
    refine (KW.out _).mono ?_; rintro e w2 ⟨rfl, hbw2⟩
    have Bw2 := Bw1.trans (hbw2.mono Bw1.size)
    clear hbw2 Bw1
    go_wp2_with fail
    refine (KM.out w2 Bw2).mono ?_; rintro e w3 ⟨A2, c2, rfl, q1, q2, hb3, q3⟩
    go_wp2_with fail
    go_ret2
    exact retL_up Bw2 ⟨A2, c2, rfl, q1, q2, hb3, q3⟩
  · have hg : goodM m1 m2 m3 m4 m5 m6 = false := by simpa using hg
    rw [hg] at K ⊢
    rw [Bool.false_and]
    clear hg hR
    go_enter Try.func67, Try.ntmps67
    go_wp2_with fail
    obtain ⟨W0, hW0⟩ : ∃ W0, W0 = (w.alloc (.cells #[.int .i64 m1, .int .i64 m2, .int .i64 m3, .int .i64 m4, .int .i64 m5, .int .i64 m6] 41)) := ⟨_, rfl⟩
    rw [← hW0]
    have yW00_0 : W0.cell? ⟨w.heap.size, 0, none⟩ = some (.int .i64 m1) := by rw [hW0]; go_simp
    have yW00_1 : W0.cell? ⟨w.heap.size, 1, none⟩ = some (.int .i64 m2) := by rw [hW0]; go_simp
    have yW00_2 : W0.cell? ⟨w.heap.size, 2, none⟩ = some (.int .i64 m3) := by rw [hW0]; go_simp
    have yW00_3 : W0.cell? ⟨w.heap.size, 3, none⟩ = some (.int .i64 m4) := by rw [hW0]; go_simp
    have yW00_4 : W0.cell? ⟨w.heap.size, 4, none⟩ = some (.int .i64 m5) := by rw [hW0]; go_simp
    have yW00_5 : W0.cell? ⟨w.heap.size, 5, none⟩ = some (.int .i64 m6) := by rw [hW0]; go_simp
    have fW00 : ∀ o, W0.frozen? ⟨w.heap.size, o, none⟩ = false := by intro o; rw [hW0]; (repeat rw [frozen?_alloc_cells]); simp [World.frozen?]
    have zW00 : w.heap.size < W0.heap.size := by rw [hW0]; simp <;> omega
    have BW0 : Below w.heap.size w W0 := by rw [hW0]; exact (Below.alloc (Below.refl _ _) (by simp <;> omega) _)
    have eW0 : Hid (W0.heap.size = w.heap.size + 1) := Lib.hid (by rw [hW0]; simp)
    clear hW0
    have E6 := Lib.hid (show Own6 W0 (w.heap.size) m1 m2 m3 m4 m5 m6 from ⟨⟨zW00, yW00_0, yW00_1, yW00_2, yW00_3, yW00_4, yW00_5⟩, fW00⟩)
    clear zW00 fW00 yW00_0 yW00_1 yW00_2 yW00_3 yW00_4 yW00_5 eW0
    refine (K.out _).mono ?_; rintro e w1 ⟨rfl, hbw1⟩
    have Bw1 := BW0.trans (hbw1.mono BW0.size)
    have E6 := Lib.hid (own6_below E6.out hbw1 E6.out.1.1)
    clear hbw1 BW0
    go_wp2_with fail
    go_ret2
    exact retL_nil Bw1
end Go.Proofs.Ytheddoinnakneaa
/- contracts: FlatPolygon, both sides -/
namespace Go.Proofs.Ytheddoinnakneaa
open Go.ChangeShapes Go.WideShapes Go.ChangeAt Go.RowKit Go.Joins
set_option linter.unusedVariables false
set_option linter.unusedSimpArgs false
set_option maxRecDepth 4000
noncomputable def fpG (l : List (Int × Int)) : Bool := goodM (fmS l 0) (fmS l 1) (fmS l 2) (fmS l 3) (fmS l 4) (fmS l 5) && (goodB l && allB (mapF (fmS l 0) (fmS l 1) (fmS l 2) (fmS l 3) (fmS l 4) (fmS l 5) l) l.length)
noncomputable def fpL (l : List (Int × Int)) : List (Int × Int) := sel (fpG l) (firsts (mapF (fmS l 0) (fmS l 1) (fmS l 2) (fmS l 3) (fmS l 4) (fmS l 5) l) l.length)
theorem fp_f {l : List (Int × Int)} (h : okF l = false) : fpG l = false ∧ fpL l = [] := by
  have e : ∀ i, fmS l i = 0 := fun i => by unfold fmS; rw [h]; rfl
  have hg : fpG l = false := by
    unfold fpG
    rw [e, e, e, e, e, e]
    have : goodM 0 0 0 0 0 0 = false := by decide
    rw [this, Bool.false_and]
  exact ⟨hg, by unfold fpL; rw [hg]; rfl⟩
set_option maxHeartbeats 2000000 in
theorem specFlatPolygon_any (A : Option Addr) (c : Nat) (l : List (Int × Int)) (w : World) (hn : l.length ≤ 1048576) (hcap : l.length ≤ c) (hc2 : c ≤ 9223372036854775807) (hR : Rd w w.heap.size A l) :
    Calls Try.prog 33 #[.slice A l.length c] w (RetL w (fpL l) (fpG l)) := by
  have K := Lib.hid (specFlatMove_any A c l w hn hcap hc2 hR)
  have KM := Lib.hid (fun W (hb : Below w.heap.size w W) => specMoveCorners_any (fmS l 0) (fmS l 1) (fmS l 2) (fmS l 3) (fmS l 4) (fmS l 5) A c l W hn hcap hc2 (rd_more (rd_below hR hb (Nat.le_refl _)) hb.size))
  change Hid (∀ W, Below w.heap.size w W → Calls Try.prog 66 _ W (RetL W (fpL l) (fpG l))) at KM
  by_cases ho : okF l = true
  · rw [ho] at K
    generalize fpL l = PL at *
    generalize fpG l = PG at *
    generalize fmS l 0 = m0 at *
    generalize fmS l 1 = m1 at *
    generalize fmS l 2 = m2 at *
    generalize fmS l 3 = m3 at *
    generalize fmS l 4 = m4 at *
    generalize fmS l 5 = m5 at *
    clear ho hR
    go_enter Try.func33, Try.ntmps33
    go_wp2_with fail
    refine K.out.mono ?_; rintro e w1 ⟨rfl, hb1⟩
    go_upto_region 2 with fail
    obtain ⟨W2, hW2⟩ : ∃ W2, W2 = (w1.alloc (.cells #[.int .i64 m0, .int .i64 m1, .int .i64 m2, .int .i64 m3, .int .i64 m4, .int .i64 m5] 41)) := ⟨_, rfl⟩
    rw [← hW2]
    have yW20_0 : W2.cell? ⟨w1.heap.size, 0, none⟩ = some (.int .i64 m0) := by rw [hW2]; go_simp
    have yW20_1 : W2.cell? ⟨w1.heap.size, 1, none⟩ = some (.int .i64 m1) := by rw [hW2]; go_simp
    have yW20_2 : W2.cell? ⟨w1.heap.size, 2, none⟩ = some (.int .i64 m2) := by rw [hW2]; go_simp
    have yW20_3 : W2.cell? ⟨w1.heap.size, 3, none⟩ = some (.int .i64 m3) := by rw [hW2]; go_simp
    have yW20_4 : W2.cell? ⟨w1.heap.size, 4, none⟩ = some (.int .i64 m4) := by rw [hW2]; go_simp
    have yW20_5 : W2.cell? ⟨w1.heap.size, 5, none⟩ = some (.int .i64 m5) := by rw [hW2]; go_simp
    have fW20 : ∀ o, W2.frozen? ⟨w1.heap.size, o, none⟩ = false := by intro o; rw [hW2]; (repeat rw [frozen?_alloc_cells]); simp [World.frozen?]
    have zW20 : w1.heap.size < W2.heap.size := by rw [hW2]; simp <;> omega
    have BW2 : Below w1.heap.size w1 W2 := by rw [hW2]; exact (Below.alloc (Below.refl _ _) (by simp <;> omega) _)
    have eW2 : Hid (W2.heap.size = w1.heap.size + 1) := Lib.hid (by rw [hW2]; simp)
    clear hW2
    have B2 := hb1.trans (BW2.mono hb1.size)
    clear hb1 BW2 eW2 fW20
    go_wp2_with fail
    refine (KM.out _ B2).mono ?_; rintro e w3 ⟨A3, c3, rfl, h1, h2, hb3, hr3⟩
    have HR := Lib.hid (And.intro h1 (And.intro h2 (And.intro hb3 hr3)))
    have HB := Lib.hid B2
    clear h1 h2 hb3 hr3 B2 yW20_0 yW20_1 yW20_2 yW20_3 yW20_4 yW20_5 zW20
    go_wp2_with fail
    go_ret2
    exact retL_up HB.out ⟨A3, c3, rfl, HR.out⟩
  · have hof : okF l = false := by simpa using ho
    rw [(fp_f hof).1, (fp_f hof).2]
    rw [hof] at K
    clear ho hof hR KM
    generalize fmS l 0 = m0 at *
    generalize fmS l 1 = m1 at *
    generalize fmS l 2 = m2 at *
    generalize fmS l 3 = m3 at *
    generalize fmS l 4 = m4 at *
    generalize fmS l 5 = m5 at *
    go_enter Try.func33, Try.ntmps33
    go_wp2_with fail
    refine K.out.mono ?_; rintro e w1 ⟨rfl, hb1⟩
    have B2 := Lib.hid (Below.alloc hb1 hb1.size (.cells #[.int .i64 m0, .int .i64 m1, .int .i64 m2, .int .i64 m3, .int .i64 m4, .int .i64 m5] 41))
    clear hb1
    go_wp2_with fail
    go_ret2
    exact retL_nil B2.out
set_option maxHeartbeats 2000000 in
theorem implFlatPolygon_any (A : Option Addr) (c : Nat) (l : List (Int × Int)) (w : World) (hn : l.length ≤ 1048576) (hR : Rd w w.heap.size A l) :
    Calls Try.prog 34 #[.slice A l.length c] w (RetL w (fpL l) (fpG l)) := by
  have K := Lib.hid (implFlatMove_any A c l w hn hR)
  have KM := Lib.hid (fun W (hb : Below w.heap.size w W) => implMoveCorners_any (fmS l 0) (fmS l 1) (fmS l 2) (fmS l 3) (fmS l 4) (fmS l 5) A c l W hn (rd_more (rd_below hR hb (Nat.le_refl _)) hb.size))
  change Hid (∀ W, Below w.heap.size w W → Calls Try.prog 67 _ W (RetL W (fpL l) (fpG l))) at KM
  generalize okF l = ok at *
  generalize fpL l = PL at *
  generalize fpG l = PG at *
  generalize fmS l 0 = m0 at *
  generalize fmS l 1 = m1 at *
  generalize fmS l 2 = m2 at *
  generalize fmS l 3 = m3 at *
  generalize fmS l 4 = m4 at *
  generalize fmS l 5 = m5 at *
  clear hR
  go_enter Try.func34, Try.ntmps34
  go_wp2_with fail
  refine K.out.mono ?_; rintro e w1 ⟨rfl, hb1⟩
  go_upto_region 2 with fail
  obtain ⟨W2, hW2⟩ : ∃ W2, W2 = (w1.alloc (.cells #[.int .i64 m0, .int .i64 m1, .int .i64 m2, .int .i64 m3, .int .i64 m4, .int .i64 m5] 41)) := ⟨_, rfl⟩
  rw [← hW2]
  have yW20_0 : W2.cell? ⟨w1.heap.size, 0, none⟩ = some (.int .i64 m0) := by rw [hW2]; go_simp
  have yW20_1 : W2.cell? ⟨w1.heap.size, 1, none⟩ = some (.int .i64 m1) := by rw [hW2]; go_simp
  have yW20_2 : W2.cell? ⟨w1.heap.size, 2, none⟩ = some (.int .i64 m2) := by rw [hW2]; go_simp
  have yW20_3 : W2.cell? ⟨w1.heap.size, 3, none⟩ = some (.int .i64 m3) := by rw [hW2]; go_simp
  have yW20_4 : W2.cell? ⟨w1.heap.size, 4, none⟩ = some (.int .i64 m4) := by rw [hW2]; go_simp
  have yW20_5 : W2.cell? ⟨w1.heap.size, 5, none⟩ = some (.int .i64 m5) := by rw [hW2]; go_simp
  have fW20 : ∀ o, W2.frozen? ⟨w1.heap.size, o, none⟩ = false := by intro o; rw [hW2]; (repeat rw [frozen?_alloc_cells]); simp [World.frozen?]
  have zW20 : w1.heap.size < W2.heap.size := by rw [hW2]; simp <;> omega
  have BW2 : Below w1.heap.size w1 W2 := by rw [hW2]; exact (Below.alloc (Below.refl _ _) (by simp <;> omega) _)
  have eW2 : Hid (W2.heap.size = w1.heap.size + 1) := Lib.hid (by rw [hW2]; simp)
  clear hW2
  have B2 := hb1.trans (BW2.mono hb1.size)
  clear hb1 BW2 eW2 fW20
  go_wp2_with fail
  refine (KM.out _ B2).mono ?_; rintro e w3 ⟨A3, c3, rfl, h1, h2, hb3, hr3⟩
  have HR := Lib.hid (And.intro h1 (And.intro h2 (And.intro hb3 hr3)))
  have HB := Lib.hid B2
  clear h1 h2 hb3 hr3 B2 yW20_0 yW20_1 yW20_2 yW20_3 yW20_4 yW20_5 zW20
  go_wp2_with fail
  go_ret2
  exact retL_up HB.out ⟨A3, c3, rfl, HR.out⟩
end Go.Proofs.Ytheddoinnakneaa
/- contracts: points that are marked, marks that are held -/
namespace Go.Proofs.Ytheddoinnakneaa
open Go.ChangeShapes Go.WideShapes Go.ChangeAt Go.RowKit Go.Joins
set_option linter.unusedVariables false
set_option linter.unusedSimpArgs false
set_option maxRecDepth 4000
/-- what marks write: number after number -/
def mk (k : Int) (i : Nat) : Int × Int := (k + 2 * (i : Int), k + 2 * (i : Int) + 1)
def mix (k : Int) (i : Nat) (f : Nat → Int × Int) (j : Nat) : Int × Int := if j < i then mk k j else f j
theorem mix_step (k : Int) (i : Nat) (f : Nat → Int × Int) : (fun j => if j = i then mk k i else mix k i f j) = mix k (i + 1) f := by
  funext j
  unfold mix
  by_cases h : j = i
  · subst h; rw [if_pos rfl, if_pos (by omega)]
  · rw [if_neg h]
    by_cases h2 : j < i
    · rw [if_pos h2, if_pos (by omega)]
    · rw [if_neg h2, if_neg (by omega)]
/-- behind a mark -/
structure Marked (w w' : World) (lo B : Nat) (A : Option Addr) (n : Nat) (k : Int) (i : Nat) (f : Nat → Int × Int) : Prop where
  only : Only lo B w w'
  row : Rw w' lo B A n (mix k i f)
theorem marked_step {w w' : World} {lo B b off n i : Nat} {k : Int} {f : Nat → Int × Int} (h : Marked w w' lo B (some ⟨b, off, none⟩) n k i f) (hi : i < n) (hb : lo ≤ b) (hB : b < B) :
    Marked w ((w'.setCell ⟨b, off + i * 2, none⟩ (.int .i64 (k + 2 * (i : Int)))).setCell ⟨b, off + i * 2 + 1, none⟩ (.int .i64 (k + 2 * (i : Int) + 1))) lo B (some ⟨b, off, none⟩) n k (i + 1) f :=
  ⟨(h.only.set hb hB _).set hb hB _, by
    have := rw_store h.row hi (k + 2 * (i : Int)) (k + 2 * (i : Int) + 1)
    rw [show (fun j => if j = i then (k + 2 * (i : Int), k + 2 * (i : Int) + 1) else mix k i f j) = mix k (i + 1) f from mix_step k i f] at this
    exact this⟩
set_option maxHeartbeats 1000000 in
theorem markPegS_any (A : Option Addr) (c n : Nat) (k : Int) (lo B : Nat) (f : Nat → Int × Int) (w : World) (hn : n ≤ 1048576) (hk1 : 1 ≤ k) (hk2 : k ≤ 1000000000) (hR : Rw w lo B A n f) :
    Calls Try.prog 23 #[.slice A n c, .int .i64 k] w fun e w' => e = .returned (.int .i64 (k + 2 * (n : Int))) ∧ Only lo B w w' ∧ Rw w' lo B A n (mk k) := by
  have HM := Lib.hid (show Marked w w lo B A n k 0 f from ⟨Only.refl _ _ _, rw_same hR fun i hi => by unfold mix; rw [if_neg (by omega)]⟩)
  clear hR
  go_enter Try.func23, Try.ntmps23
  go_wp2_with fail
  go_loopg [1, 5] n (fun g u i wr => ∃ j : Nat, j ≤ n ∧ g = n - j ∧ i = .int .i64 j ∧ u = .int .i64 (k + 2 * (j : Int)) ∧ Hid (Marked w wr lo B A n k j f))
  case atStart => exact ⟨0, Nat.zero_le _, rfl, rfl, by simp, HM⟩
  case round =>
    obtain ⟨j, hj, hg, rfl, rfl, hM⟩ := hrel
    rename World => wo
    have HGK := Lib.hid hg
    clear hg HM
    by_cases hlt : j < n
    · obtain ⟨b, off, hA, hb1, hb2, hc⟩ := hM.out.row (by omega)
      subst hA
      obtain ⟨⟨c1, c2⟩, z1, z2⟩ := hc j hlt
      have M2 := Lib.hid (marked_step hM.out hlt hb1 hb2)
      clear hc hM
      have e1 : IntKind.i64.wrap (k + 2 * (j : Int) + 1) = k + 2 * (j : Int) + 1 := IntWalk.i64_in _ (by omega)
      go_wp2_with fail
      go_roundg (n - (j + 1))
      case measure => have := HGK.out; omega
      case rel => exact ⟨j + 1, by omega, rfl, by go_num, by go_num, M2⟩
    · have hjn : n = j := by omega
      subst hjn
      go_wp2_with fail
      go_ret
      exact ⟨rfl, hM.out.only, rw_same hM.out.row fun i hi => by unfold mix; rw [if_pos hi]⟩
end Go.Proofs.Ytheddoinnakneaa
/- what the laws look at in their arguments, step by step -/
namespace Go.Proofs.Ytheddoinnakneaa
open Go.ChangeShapes Go.WideShapes Go.ChangeAt Go.RowKit Go.Joins
set_option linter.unusedVariables false
set_option linter.unusedSimpArgs false
set_option maxRecDepth 4000
theorem law_eqX (l : List (Int × Int)) (hl : l.length ≤ 1048576) (W : World) (g g' c c' : Nat) (h : Set W g l.length l.length l) (h' : Set W g' l.length l.length l) :
    Calls Try.prog 19 #[.slice (some ⟨g, 0, none⟩) l.length c, .slice (some ⟨g', 0, none⟩) l.length c'] W fun e w' => e = .returned (.bool true) ∧ Below W.heap.size W w' :=
  (eqPegS_any _ _ c c' l l W hl hl (rd_of_set h) (rd_of_set h')).mono fun e w' hh => ⟨hh.1.trans (ret_bool (by simp)), hh.2⟩
theorem law_mark (l : List (Int × Int)) (hl : l.length ≤ 1048576) (W : World) (g c : Nat) (h : Set W g l.length l.length l) :
    Calls Try.prog 23 #[.slice (some ⟨g, 0, none⟩) l.length c, .int .i64 1] W fun e w' => e = .returned (.int .i64 (1 + 2 * (l.length : Int))) ∧ Only g (g + 1) W w' :=
  (markPegS_any _ c l.length 1 g (g + 1) (pt l) W hl (by omega) (by omega) (rw_of_set h)).mono fun e w' hh => ⟨hh.1, hh.2.1⟩
theorem only_grow {w W W' : World} {lo B : Nat} (h : Below w.heap.size w W) (ho : Only lo B W W') (hl : w.heap.size ≤ lo) : Below w.heap.size w W' := h.trans (ho.below.mono hl)
theorem below_grow {w W W' : World} (h : Below w.heap.size w W) (hb : Below W.heap.size W W') : Below w.heap.size w W' := h.trans (hb.mono h.size)
end Go.Proofs.Ytheddoinnakneaa
/- contract: marks that are held -/
namespace Go.Proofs.Ytheddoinnakneaa
open Go.ChangeShapes Go.WideShapes Go.ChangeAt Go.RowKit Go.Joins
set_option linter.unusedVariables false
set_option linter.unusedSimpArgs false
set_option maxRecDepth 4000
set_option maxHeartbeats 1000000 in
theorem heldPegS_any (A : Option Addr) (c n : Nat) (k : Int) (lo B : Nat) (w : World) (hn : n ≤ 1048576) (hk1 : 1 ≤ k) (hk2 : k ≤ 1000000000) (hR : Rw w lo B A n (mk k)) :
    Calls Try.prog 35 #[.slice A n c, .int .i64 k] w fun e w' => e = .returned (.int .i64 (k + 2 * (n : Int))) ∧ w = w' := by
  have HR := Lib.hid hR
  clear hR
  go_enter Try.func35, Try.ntmps35
  go_wp2_with fail
  go_loopg [1, 5] n (fun g u i wr => ∃ j : Nat, j ≤ n ∧ g = n - j ∧ i = .int .i64 j ∧ u = .int .i64 (k + 2 * (j : Int)) ∧ w = wr)
  case atStart => exact ⟨0, Nat.zero_le _, rfl, rfl, by simp, rfl⟩
  case round =>
    obtain ⟨j, hj, hg, rfl, rfl, rfl⟩ := hrel
    have HGK := Lib.hid hg
    clear hg
    by_cases hlt : j < n
    · obtain ⟨b, off, hA, hb1, hb2, hc⟩ := HR.out (by omega)
      subst hA
      obtain ⟨⟨c1, c2⟩, z1, z2⟩ := hc j hlt
      have c1' : w.cell? ⟨b, off + j * 2, none⟩ = some (.int .i64 (k + 2 * (j : Int))) := c1
      have c2' : w.cell? ⟨b, off + j * 2 + 1, none⟩ = some (.int .i64 (k + 2 * (j : Int) + 1)) := c2
      clear hc c1 c2
      go_wp2_with fail
      go_roundg (n - (j + 1))
      case measure => have := HGK.out; omega
      case rel => exact ⟨j + 1, by omega, rfl, by go_num, by go_num, rfl⟩
    · have hjn : n = j := by omega
      subst hjn
      go_wp2_with fail
      go_ret
      exact ⟨rfl, rfl⟩
end Go.Proofs.Ytheddoinnakneaa
/- what the laws of functions that give a list of points look at, step by step -/
namespace Go.Proofs.Ytheddoinnakneaa
open Go.ChangeShapes Go.WideShapes Go.ChangeAt Go.RowKit Go.Joins
set_option linter.unusedVariables false
set_option linter.unusedSimpArgs false
set_option maxRecDepth 4000
/-- a call that gives p points F and says whether there are such -/
def RetN (w : World) (p : Nat) (F : Nat → Int × Int) (b : Bool) (e : Ending) (w' : World) : Prop :=
  ∃ A c, e = .returned (.tuple #[.slice A p c, .bool b]) ∧ Below w.heap.size w w' ∧ Rw w' w.heap.size w'.heap.size A p F
theorem retN_of_L {w w' : World} {m : List (Int × Int)} {b : Bool} {e : Ending} (h : RetL w m b e w') : RetN w m.length (pt m) b e w' := by
  obtain ⟨A, c, h1, _, _, h4, h5⟩ := h
  exact ⟨A, c, h1, h4, h5⟩
theorem law_eq (m : List (Int × Int)) (hm : m.length ≤ 1048576) (W : World) (lo B lo' B' c c' : Nat) (A A' : Option Addr) (h : Rw W lo B A m.length (pt m)) (hB : B ≤ W.heap.size) (h' : Rw W lo' B' A' m.length (pt m)) (hB' : B' ≤ W.heap.size) :
    Calls Try.prog 19 #[.slice A m.length c, .slice A' m.length c'] W fun e w' => e = .returned (.bool true) ∧ Below W.heap.size W w' :=
  (eqPegS_any A A' c c' m m W hm hm (rd_more (rw_rd h) hB) (rd_more (rw_rd h') hB')).mono fun e w' hh => ⟨hh.1.trans (ret_bool (by simp)), hh.2⟩
end Go.Proofs.Ytheddoinnakneaa

