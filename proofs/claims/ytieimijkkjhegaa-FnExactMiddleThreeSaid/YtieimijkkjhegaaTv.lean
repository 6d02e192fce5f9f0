/- contracts: MiddleThree, the program -/
import Derived.Test.YtieimijkkjhegaaTu
import Derived.Test.YtieimijkkjhegaaTm
import Derived.Test.YtieimijkkjhegaaTd
import Derived.Test.YtieimijkkjhegaaTx0
import Derived.Test.YtieimijkkjhegaaTc
namespace Go.Proofs.Ytieimijkkjhegaa
open Go.ChangeShapes Go.WideShapes Go.ChangeAt Go.RowKit Go.Joins
set_option linter.unusedVariables false
set_option linter.unusedSimpArgs false
set_option maxRecDepth 4000
set_option maxRecDepth 100000 in
set_option maxHeartbeats 4000000 in
theorem implMiddleThree_any (A : Option Addr) (c : Nat) (l : List (Int × Int)) (w : World) (hn : l.length ≤ 1048576) (hR : Rd w w.heap.size A l) :
    Calls Try.prog 21 #[.slice A l.length c] w (RetL w (sel (tB l && midB l) (firsts (midF l) 3)) (tB l && midB l)) := by
  by_cases ht : tB l = true
  · obtain ⟨a1, a2, b1, b2, c1, c2, htr⟩ := tB_true ht
    have K := Lib.hid (threeOf_t A c l a1 a2 b1 b2 c1 c2 w hR htr)
    rw [ht, Bool.true_and]
    obtain ⟨v0, v1, v2, v3, v4⟩ := tri_vx htr
    obtain ⟨⟨u1, u2⟩, ⟨u3, u4⟩, ⟨u5, u6⟩, ⟨u7, u8⟩, ⟨u9, u10⟩, ⟨u11, u12⟩⟩ := tri_bd htr
    have EV0 : Hid (mevB l 0 = (decide ((b1 + c1).tmod 2 = 0) && decide ((b2 + c2).tmod 2 = 0))) := Lib.hid (by unfold mevB; rw [v1, v2])
    have EV1 : Hid (mevB l 1 = (decide ((c1 + a1).tmod 2 = 0) && decide ((c2 + a2).tmod 2 = 0))) := Lib.hid (by unfold mevB; rw [v2, v3])
    have EV2 : Hid (mevB l 2 = (decide ((a1 + b1).tmod 2 = 0) && decide ((a2 + b2).tmod 2 = 0))) := Lib.hid (by unfold mevB; rw [v3, v4])
    have MF0 : Hid (midF l 0 = ((b1 + c1).tdiv 2, (b2 + c2).tdiv 2)) := Lib.hid (by unfold midF; rw [v1, v2])
    have MF1 : Hid (midF l 1 = ((c1 + a1).tdiv 2, (c2 + a2).tdiv 2)) := Lib.hid (by unfold midF; rw [v2, v3])
    have MF2 : Hid (midF l 2 = ((a1 + b1).tdiv 2, (a2 + b2).tdiv 2)) := Lib.hid (by unfold midF; rw [v3, v4])
    have MN := Lib.hid (fun i hi h => midB_no (l := l) (i := i) hi h)
    have MY := Lib.hid (fun h => midB_yes (l := l) h)
    have KS0 := Lib.hid (fun W => (show Calls Try.prog 64 #[.agg #[.int .i64 a1, .int .i64 a2, .int .i64 b1, .int .i64 b2, .int .i64 c1, .int .i64 c2], .int .i64 (0 : Nat)] W fun e w' => e = .returned (.tuple #[.agg #[.int .i64 b1, .int .i64 b2], .agg #[.int .i64 c1, .int .i64 c2]]) ∧ Below W.heap.size W w' from by
      have := side_any a1 a2 b1 b2 c1 c2 0 (by omega) W
      rw [← htr.1, v1, v2] at this
      exact this))
    have KP0 := Lib.hid (fun W => plus_any b1 b2 c1 c2 W (by unfold Mid; omega) (by unfold Mid; omega) (by unfold Mid; omega) (by unfold Mid; omega))
    have KD0 := Lib.hid (fun W => (show Calls Try.prog 66 #[.agg #[.int .i64 (b1 + c1), .int .i64 (b2 + c2)], .int .i64 2] W fun e w' => e = .returned (.tuple #[.agg #[.int .i64 ((b1 + c1).tdiv 2), .int .i64 ((b2 + c2).tdiv 2)], .bool (mevB l 0)]) ∧ Below W.heap.size W w' from by
      rw [EV0.out]
      exact dividedBy_any (b1 + c1) (b2 + c2) 2 W (by unfold Mid; omega) (by unfold Mid; omega) (by omega)))
    have KS1 := Lib.hid (fun W => (show Calls Try.prog 64 #[.agg #[.int .i64 a1, .int .i64 a2, .int .i64 b1, .int .i64 b2, .int .i64 c1, .int .i64 c2], .int .i64 (1 : Nat)] W fun e w' => e = .returned (.tuple #[.agg #[.int .i64 c1, .int .i64 c2], .agg #[.int .i64 a1, .int .i64 a2]]) ∧ Below W.heap.size W w' from by
      have := side_any a1 a2 b1 b2 c1 c2 1 (by omega) W
      rw [← htr.1, v2, v3] at this
      exact this))
    have KP1 := Lib.hid (fun W => plus_any c1 c2 a1 a2 W (by unfold Mid; omega) (by unfold Mid; omega) (by unfold Mid; omega) (by unfold Mid; omega))
    have KD1 := Lib.hid (fun W => (show Calls Try.prog 66 #[.agg #[.int .i64 (c1 + a1), .int .i64 (c2 + a2)], .int .i64 2] W fun e w' => e = .returned (.tuple #[.agg #[.int .i64 ((c1 + a1).tdiv 2), .int .i64 ((c2 + a2).tdiv 2)], .bool (mevB l 1)]) ∧ Below W.heap.size W w' from by
      rw [EV1.out]
      exact dividedBy_any (c1 + a1) (c2 + a2) 2 W (by unfold Mid; omega) (by unfold Mid; omega) (by omega)))
    have KS2 := Lib.hid (fun W => (show Calls Try.prog 64 #[.agg #[.int .i64 a1, .int .i64 a2, .int .i64 b1, .int .i64 b2, .int .i64 c1, .int .i64 c2], .int .i64 (2 : Nat)] W fun e w' => e = .returned (.tuple #[.agg #[.int .i64 a1, .int .i64 a2], .agg #[.int .i64 b1, .int .i64 b2]]) ∧ Below W.heap.size W w' from by
      have := side_any a1 a2 b1 b2 c1 c2 2 (by omega) W
      rw [← htr.1, v3, v4] at this
      exact this))
    have KP2 := Lib.hid (fun W => plus_any a1 a2 b1 b2 W (by unfold Mid; omega) (by unfold Mid; omega) (by unfold Mid; omega) (by unfold Mid; omega))
    have KD2 := Lib.hid (fun W => (show Calls Try.prog 66 #[.agg #[.int .i64 (a1 + b1), .int .i64 (a2 + b2)], .int .i64 2] W fun e w' => e = .returned (.tuple #[.agg #[.int .i64 ((a1 + b1).tdiv 2), .int .i64 ((a2 + b2).tdiv 2)], .bool (mevB l 2)]) ∧ Below W.heap.size W w' from by
      rw [EV2.out]
      exact dividedBy_any (a1 + b1) (a2 + b2) 2 W (by unfold Mid; omega) (by unfold Mid; omega) (by omega)))
    obtain ⟨i0, hi0, hz0, hz1, hz2⟩ := info_parts peg_info
    have HI := Lib.hid (And.intro hi0 (And.intro hz0 (And.intro hz1 hz2)))
    have hmk := fun W => run_make (P := Try.prog) W 26 42 i0 _ Try.underlying26 hi0 hz0 .i64 .i64 (0 : Int) (3 : Int) (by omega) (by omega) (by rw [hz2]; omega) (by omega)
    simp only [Int.toNat_zero, show (3 : Int).toNat = 3 from rfl, hz1] at hmk
    clear v0 v1 v2 v3 v4 hi0 hz0 hz1 hz2 u1 u2 u3 u4 u5 u6 u7 u8 u9 u10 u11 u12
    generalize midB l = ok at *
    generalize midF l = f at *
    generalize mevB l = ev at *
    clear ht htr hR
    go_enter Try.func21, Try.ntmps21
    go_wp2_with fail
    refine K.out.mono ?_; rintro e w1 ⟨rfl, hb1⟩
    go_wp2_with fail
    obtain ⟨W0, hW0⟩ : ∃ W0, W0 = (w1.alloc (.cells #[.int .i64 a1, .int .i64 a2, .int .i64 b1, .int .i64 b2, .int .i64 c1, .int .i64 c2] 76)) := ⟨_, rfl⟩
    rw [← hW0]
    have yW00_0 : W0.cell? ⟨w1.heap.size, 0, none⟩ = some (.int .i64 a1) := by rw [hW0]; go_simp
    have yW00_1 : W0.cell? ⟨w1.heap.size, 1, none⟩ = some (.int .i64 a2) := by rw [hW0]; go_simp
    have yW00_2 : W0.cell? ⟨w1.heap.size, 2, none⟩ = some (.int .i64 b1) := by rw [hW0]; go_simp
    have yW00_3 : W0.cell? ⟨w1.heap.size, 3, none⟩ = some (.int .i64 b2) := by rw [hW0]; go_simp
    have yW00_4 : W0.cell? ⟨w1.heap.size, 4, none⟩ = some (.int .i64 c1) := by rw [hW0]; go_simp
    have yW00_5 : W0.cell? ⟨w1.heap.size, 5, none⟩ = some (.int .i64 c2) := by rw [hW0]; go_simp
    have fW00 : ∀ o, W0.frozen? ⟨w1.heap.size, o, none⟩ = false := by intro o; rw [hW0]; (repeat rw [frozen?_alloc_cells]); simp [World.frozen?]
    have zW00 : w1.heap.size < W0.heap.size := by rw [hW0]; simp <;> omega
    have BW0 : Below w1.heap.size w1 W0 := by rw [hW0]; exact (Below.alloc (Below.refl _ _) (by simp <;> omega) _)
    have eW0 : Hid (W0.heap.size = w1.heap.size + 1) := Lib.hid (by rw [hW0]; simp)
    clear hW0
    have HR0 : Hid (Row (W0.alloc (.cells (madeCells #[.int .i64 0, .int .i64 0] 6) 42)) W0.heap.size (.slice (some ⟨w1.heap.size + 1, 0, none⟩) 0 3) f 0) := Lib.hid (by
      rw [show w1.heap.size + 1 = W0.heap.size from eW0.out.symm]
      exact row_madeX (w := W0) (W := W0) (Below.refl _ _) f 3 (by omega))
    have hB0 := Below.alloc (Below.refl W0.heap.size W0) (Nat.le_refl _) (.cells (madeCells #[.int .i64 0, .int .i64 0] (3 * 2)) 42)
    have b0 := hb1.trans (BW0.mono hb1.size)
    have HC0 := Lib.hid (And.intro yW00_0 (And.intro yW00_1 (And.intro yW00_2 (And.intro yW00_3 (And.intro yW00_4 yW00_5)))))
    have hcB := (bcell hB0).1
    have r0 := (hcB _ 0 zW00).trans yW00_0
    have r1 := (hcB _ 1 zW00).trans yW00_1
    have r2 := (hcB _ 2 zW00).trans yW00_2
    have r3 := (hcB _ 3 zW00).trans yW00_3
    have r4 := (hcB _ 4 zW00).trans yW00_4
    have r5 := (hcB _ 5 zW00).trans yW00_5
    have zo : w1.heap.size < (W0.alloc (.cells (madeCells #[.int .i64 0, .int .i64 0] (3 * 2)) 42)).heap.size := by simp; omega
    clear hmk fW00 hcB yW00_0 yW00_1 yW00_2 yW00_3 yW00_4 yW00_5
    go_loopg [6, 20] 3 (fun g s i wr => ∃ (j : Nat) (v : Value), s = v ∧ j ≤ 3 ∧ g = 3 - j ∧ i = .int .i64 j ∧ Below W0.heap.size W0 wr ∧ w1.heap.size < wr.heap.size ∧ wr.cell? ⟨w1.heap.size, 0, none⟩ = some (.int .i64 a1) ∧ wr.cell? ⟨w1.heap.size, 1, none⟩ = some (.int .i64 a2) ∧ wr.cell? ⟨w1.heap.size, 2, none⟩ = some (.int .i64 b1) ∧ wr.cell? ⟨w1.heap.size, 3, none⟩ = some (.int .i64 b2) ∧ wr.cell? ⟨w1.heap.size, 4, none⟩ = some (.int .i64 c1) ∧ wr.cell? ⟨w1.heap.size, 5, none⟩ = some (.int .i64 c2) ∧ Hid (Row wr W0.heap.size v f j) ∧ Hid (∀ i, i < j → ev i = true))
    case atStart => exact ⟨0, _, rfl, by omega, rfl, rfl, hB0, zo, r0, r1, r2, r3, r4, r5, HR0, Lib.hid (fun i h => absurd h (Nat.not_lt_zero _))⟩
    case round =>
      clear hB0 zo r0 r1 r2 r3 r4 r5 HR0
      obtain ⟨j, v, rfl, hj, hg, rfl, hBl, zo, r0, r1, r2, r3, r4, r5, hr, hF⟩ := hrel
      rename World => wo
      have zBl := hBl.size
      rcases (show j = 0 ∨ j = 1 ∨ j = 2 ∨ j = 3 by omega) with rfl | rfl | rfl | rfl
      · skip
        have KS := KS0
        have KP := KP0
        have KD := KD0
        go_wp2_with fail
        refine (KS.out _).mono ?_; rintro e w2 ⟨rfl, hb2⟩
        have B2 := hBl.trans (hb2.mono hBl.size)
        have R2 := Lib.hid (row_below hr.out hb2 (Nat.le_refl _))
        have z2 := hb2.size
        obtain ⟨hcA, hfA⟩ := bcell hb2
        have s0 := (hcA _ 0 zo).trans r0
        have s1 := (hcA _ 1 zo).trans r1
        have s2 := (hcA _ 2 zo).trans r2
        have s3 := (hcA _ 3 zo).trans r3
        have s4 := (hcA _ 4 zo).trans r4
        have s5 := (hcA _ 5 zo).trans r5
        clear hr hb2 hcA hfA r0 r1 r2 r3 r4 r5
        go_wp2_with fail
        obtain ⟨W3, hW3⟩ : ∃ W3, W3 = ((w2.alloc (.cells #[.int .i64 b1, .int .i64 b2] 42)).alloc (.cells #[.int .i64 c1, .int .i64 c2] 42)) := ⟨_, rfl⟩
        rw [← hW3]
        have yW30_0 : W3.cell? ⟨w2.heap.size, 0, none⟩ = some (.int .i64 b1) := by rw [hW3]; go_simp
        have yW30_1 : W3.cell? ⟨w2.heap.size, 1, none⟩ = some (.int .i64 b2) := by rw [hW3]; go_simp
        have fW30 : ∀ o, W3.frozen? ⟨w2.heap.size, o, none⟩ = false := by intro o; rw [hW3]; (repeat rw [frozen?_alloc_cells]); simp [World.frozen?]
        have zW30 : w2.heap.size < W3.heap.size := by rw [hW3]; simp <;> omega
        have yW31_0 : W3.cell? ⟨w2.heap.size + 1, 0, none⟩ = some (.int .i64 c1) := by rw [hW3]; go_simp
        have yW31_1 : W3.cell? ⟨w2.heap.size + 1, 1, none⟩ = some (.int .i64 c2) := by rw [hW3]; go_simp
        have fW31 : ∀ o, W3.frozen? ⟨w2.heap.size + 1, o, none⟩ = false := by intro o; rw [hW3]; (repeat rw [frozen?_alloc_cells]); simp [World.frozen?]
        have zW31 : w2.heap.size + 1 < W3.heap.size := by rw [hW3]; simp <;> omega
        have BW3 : Below w2.heap.size w2 W3 := by rw [hW3]; exact (Below.alloc (Below.alloc (Below.refl _ _) (by simp <;> omega) _) (by simp <;> omega) _)
        have eW3 : Hid (W3.heap.size = w2.heap.size + 2) := Lib.hid (by rw [hW3]; simp)
        clear hW3
        have B3 := B2.trans (BW3.mono B2.size)
        have R3 := Lib.hid (row_below R2.out BW3 (Nat.le_refl _))
        have X3 := Lib.hid (bcell BW3).1
        clear R2
        refine (KP.out _).mono ?_; rintro e w4 ⟨rfl, hb4⟩
        have B4 := B3.trans (hb4.mono B3.size)
        have R4 := Lib.hid (row_below R3.out hb4 (Nat.le_refl _))
        have X4 := Lib.hid (bcell hb4).1
        have z4 := hb4.size
        have z3 := BW3.size
        clear R3 hb4 yW30_0 yW30_1 yW31_0 yW31_1 fW30 fW31
        go_wp2_with fail
        have HE := EV0
        cases hev : ev 0
        · have NG : Hid (ok = false) := Lib.hid (MN.out 0 (by omega) hev)
          rw [hev] at KD
          clear hev
          refine (KD.out _).mono ?_; rintro e w5 ⟨rfl, hb5⟩
          have B5 := B4.trans (hb5.mono B4.size)
          have z5 := B5.size
          go_wp2_with fail
          go_ret2
          rw [NG.out]
          refine retL_nil (b0.trans (Below.mono ?_ b0.size))
          repeat (first | with_reducible assumption | with_reducible exact Below.refl _ _ | with_reducible apply Below.drew | ((with_reducible refine Below.setCell ?_ ?_ _); rotate_left; (first | exact Nat.le_refl _ | omega | (simp <;> omega))) | ((with_reducible refine Below.alloc ?_ ?_ _); rotate_left; (first | omega | (simp <;> omega))))
        · have OK2 : Hid (∀ i, i < 1 → ev i = true) := Lib.hid (fun ii hii => by
            by_cases hij : ii = 0
            · rw [hij, hev]
            · exact hF.out ii (by omega))
          rw [hev] at KD
          clear hev hF
          refine (KD.out _).mono ?_; rintro e w5 ⟨rfl, hb5⟩
          have B5 := B4.trans (hb5.mono B4.size)
          have R5 := Lib.hid (row_below R4.out hb5 (Nat.le_refl _))
          have X5 := (bcell hb5).1
          have z5 := hb5.size
          have zz5 := B5.size
          have q0 := (X5 _ 0 (by omega)).trans ((X4.out _ 0 (by omega)).trans ((X3.out _ 0 (by omega)).trans s0))
          have q1 := (X5 _ 1 (by omega)).trans ((X4.out _ 1 (by omega)).trans ((X3.out _ 1 (by omega)).trans s1))
          have q2 := (X5 _ 2 (by omega)).trans ((X4.out _ 2 (by omega)).trans ((X3.out _ 2 (by omega)).trans s2))
          have q3 := (X5 _ 3 (by omega)).trans ((X4.out _ 3 (by omega)).trans ((X3.out _ 3 (by omega)).trans s3))
          have q4 := (X5 _ 4 (by omega)).trans ((X4.out _ 4 (by omega)).trans ((X3.out _ 4 (by omega)).trans s4))
          have q5 := (X5 _ 5 (by omega)).trans ((X4.out _ 5 (by omega)).trans ((X3.out _ 5 (by omega)).trans s5))
          have HQ := Lib.hid (And.intro q0 (And.intro q1 (And.intro q2 (And.intro q3 (And.intro q4 q5)))))
          clear X5 q0 q1 q2 q3 q4 q5 s0 s1 s2 s3 s4 s5 R4 hb5
          have BA := Lib.hid (Below.alloc (Below.alloc B5 zz5 (.cells #[.int .i64 ((b1 + c1).tdiv 2), .int .i64 ((b2 + c2).tdiv 2)] 42)) (by simp; omega) (.cells #[.int .i64 ((b1 + c1).tdiv 2), .int .i64 ((b2 + c2).tdiv 2)] 42))
          have RA := Lib.hid (row_alloc (row_alloc R5.out (.cells #[.int .i64 ((b1 + c1).tdiv 2), .int .i64 ((b2 + c2).tdiv 2)] 42)) (.cells #[.int .i64 ((b1 + c1).tdiv 2), .int .i64 ((b2 + c2).tdiv 2)] 42))
          clear R5
          go_wp2_with (at_builtin; refine wpList_append_own _ rfl (.tmp 38) (.tmp 40) 26 rfl W0.heap.size 42 i0 (.agg #[.int .i64 0, .int .i64 0]) 2 16 Try.underlying26 HI.out.1 HI.out.2.1 HI.out.2.2.1 HI.out.2.2.2 rfl (by decide) _ 0 (flat (firsts f 0)) rfl RA.out ⟨w5.heap.size + 1, 0, none⟩ 1 1 [.int .i64 ((b1 + c1).tdiv 2), .int .i64 ((b2 + c2).tdiv 2)] rfl rfl (two_cells (by go_simp) (by go_simp)) (two_one _ _) (by unfold maxLen; omega) (by omega) (by simp; omega) ?_)
          intro v' w6 hown hgr _
          have RB := row_push (f := f) (k := 0) BA.out RA.out (by rw [MF0.out]; exact hown) hgr
          have R6 := Lib.hid RB.1
          have B6 := RB.2
          clear RB hown hgr BA RA
          have zq : w1.heap.size < w6.heap.size := by have := B6.size; omega
          obtain ⟨t0, t1, t2, t3, t4, t5⟩ := HC0.out
          have hcB := (bcell B6).1
          have r0 := (hcB _ 0 zW00).trans t0
          have r1 := (hcB _ 1 zW00).trans t1
          have r2 := (hcB _ 2 zW00).trans t2
          have r3 := (hcB _ 3 zW00).trans t3
          have r4 := (hcB _ 4 zW00).trans t4
          have r5 := (hcB _ 5 zW00).trans t5
          clear hcB t0 t1 t2 t3 t4 t5
          go_wp2_with fail
          go_roundg (3 - (0 + 1))
          case measure => omega
          case rel => exact ⟨0 + 1, _, rfl, by omega, rfl, by go_num, B6, zq, r0, r1, r2, r3, r4, r5, R6, OK2⟩
      · skip
        have KS := KS1
        have KP := KP1
        have KD := KD1
        go_wp2_with fail
        refine (KS.out _).mono ?_; rintro e w2 ⟨rfl, hb2⟩
        have B2 := hBl.trans (hb2.mono hBl.size)
        have R2 := Lib.hid (row_below hr.out hb2 (Nat.le_refl _))
        have z2 := hb2.size
        obtain ⟨hcA, hfA⟩ := bcell hb2
        have s0 := (hcA _ 0 zo).trans r0
        have s1 := (hcA _ 1 zo).trans r1
        have s2 := (hcA _ 2 zo).trans r2
        have s3 := (hcA _ 3 zo).trans r3
        have s4 := (hcA _ 4 zo).trans r4
        have s5 := (hcA _ 5 zo).trans r5
        clear hr hb2 hcA hfA r0 r1 r2 r3 r4 r5
        go_wp2_with fail
        obtain ⟨W3, hW3⟩ : ∃ W3, W3 = ((w2.alloc (.cells #[.int .i64 c1, .int .i64 c2] 42)).alloc (.cells #[.int .i64 a1, .int .i64 a2] 42)) := ⟨_, rfl⟩
        rw [← hW3]
        have yW30_0 : W3.cell? ⟨w2.heap.size, 0, none⟩ = some (.int .i64 c1) := by rw [hW3]; go_simp
        have yW30_1 : W3.cell? ⟨w2.heap.size, 1, none⟩ = some (.int .i64 c2) := by rw [hW3]; go_simp
        have fW30 : ∀ o, W3.frozen? ⟨w2.heap.size, o, none⟩ = false := by intro o; rw [hW3]; (repeat rw [frozen?_alloc_cells]); simp [World.frozen?]
        have zW30 : w2.heap.size < W3.heap.size := by rw [hW3]; simp <;> omega
        have yW31_0 : W3.cell? ⟨w2.heap.size + 1, 0, none⟩ = some (.int .i64 a1) := by rw [hW3]; go_simp
        have yW31_1 : W3.cell? ⟨w2.heap.size + 1, 1, none⟩ = some (.int .i64 a2) := by rw [hW3]; go_simp
        have fW31 : ∀ o, W3.frozen? ⟨w2.heap.size + 1, o, none⟩ = false := by intro o; rw [hW3]; (repeat rw [frozen?_alloc_cells]); simp [World.frozen?]
        have zW31 : w2.heap.size + 1 < W3.heap.size := by rw [hW3]; simp <;> omega
        have BW3 : Below w2.heap.size w2 W3 := by rw [hW3]; exact (Below.alloc (Below.alloc (Below.refl _ _) (by simp <;> omega) _) (by simp <;> omega) _)
        have eW3 : Hid (W3.heap.size = w2.heap.size + 2) := Lib.hid (by rw [hW3]; simp)
        clear hW3
        have B3 := B2.trans (BW3.mono B2.size)
        have R3 := Lib.hid (row_below R2.out BW3 (Nat.le_refl _))
        have X3 := Lib.hid (bcell BW3).1
        clear R2
        refine (KP.out _).mono ?_; rintro e w4 ⟨rfl, hb4⟩
        have B4 := B3.trans (hb4.mono B3.size)
        have R4 := Lib.hid (row_below R3.out hb4 (Nat.le_refl _))
        have X4 := Lib.hid (bcell hb4).1
        have z4 := hb4.size
        have z3 := BW3.size
        clear R3 hb4 yW30_0 yW30_1 yW31_0 yW31_1 fW30 fW31
        go_wp2_with fail
        have HE := EV1
        cases hev : ev 1
        · have NG : Hid (ok = false) := Lib.hid (MN.out 1 (by omega) hev)
          rw [hev] at KD
          clear hev
          refine (KD.out _).mono ?_; rintro e w5 ⟨rfl, hb5⟩
          have B5 := B4.trans (hb5.mono B4.size)
          have z5 := B5.size
          go_wp2_with fail
          go_ret2
          rw [NG.out]
          refine retL_nil (b0.trans (Below.mono ?_ b0.size))
          repeat (first | with_reducible assumption | with_reducible exact Below.refl _ _ | with_reducible apply Below.drew | ((with_reducible refine Below.setCell ?_ ?_ _); rotate_left; (first | exact Nat.le_refl _ | omega | (simp <;> omega))) | ((with_reducible refine Below.alloc ?_ ?_ _); rotate_left; (first | omega | (simp <;> omega))))
        · have OK2 : Hid (∀ i, i < 2 → ev i = true) := Lib.hid (fun ii hii => by
            by_cases hij : ii = 1
            · rw [hij, hev]
            · exact hF.out ii (by omega))
          rw [hev] at KD
          clear hev hF
          refine (KD.out _).mono ?_; rintro e w5 ⟨rfl, hb5⟩
          have B5 := B4.trans (hb5.mono B4.size)
          have R5 := Lib.hid (row_below R4.out hb5 (Nat.le_refl _))
          have X5 := (bcell hb5).1
          have z5 := hb5.size
          have zz5 := B5.size
          have q0 := (X5 _ 0 (by omega)).trans ((X4.out _ 0 (by omega)).trans ((X3.out _ 0 (by omega)).trans s0))
          have q1 := (X5 _ 1 (by omega)).trans ((X4.out _ 1 (by omega)).trans ((X3.out _ 1 (by omega)).trans s1))
          have q2 := (X5 _ 2 (by omega)).trans ((X4.out _ 2 (by omega)).trans ((X3.out _ 2 (by omega)).trans s2))
          have q3 := (X5 _ 3 (by omega)).trans ((X4.out _ 3 (by omega)).trans ((X3.out _ 3 (by omega)).trans s3))
          have q4 := (X5 _ 4 (by omega)).trans ((X4.out _ 4 (by omega)).trans ((X3.out _ 4 (by omega)).trans s4))
          have q5 := (X5 _ 5 (by omega)).trans ((X4.out _ 5 (by omega)).trans ((X3.out _ 5 (by omega)).trans s5))
          have HQ := Lib.hid (And.intro q0 (And.intro q1 (And.intro q2 (And.intro q3 (And.intro q4 q5)))))
          clear X5 q0 q1 q2 q3 q4 q5 s0 s1 s2 s3 s4 s5 R4 hb5
          have BA := Lib.hid (Below.alloc (Below.alloc B5 zz5 (.cells #[.int .i64 ((c1 + a1).tdiv 2), .int .i64 ((c2 + a2).tdiv 2)] 42)) (by simp; omega) (.cells #[.int .i64 ((c1 + a1).tdiv 2), .int .i64 ((c2 + a2).tdiv 2)] 42))
          have RA := Lib.hid (row_alloc (row_alloc R5.out (.cells #[.int .i64 ((c1 + a1).tdiv 2), .int .i64 ((c2 + a2).tdiv 2)] 42)) (.cells #[.int .i64 ((c1 + a1).tdiv 2), .int .i64 ((c2 + a2).tdiv 2)] 42))
          clear R5
          go_wp2_with (at_builtin; refine wpList_append_own _ rfl (.tmp 38) (.tmp 40) 26 rfl W0.heap.size 42 i0 (.agg #[.int .i64 0, .int .i64 0]) 2 16 Try.underlying26 HI.out.1 HI.out.2.1 HI.out.2.2.1 HI.out.2.2.2 rfl (by decide) _ 1 (flat (firsts f 1)) rfl RA.out ⟨w5.heap.size + 1, 0, none⟩ 1 1 [.int .i64 ((c1 + a1).tdiv 2), .int .i64 ((c2 + a2).tdiv 2)] rfl rfl (two_cells (by go_simp) (by go_simp)) (two_one _ _) (by unfold maxLen; omega) (by omega) (by simp; omega) ?_)
          intro v' w6 hown hgr _
          have RB := row_push (f := f) (k := 1) BA.out RA.out (by rw [MF1.out]; exact hown) hgr
          have R6 := Lib.hid RB.1
          have B6 := RB.2
          clear RB hown hgr BA RA
          have zq : w1.heap.size < w6.heap.size := by have := B6.size; omega
          obtain ⟨t0, t1, t2, t3, t4, t5⟩ := HC0.out
          have hcB := (bcell B6).1
          have r0 := (hcB _ 0 zW00).trans t0
          have r1 := (hcB _ 1 zW00).trans t1
          have r2 := (hcB _ 2 zW00).trans t2
          have r3 := (hcB _ 3 zW00).trans t3
          have r4 := (hcB _ 4 zW00).trans t4
          have r5 := (hcB _ 5 zW00).trans t5
          clear hcB t0 t1 t2 t3 t4 t5
          go_wp2_with fail
          go_roundg (3 - (1 + 1))
          case measure => omega
          case rel => exact ⟨1 + 1, _, rfl, by omega, rfl, by go_num, B6, zq, r0, r1, r2, r3, r4, r5, R6, OK2⟩
      · skip
        have KS := KS2
        have KP := KP2
        have KD := KD2
        go_wp2_with fail
        refine (KS.out _).mono ?_; rintro e w2 ⟨rfl, hb2⟩
        have B2 := hBl.trans (hb2.mono hBl.size)
        have R2 := Lib.hid (row_below hr.out hb2 (Nat.le_refl _))
        have z2 := hb2.size
        obtain ⟨hcA, hfA⟩ := bcell hb2
        have s0 := (hcA _ 0 zo).trans r0
        have s1 := (hcA _ 1 zo).trans r1
        have s2 := (hcA _ 2 zo).trans r2
        have s3 := (hcA _ 3 zo).trans r3
        have s4 := (hcA _ 4 zo).trans r4
        have s5 := (hcA _ 5 zo).trans r5
        clear hr hb2 hcA hfA r0 r1 r2 r3 r4 r5
        go_wp2_with fail
        obtain ⟨W3, hW3⟩ : ∃ W3, W3 = ((w2.alloc (.cells #[.int .i64 a1, .int .i64 a2] 42)).alloc (.cells #[.int .i64 b1, .int .i64 b2] 42)) := ⟨_, rfl⟩
        rw [← hW3]
        have yW30_0 : W3.cell? ⟨w2.heap.size, 0, none⟩ = some (.int .i64 a1) := by rw [hW3]; go_simp
        have yW30_1 : W3.cell? ⟨w2.heap.size, 1, none⟩ = some (.int .i64 a2) := by rw [hW3]; go_simp
        have fW30 : ∀ o, W3.frozen? ⟨w2.heap.size, o, none⟩ = false := by intro o; rw [hW3]; (repeat rw [frozen?_alloc_cells]); simp [World.frozen?]
        have zW30 : w2.heap.size < W3.heap.size := by rw [hW3]; simp <;> omega
        have yW31_0 : W3.cell? ⟨w2.heap.size + 1, 0, none⟩ = some (.int .i64 b1) := by rw [hW3]; go_simp
        have yW31_1 : W3.cell? ⟨w2.heap.size + 1, 1, none⟩ = some (.int .i64 b2) := by rw [hW3]; go_simp
        have fW31 : ∀ o, W3.frozen? ⟨w2.heap.size + 1, o, none⟩ = false := by intro o; rw [hW3]; (repeat rw [frozen?_alloc_cells]); simp [World.frozen?]
        have zW31 : w2.heap.size + 1 < W3.heap.size := by rw [hW3]; simp <;> omega
        have BW3 : Below w2.heap.size w2 W3 := by rw [hW3]; exact (Below.alloc (Below.alloc (Below.refl _ _) (by simp <;> omega) _) (by simp <;> omega) _)
        have eW3 : Hid (W3.heap.size = w2.heap.size + 2) := Lib.hid (by rw [hW3]; simp)
        clear hW3
        have B3 := B2.trans (BW3.mono B2.size)
        have R3 := Lib.hid (row_below R2.out BW3 (Nat.le_refl _))
        have X3 := Lib.hid (bcell BW3).1
        clear R2
        refine (KP.out _).mono ?_; rintro e w4 ⟨rfl, hb4⟩
        have B4 := B3.trans (hb4.mono B3.size)
        have R4 := Lib.hid (row_below R3.out hb4 (Nat.le_refl _))
        have X4 := Lib.hid (bcell hb4).1
        have z4 := hb4.size
        have z3 := BW3.size
        clear R3 hb4 yW30_0 yW30_1 yW31_0 yW31_1 fW30 fW31
        go_wp2_with fail
        have HE := EV2
        cases hev : ev 2
        · have NG : Hid (ok = false) := Lib.hid (MN.out 2 (by omega) hev)
          rw [hev] at KD
          clear hev
          refine (KD.out _).mono ?_; rintro e w5 ⟨rfl, hb5⟩
          have B5 := B4.trans (hb5.mono B4.size)
          have z5 := B5.size
          go_wp2_with fail
          go_ret2
          rw [NG.out]
          refine retL_nil (b0.trans (Below.mono ?_ b0.size))
          repeat (first | with_reducible assumption | with_reducible exact Below.refl _ _ | with_reducible apply Below.drew | ((with_reducible refine Below.setCell ?_ ?_ _); rotate_left; (first | exact Nat.le_refl _ | omega | (simp <;> omega))) | ((with_reducible refine Below.alloc ?_ ?_ _); rotate_left; (first | omega | (simp <;> omega))))
        · have OK2 : Hid (∀ i, i < 3 → ev i = true) := Lib.hid (fun ii hii => by
            by_cases hij : ii = 2
            · rw [hij, hev]
            · exact hF.out ii (by omega))
          rw [hev] at KD
          clear hev hF
          refine (KD.out _).mono ?_; rintro e w5 ⟨rfl, hb5⟩
          have B5 := B4.trans (hb5.mono B4.size)
          have R5 := Lib.hid (row_below R4.out hb5 (Nat.le_refl _))
          have X5 := (bcell hb5).1
          have z5 := hb5.size
          have zz5 := B5.size
          have q0 := (X5 _ 0 (by omega)).trans ((X4.out _ 0 (by omega)).trans ((X3.out _ 0 (by omega)).trans s0))
          have q1 := (X5 _ 1 (by omega)).trans ((X4.out _ 1 (by omega)).trans ((X3.out _ 1 (by omega)).trans s1))
          have q2 := (X5 _ 2 (by omega)).trans ((X4.out _ 2 (by omega)).trans ((X3.out _ 2 (by omega)).trans s2))
          have q3 := (X5 _ 3 (by omega)).trans ((X4.out _ 3 (by omega)).trans ((X3.out _ 3 (by omega)).trans s3))
          have q4 := (X5 _ 4 (by omega)).trans ((X4.out _ 4 (by omega)).trans ((X3.out _ 4 (by omega)).trans s4))
          have q5 := (X5 _ 5 (by omega)).trans ((X4.out _ 5 (by omega)).trans ((X3.out _ 5 (by omega)).trans s5))
          have HQ := Lib.hid (And.intro q0 (And.intro q1 (And.intro q2 (And.intro q3 (And.intro q4 q5)))))
          clear X5 q0 q1 q2 q3 q4 q5 s0 s1 s2 s3 s4 s5 R4 hb5
          have BA := Lib.hid (Below.alloc (Below.alloc B5 zz5 (.cells #[.int .i64 ((a1 + b1).tdiv 2), .int .i64 ((a2 + b2).tdiv 2)] 42)) (by simp; omega) (.cells #[.int .i64 ((a1 + b1).tdiv 2), .int .i64 ((a2 + b2).tdiv 2)] 42))
          have RA := Lib.hid (row_alloc (row_alloc R5.out (.cells #[.int .i64 ((a1 + b1).tdiv 2), .int .i64 ((a2 + b2).tdiv 2)] 42)) (.cells #[.int .i64 ((a1 + b1).tdiv 2), .int .i64 ((a2 + b2).tdiv 2)] 42))
          clear R5
          go_wp2_with (at_builtin; refine wpList_append_own _ rfl (.tmp 38) (.tmp 40) 26 rfl W0.heap.size 42 i0 (.agg #[.int .i64 0, .int .i64 0]) 2 16 Try.underlying26 HI.out.1 HI.out.2.1 HI.out.2.2.1 HI.out.2.2.2 rfl (by decide) _ 2 (flat (firsts f 2)) rfl RA.out ⟨w5.heap.size + 1, 0, none⟩ 1 1 [.int .i64 ((a1 + b1).tdiv 2), .int .i64 ((a2 + b2).tdiv 2)] rfl rfl (two_cells (by go_simp) (by go_simp)) (two_one _ _) (by unfold maxLen; omega) (by omega) (by simp; omega) ?_)
          intro v' w6 hown hgr _
          have RB := row_push (f := f) (k := 2) BA.out RA.out (by rw [MF2.out]; exact hown) hgr
          have R6 := Lib.hid RB.1
          have B6 := RB.2
          clear RB hown hgr BA RA
          have zq : w1.heap.size < w6.heap.size := by have := B6.size; omega
          obtain ⟨t0, t1, t2, t3, t4, t5⟩ := HC0.out
          have hcB := (bcell B6).1
          have r0 := (hcB _ 0 zW00).trans t0
          have r1 := (hcB _ 1 zW00).trans t1
          have r2 := (hcB _ 2 zW00).trans t2
          have r3 := (hcB _ 3 zW00).trans t3
          have r4 := (hcB _ 4 zW00).trans t4
          have r5 := (hcB _ 5 zW00).trans t5
          clear hcB t0 t1 t2 t3 t4 t5
          go_wp2_with fail
          go_roundg (3 - (2 + 1))
          case measure => omega
          case rel => exact ⟨2 + 1, _, rfl, by omega, rfl, by go_num, B6, zq, r0, r1, r2, r3, r4, r5, R6, OK2⟩
      · skip
        have OK3 : Hid (ok = true) := Lib.hid (MY.out hF.out)
        obtain ⟨A3, c3, hv, h1, h2, hrw⟩ := row_out hr.out
        subst hv
        have B1 := b0.trans (hBl.mono b0.size)
        go_wp2_with fail
        go_ret2
        rw [OK3.out]
        exact retL_of_rwX hrw b0.size (Nat.le_refl _) h1 h2 B1
  · have K := Lib.hid (threeOf_f A c l w hn hR ht)
    have htf : tB l = false := by simpa using ht
    rw [htf, Bool.false_and]
    clear ht htf hR
    go_enter Try.func21, Try.ntmps21
    go_wp2_with fail
    refine K.out.mono ?_; rintro e w1 ⟨rfl, hb1⟩
    have BA := Below.alloc hb1 hb1.size (.cells #[.int .i64 0, .int .i64 0, .int .i64 0, .int .i64 0, .int .i64 0, .int .i64 0] 76)
    go_wp2_with fail
    go_ret2
    exact retL_nil BA
end Go.Proofs.Ytieimijkkjhegaa
