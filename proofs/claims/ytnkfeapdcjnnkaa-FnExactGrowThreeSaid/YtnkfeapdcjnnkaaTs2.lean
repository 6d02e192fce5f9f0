/- contracts: GrowThree, the program -/
import Derived.Test.YtnkfeapdcjnnkaaTr
import Derived.Test.YtnkfeapdcjnnkaaTix
import Derived.Test.YtnkfeapdcjnnkaaRa
namespace Go.Proofs.Ytnkfeapdcjnnkaa
open Go.ChangeShapes Go.WideShapes Go.ChangeAt Go.RowKit Go.Joins
set_option linter.unusedVariables false
set_option linter.unusedSimpArgs false
theorem grow_eq (l : List (Int × Int)) (k a1 a2 : Int) (h : vx l 0 = (a1, a2)) (i : Nat) : growF l k i = (a1 + ((vx l i).1 - a1) * k, a2 + ((vx l i).2 - a2) * k) := by
  unfold growF mapF
  rw [h]
  apply Prod.ext
  · show k * (vx l i).1 + 0 * (vx l i).2 + (1 - k) * a1 = a1 + ((vx l i).1 - a1) * k
    grind
  · show 0 * (vx l i).1 + k * (vx l i).2 + (1 - k) * a2 = a2 + ((vx l i).2 - a2) * k
    grind
theorem retL_of_rw {w w' : World} {lo B k c : Nat} {A : Option Addr} {f : Nat → Int × Int} (h : Rw w' lo B A k f) (hl : w.heap.size ≤ lo) (hB : B ≤ w'.heap.size) (h1 : k ≤ c) (h2 : c ≤ maxLen) (hb : Below w.heap.size w w') :
    RetL w (firsts f k) true (.returned (.tuple #[.slice A k c, .bool true])) w' := by
  refine ⟨A, c, by rw [firsts_len], by rw [firsts_len]; exact h1, h2, hb, ?_⟩
  rw [firsts_len]
  exact rw_same (rw_more h hl hB) fun i hi => (firsts_pt f k i hi).symm
theorem row_made {w W : World} (hb : Below w.heap.size w W) (f : Nat → Int × Int) (n : Nat) (hn : n ≤ 1000) :
    Row (W.alloc (.cells (madeCells #[.int .i64 0, .int .i64 0] (n * 2)) 40)) w.heap.size (.slice (some ⟨W.heap.size, 0, none⟩) 0 n) f 0 :=
  World.ownsRow_made (base := w.heap.size) (e := 40) (size := 2) W _ n hb.size (by unfold maxLen; omega) (size_madeCells _ _)
set_option maxRecDepth 100000 in
set_option maxHeartbeats 4000000 in
theorem implGrowThree_any (A : Option Addr) (c : Nat) (l : List (Int × Int)) (k : Int) (w : World) (hn : l.length ≤ 1048576) (hR : Rd w w.heap.size A l) :
    Calls Try.prog 30 #[.slice A l.length c, .int .i64 k] w (RetL w (sel (tB l && inR 1 20 k && allB (growF l k) l.length) (firsts (growF l k) l.length)) (tB l && inR 1 20 k && allB (growF l k) l.length)) := by
  by_cases ht : tB l = true
  · obtain ⟨a1, a2, b1, b2, c1, c2, htr⟩ := tB_true ht
    have K := Lib.hid (threeOf_t A c l a1 a2 b1 b2 c1 c2 w hR htr)
    rw [ht, Bool.true_and]
    by_cases hk : inR 1 20 k = true
    · rw [hk, Bool.true_and]
      unfold inR at hk
      simp only [Bool.and_eq_true, decide_eq_true_eq] at hk
      obtain ⟨g1, g2⟩ := hk
      obtain ⟨⟨u1, u2⟩, ⟨u3, u4⟩, ⟨u5, u6⟩, ⟨u7, u8⟩, ⟨u9, u10⟩, ⟨u11, u12⟩⟩ := tri_bd htr
      have v0 : vx l 0 = (a1, a2) := by rw [htr.1]; rfl
      have v1 : vx l 1 = (b1, b2) := by rw [htr.1]; rfl
      have v2 : vx l 2 = (c1, c2) := by rw [htr.1]; rfl
      have F0 : Hid (growF l k 0 = (a1 + (a1 - a1) * k, a2 + (a2 - a2) * k)) := Lib.hid (by rw [grow_eq l k a1 a2 v0, v0])
      have F1 : Hid (growF l k 1 = (a1 + (b1 - a1) * k, a2 + (b2 - a2) * k)) := Lib.hid (by rw [grow_eq l k a1 a2 v0, v1])
      have F2 : Hid (growF l k 2 = (a1 + (c1 - a1) * k, a2 + (c2 - a2) * k)) := Lib.hid (by rw [grow_eq l k a1 a2 v0, v2])
      have l3 : l.length = 3 := by rw [htr.1]; rfl
      rw [l3] at K ⊢
      have KA := Lib.hid (fun W A c (h : Rw W w.heap.size W.heap.size A 3 (growF l k)) => (show Calls Try.prog 60 #[.slice A 3 c] W fun e w' => e = .returned (.bool (allB (growF l k) 3)) ∧ Below W.heap.size W w' from by
        have := arePegs_any A c (firsts (growF l k) 3) W (by rw [firsts_len]; omega) (rd_more (rw_rd (by rw [firsts_len]; exact rw_same h fun i hi => (firsts_pt _ _ _ hi).symm)) (Nat.le_refl _))
        rw [firsts_len] at this
        exact this))
      obtain ⟨i0, hi0, hz0, hz1, hz2⟩ := info_parts peg_info
      have HI := Lib.hid (And.intro hi0 (And.intro hz0 (And.intro hz1 hz2)))
      have hmk := fun W => run_make (P := Try.prog) W 27 40 i0 _ Try.underlying27 hi0 hz0 .i64 .i64 (0 : Int) (3 : Int) (by omega) (by omega) (by rw [hz2]; omega) (by omega)
      simp only [Int.toNat_zero, show (3 : Int).toNat = 3 from rfl, hz1] at hmk
      generalize growF l k = f at *
      have g3 : ¬ k < 1 := by omega
      have g4 : ¬ 20 < k := by omega
      clear ht htr hR v0 v1 v2 l3 hi0 hz0 hz1 hz2
      have UB := Lib.hid (show (-40 ≤ a1 ∧ a1 ≤ 40) ∧ (-40 ≤ a2 ∧ a2 ≤ 40) ∧ (-40 ≤ b1 ∧ b1 ≤ 40) ∧ (-40 ≤ b2 ∧ b2 ≤ 40) ∧ (-40 ≤ c1 ∧ c1 ≤ 40) ∧ (-40 ≤ c2 ∧ c2 ≤ 40) ∧ 1 ≤ k ∧ k ≤ 20 by omega)
      clear u1 u2 u3 u4 u5 u6 u7 u8 u9 u10 u11 u12
      go_enter Try.func30, Try.ntmps30
      go_wp2_with fail
      refine K.out.mono ?_; rintro e w1 ⟨rfl, hb1⟩
      go_wp2_with fail
      obtain ⟨W0, hW0⟩ : ∃ W0, W0 = (w1.alloc (.cells #[.int .i64 a1, .int .i64 a2, .int .i64 b1, .int .i64 b2, .int .i64 c1, .int .i64 c2] 60)) := ⟨_, rfl⟩
      rw [← hW0]
      have yW00_0 : W0.cell? ⟨w1.heap.size, 0, none⟩ = some (.int .i64 a1) := by rw [hW0]; go_simp
      have yW00_1 : W0.cell? ⟨w1.heap.size, 1, none⟩ = some (.int .i64 a2) := by rw [hW0]; go_simp
      have yW00_2 : W0.cell? ⟨w1.heap.size, 2, none⟩ = some (.int .i64 b1) := by rw [hW0]; go_simp
      have yW00_3 : W0.cell? ⟨w1.heap.size, 3, none⟩ = some (.int .i64 b2) := by rw [hW0]; go_simp
      have yW00_4 : W0.cell? ⟨w1.heap.size, 4, none⟩ = some (.int .i64 c1) := by rw [hW0]; go_simp
      have yW00_5 : W0.cell? ⟨w1.heap.size, 5, none⟩ = some (.int .i64 c2) := by rw [hW0]; go_simp
      have fW00 : ∀ o, W0.frozen? ⟨w1.heap.size, o, none⟩ = false := by intro o; rw [hW0]; (repeat rw [frozen?_alloc_cells]); simp [World.frozen?]
      have zW00 : w1.heap.size < W0.heap.size := by rw [hW0]; simp <;> omega
      have BW0 : Below w1.heap.size w1 W0 := by rw [hW0]; exact (Below.alloc (Below.refl _ _) (by simp <;> omega) _)
      have eW0 : Hid (W0.heap.size = w1.heap.size + 1) := Lib.hid (by rw [hW0]; simp)
      clear hW0
      have HR0 : Hid (Row (W0.alloc (.cells (madeCells #[.int .i64 0, .int .i64 0] 6) 40)) W0.heap.size (.slice (some ⟨w1.heap.size + 1, 0, none⟩) 0 3) f 0) := Lib.hid (by
        rw [show w1.heap.size + 1 = W0.heap.size from eW0.out.symm]
        exact row_made (w := W0) (W := W0) (Below.refl _ _) f 3 (by omega))
      have hB0 := Below.alloc (Below.refl W0.heap.size W0) (Nat.le_refl _) (.cells (madeCells #[.int .i64 0, .int .i64 0] (3 * 2)) 40)
      have r0 := ((bcell hB0).1 _ _ zW00).trans yW00_0
      have r1 := ((bcell hB0).1 _ _ zW00).trans yW00_1
      have zo : w1.heap.size < (W0.alloc (.cells (madeCells #[.int .i64 0, .int .i64 0] (3 * 2)) 40)).heap.size := by simp; omega
      clear hmk yW00_2 yW00_3 yW00_4 yW00_5 fW00
      go_loopg [8, 28] 3 (fun g s i wr => ∃ (j : Nat) (v : Value), s = v ∧ j ≤ 3 ∧ g = 3 - j ∧ i = .int .i64 j ∧ Below W0.heap.size W0 wr ∧ w1.heap.size < wr.heap.size ∧ wr.cell? ⟨w1.heap.size, 0, none⟩ = some (.int .i64 a1) ∧ wr.cell? ⟨w1.heap.size, 1, none⟩ = some (.int .i64 a2) ∧ Hid (Row wr W0.heap.size v f j))
      case atStart => exact ⟨0, _, rfl, by omega, rfl, rfl, hB0, zo, r0, r1, HR0⟩
      case round =>
        clear hB0 zo r0 r1 HR0
        obtain ⟨j, v, rfl, hj, hg, rfl, hBl, zo, r0, r1, hr⟩ := hrel
        rename World => wo
        rcases (show j = 0 ∨ j = 1 ∨ j = 2 ∨ j = 3 by omega) with rfl | rfl | rfl | rfl
        · skip
          have FK := F0
          have IX := index3_0 a1 a2 b1 b2 c1 c2
          obtain ⟨⟨u1, u2⟩, ⟨u3, u4⟩, ⟨u5, u6⟩, ⟨u7, u8⟩, ⟨u9, u10⟩, ⟨u11, u12⟩, g1, g2⟩ := UB.out
          have KM := Lib.hid (fun W => minus_any a1 a2 a1 a2 W (by unfold Mid; omega) (by unfold Mid; omega) (by unfold Mid; omega) (by unfold Mid; omega))
          have m1 := mul_bd (x := a1 - a1) (y := k) (m := 80) (n := 20) (by omega) (by omega) (by omega) (by omega)
          have m2 := mul_bd (x := a2 - a2) (y := k) (m := 80) (n := 20) (by omega) (by omega) (by omega) (by omega)
          have KT := Lib.hid (fun W => times_any (a1 - a1) (a2 - a2) k W (by omega) (by omega))
          have KP := Lib.hid (fun W => plus_any a1 a2 ((a1 - a1) * k) ((a2 - a2) * k) W (by unfold Mid; omega) (by unfold Mid; omega) (by unfold Mid; omega) (by unfold Mid; omega))
          clear m1 m2 u1 u2 u3 u4 u5 u6 u7 u8 u9 u10 u11 u12 g1 g2
          generalize a1 + (a1 - a1) * k = q1 at *
          generalize a2 + (a2 - a2) * k = q2 at *
          generalize (a1 - a1) * k = t1 at *
          generalize (a2 - a2) * k = t2 at *
          generalize a1 - a1 = d1 at *
          generalize a2 - a2 = d2 at *
          go_wp2_with fail
          clear IX
          obtain ⟨W1, hW1⟩ : ∃ W1, W1 = (wo.alloc (.cells #[.int .i64 a1, .int .i64 a2] 40)) := ⟨_, rfl⟩
          rw [← hW1]
          have yW10_0 : W1.cell? ⟨wo.heap.size, 0, none⟩ = some (.int .i64 a1) := by rw [hW1]; go_simp
          have yW10_1 : W1.cell? ⟨wo.heap.size, 1, none⟩ = some (.int .i64 a2) := by rw [hW1]; go_simp
          have fW10 : ∀ o, W1.frozen? ⟨wo.heap.size, o, none⟩ = false := by intro o; rw [hW1]; (repeat rw [frozen?_alloc_cells]); simp [World.frozen?]
          have zW10 : wo.heap.size < W1.heap.size := by rw [hW1]; simp <;> omega
          have BW1 : Below wo.heap.size wo W1 := by rw [hW1]; exact (Below.alloc (Below.refl _ _) (by simp <;> omega) _)
          have eW1 : Hid (W1.heap.size = wo.heap.size + 1) := Lib.hid (by rw [hW1]; simp)
          clear hW1
          have s0 := ((bcell BW1).1 _ _ zo).trans r0
          have s1 := ((bcell BW1).1 _ _ zo).trans r1
          have zp : w1.heap.size < W1.heap.size := by have := BW1.size; omega
          go_wp2_with fail
          refine wp_region_AP 10 (fun W => Below (W1).heap.size (W1) W) (by kernel_rfl) (by kernel_rfl) (by repeat (first | exact Below.refl _ _ | apply Below.drew)) rfl rfl (by kernel_rfl) (fun _ => by rfl) (by rfl) (fun _ => by rfl) ?_
          (try simp only [Act.put, List.setIfInBounds_toArray, List.set_cons_zero, List.set_cons_succ])
          first | refine wpH_skip (by rfl) ?_ | (refine wpH_text (v := ?_) (by rfl) (fun W k1 => ?_) ?_; rotate_left; (obtain ⟨hc1, hf1⟩ := bcell k1;  go_simp; refine comes_v ?_; exact k1))
          (try simp only [Act.put, List.setIfInBounds_toArray, List.set_cons_zero, List.set_cons_succ])
          first | refine wpH_skip (by rfl) ?_ | (refine wpH_text (v := ?_) (by rfl) (fun W k1 => ?_) ?_; rotate_left; (obtain ⟨hc1, hf1⟩ := bcell k1;  go_simp; refine comes_v ?_; exact k1))
          (try simp only [Act.put, List.setIfInBounds_toArray, List.set_cons_zero, List.set_cons_succ])
          first | refine wpH_skip (by rfl) ?_ | (refine wpH_text (v := ?_) (by rfl) (fun W k1 => ?_) ?_; rotate_left; (obtain ⟨hc1, hf1⟩ := bcell k1;  go_simp; refine comes_v ?_; exact k1))
          (try simp only [Act.put, List.setIfInBounds_toArray, List.set_cons_zero, List.set_cons_succ])
          first | refine wpH_skip (by rfl) ?_ | (refine wpH_text (v := ?_) (by rfl) (fun W k1 => ?_) ?_; rotate_left; (obtain ⟨hc1, hf1⟩ := bcell k1;  go_simp; refine comes_v ?_; exact k1))
          (try simp only [Act.put, List.setIfInBounds_toArray, List.set_cons_zero, List.set_cons_succ])
          first | refine wpH_skip (by rfl) ?_ | (refine wpH_text (v := ?_) (by rfl) (fun W k1 => ?_) ?_; rotate_left; (obtain ⟨hc1, hf1⟩ := bcell k1;  go_simp; refine comes_v ?_; exact k1))
          (try simp only [Act.put, List.setIfInBounds_toArray, List.set_cons_zero, List.set_cons_succ])
          first | refine wpH_skip (by rfl) ?_ | (refine wpH_text (v := .agg #[.int .i64 d1, .int .i64 d2]) (by rfl) (fun W k1 => ?_) ?_; (obtain ⟨hc1, hf1⟩ := bcell k1;  go_simp; exact comes_c ( KM.out _) (fun wn hbn => k1.trans (hbn.mono k1.size))))
          (try simp only [Act.put, List.setIfInBounds_toArray, List.set_cons_zero, List.set_cons_succ])
          first | refine wpH_skip (by rfl) ?_ | (refine wpH_text (v := ?_) (by rfl) (fun W k1 => ?_) ?_; rotate_left; (obtain ⟨hc1, hf1⟩ := bcell k1;  go_simp; refine comes_v ?_; exact k1))
          (try simp only [Act.put, List.setIfInBounds_toArray, List.set_cons_zero, List.set_cons_succ])
          first | refine wpH_skip (by rfl) ?_ | (refine wpH_text (v := .agg #[.int .i64 t1, .int .i64 t2]) (by rfl) (fun W k1 => ?_) ?_; (obtain ⟨hc1, hf1⟩ := bcell k1;  go_simp; exact comes_c ( KT.out _) (fun wn hbn => k1.trans (hbn.mono k1.size))))
          (try simp only [Act.put, List.setIfInBounds_toArray, List.set_cons_zero, List.set_cons_succ])
          first | refine wpH_skip (by rfl) ?_ | (refine wpH_text (v := .agg #[.int .i64 q1, .int .i64 q2]) (by rfl) (fun W k1 => ?_) ?_; (obtain ⟨hc1, hf1⟩ := bcell k1;  go_simp; exact comes_c ( KP.out _) (fun wn hbn => k1.trans (hbn.mono k1.size))))
          (try simp only [Act.put, List.setIfInBounds_toArray, List.set_cons_zero, List.set_cons_succ])
          refine wpH_nil ?_
          intro W k1; obtain ⟨hc1, hf1⟩ := bcell k1
          refine ⟨.slice (some ⟨W.heap.size, 0, none⟩) 1 1, W.alloc (.cells #[.int .i64 q1, .int .i64 q2] 40), (by go_simp), ?_⟩
          (try simp only [Act.put, List.setIfInBounds_toArray, List.set_cons_zero, List.set_cons_succ])
          have B1 := hBl.trans ((BW1.mono hBl.size).trans (k1.mono (by have := BW1.size; have := hBl.size; omega)))
          have R1 := row_below (row_below hr.out BW1 (Nat.le_refl _)) k1 (Nat.le_refl _)
          have RA := Lib.hid (row_alloc R1 (.cells #[.int .i64 q1, .int .i64 q2] 40))
          have BA := Lib.hid (Below.alloc B1 B1.size (.cells #[.int .i64 q1, .int .i64 q2] 40))
          have hz1 := B1.size
          clear R1 B1 hc1 hf1 s0 s1 hr yW10_0 yW10_1 fW10 r0 r1
          go_wp2_with (at_builtin; refine wpList_append_own _ rfl (.tmp 31) (.tmp 41) 27 rfl W0.heap.size 40 i0 (.agg #[.int .i64 0, .int .i64 0]) 2 16 Try.underlying27 HI.out.1 HI.out.2.1 HI.out.2.2.1 HI.out.2.2.2 rfl (by decide) _ 0 (flat (firsts f 0)) rfl RA.out ⟨W.heap.size, 0, none⟩ 1 1 [.int .i64 q1, .int .i64 q2] rfl rfl (two_cells (by go_simp) (by go_simp)) (two_one _ _) (by unfold maxLen; omega) (by omega) (by simp; omega) ?_)
          intro v' w4 hown hgr _
          have RB := row_push (f := f) (k := 0) BA.out RA.out (by rw [FK.out]; exact hown) hgr
          have R3 := Lib.hid RB.1
          have B3 := RB.2
          clear RB hown hgr BA RA
          have zq : w1.heap.size < w4.heap.size := by have := B3.size; omega
          have r0 := ((bcell B3).1 _ _ zW00).trans yW00_0
          have r1 := ((bcell B3).1 _ _ zW00).trans yW00_1
          go_wp2_with fail
          go_roundg (3 - (0 + 1))
          case measure => omega
          case rel => exact ⟨0 + 1, _, rfl, by omega, rfl, by go_num, B3, zq, r0, r1, R3⟩
        · skip
          have FK := F1
          have IX := index3_1 a1 a2 b1 b2 c1 c2
          obtain ⟨⟨u1, u2⟩, ⟨u3, u4⟩, ⟨u5, u6⟩, ⟨u7, u8⟩, ⟨u9, u10⟩, ⟨u11, u12⟩, g1, g2⟩ := UB.out
          have KM := Lib.hid (fun W => minus_any b1 b2 a1 a2 W (by unfold Mid; omega) (by unfold Mid; omega) (by unfold Mid; omega) (by unfold Mid; omega))
          have m1 := mul_bd (x := b1 - a1) (y := k) (m := 80) (n := 20) (by omega) (by omega) (by omega) (by omega)
          have m2 := mul_bd (x := b2 - a2) (y := k) (m := 80) (n := 20) (by omega) (by omega) (by omega) (by omega)
          have KT := Lib.hid (fun W => times_any (b1 - a1) (b2 - a2) k W (by omega) (by omega))
          have KP := Lib.hid (fun W => plus_any a1 a2 ((b1 - a1) * k) ((b2 - a2) * k) W (by unfold Mid; omega) (by unfold Mid; omega) (by unfold Mid; omega) (by unfold Mid; omega))
          clear m1 m2 u1 u2 u3 u4 u5 u6 u7 u8 u9 u10 u11 u12 g1 g2
          generalize a1 + (b1 - a1) * k = q1 at *
          generalize a2 + (b2 - a2) * k = q2 at *
          generalize (b1 - a1) * k = t1 at *
          generalize (b2 - a2) * k = t2 at *
          generalize b1 - a1 = d1 at *
          generalize b2 - a2 = d2 at *
          go_wp2_with fail
          clear IX
          obtain ⟨W1, hW1⟩ : ∃ W1, W1 = (wo.alloc (.cells #[.int .i64 b1, .int .i64 b2] 40)) := ⟨_, rfl⟩
          rw [← hW1]
          have yW10_0 : W1.cell? ⟨wo.heap.size, 0, none⟩ = some (.int .i64 b1) := by rw [hW1]; go_simp
          have yW10_1 : W1.cell? ⟨wo.heap.size, 1, none⟩ = some (.int .i64 b2) := by rw [hW1]; go_simp
          have fW10 : ∀ o, W1.frozen? ⟨wo.heap.size, o, none⟩ = false := by intro o; rw [hW1]; (repeat rw [frozen?_alloc_cells]); simp [World.frozen?]
          have zW10 : wo.heap.size < W1.heap.size := by rw [hW1]; simp <;> omega
          have BW1 : Below wo.heap.size wo W1 := by rw [hW1]; exact (Below.alloc (Below.refl _ _) (by simp <;> omega) _)
          have eW1 : Hid (W1.heap.size = wo.heap.size + 1) := Lib.hid (by rw [hW1]; simp)
          clear hW1
          have s0 := ((bcell BW1).1 _ _ zo).trans r0
          have s1 := ((bcell BW1).1 _ _ zo).trans r1
          have zp : w1.heap.size < W1.heap.size := by have := BW1.size; omega
          go_wp2_with fail
          refine wp_region_AP 10 (fun W => Below (W1).heap.size (W1) W) (by kernel_rfl) (by kernel_rfl) (by repeat (first | exact Below.refl _ _ | apply Below.drew)) rfl rfl (by kernel_rfl) (fun _ => by rfl) (by rfl) (fun _ => by rfl) ?_
          (try simp only [Act.put, List.setIfInBounds_toArray, List.set_cons_zero, List.set_cons_succ])
          first | refine wpH_skip (by rfl) ?_ | (refine wpH_text (v := ?_) (by rfl) (fun W k1 => ?_) ?_; rotate_left; (obtain ⟨hc1, hf1⟩ := bcell k1;  go_simp; refine comes_v ?_; exact k1))
          (try simp only [Act.put, List.setIfInBounds_toArray, List.set_cons_zero, List.set_cons_succ])
          first | refine wpH_skip (by rfl) ?_ | (refine wpH_text (v := ?_) (by rfl) (fun W k1 => ?_) ?_; rotate_left; (obtain ⟨hc1, hf1⟩ := bcell k1;  go_simp; refine comes_v ?_; exact k1))
          (try simp only [Act.put, List.setIfInBounds_toArray, List.set_cons_zero, List.set_cons_succ])
          first | refine wpH_skip (by rfl) ?_ | (refine wpH_text (v := ?_) (by rfl) (fun W k1 => ?_) ?_; rotate_left; (obtain ⟨hc1, hf1⟩ := bcell k1;  go_simp; refine comes_v ?_; exact k1))
          (try simp only [Act.put, List.setIfInBounds_toArray, List.set_cons_zero, List.set_cons_succ])
          first | refine wpH_skip (by rfl) ?_ | (refine wpH_text (v := ?_) (by rfl) (fun W k1 => ?_) ?_; rotate_left; (obtain ⟨hc1, hf1⟩ := bcell k1;  go_simp; refine comes_v ?_; exact k1))
          (try simp only [Act.put, List.setIfInBounds_toArray, List.set_cons_zero, List.set_cons_succ])
          first | refine wpH_skip (by rfl) ?_ | (refine wpH_text (v := ?_) (by rfl) (fun W k1 => ?_) ?_; rotate_left; (obtain ⟨hc1, hf1⟩ := bcell k1;  go_simp; refine comes_v ?_; exact k1))
          (try simp only [Act.put, List.setIfInBounds_toArray, List.set_cons_zero, List.set_cons_succ])
          first | refine wpH_skip (by rfl) ?_ | (refine wpH_text (v := .agg #[.int .i64 d1, .int .i64 d2]) (by rfl) (fun W k1 => ?_) ?_; (obtain ⟨hc1, hf1⟩ := bcell k1;  go_simp; exact comes_c ( KM.out _) (fun wn hbn => k1.trans (hbn.mono k1.size))))
          (try simp only [Act.put, List.setIfInBounds_toArray, List.set_cons_zero, List.set_cons_succ])
          first | refine wpH_skip (by rfl) ?_ | (refine wpH_text (v := ?_) (by rfl) (fun W k1 => ?_) ?_; rotate_left; (obtain ⟨hc1, hf1⟩ := bcell k1;  go_simp; refine comes_v ?_; exact k1))
          (try simp only [Act.put, List.setIfInBounds_toArray, List.set_cons_zero, List.set_cons_succ])
          first | refine wpH_skip (by rfl) ?_ | (refine wpH_text (v := .agg #[.int .i64 t1, .int .i64 t2]) (by rfl) (fun W k1 => ?_) ?_; (obtain ⟨hc1, hf1⟩ := bcell k1;  go_simp; exact comes_c ( KT.out _) (fun wn hbn => k1.trans (hbn.mono k1.size))))
          (try simp only [Act.put, List.setIfInBounds_toArray, List.set_cons_zero, List.set_cons_succ])
          first | refine wpH_skip (by rfl) ?_ | (refine wpH_text (v := .agg #[.int .i64 q1, .int .i64 q2]) (by rfl) (fun W k1 => ?_) ?_; (obtain ⟨hc1, hf1⟩ := bcell k1;  go_simp; exact comes_c ( KP.out _) (fun wn hbn => k1.trans (hbn.mono k1.size))))
          (try simp only [Act.put, List.setIfInBounds_toArray, List.set_cons_zero, List.set_cons_succ])
          refine wpH_nil ?_
          intro W k1; obtain ⟨hc1, hf1⟩ := bcell k1
          refine ⟨.slice (some ⟨W.heap.size, 0, none⟩) 1 1, W.alloc (.cells #[.int .i64 q1, .int .i64 q2] 40), (by go_simp), ?_⟩
          (try simp only [Act.put, List.setIfInBounds_toArray, List.set_cons_zero, List.set_cons_succ])
          have B1 := hBl.trans ((BW1.mono hBl.size).trans (k1.mono (by have := BW1.size; have := hBl.size; omega)))
          have R1 := row_below (row_below hr.out BW1 (Nat.le_refl _)) k1 (Nat.le_refl _)
          have RA := Lib.hid (row_alloc R1 (.cells #[.int .i64 q1, .int .i64 q2] 40))
          have BA := Lib.hid (Below.alloc B1 B1.size (.cells #[.int .i64 q1, .int .i64 q2] 40))
          have hz1 := B1.size
          clear R1 B1 hc1 hf1 s0 s1 hr yW10_0 yW10_1 fW10 r0 r1
          go_wp2_with (at_builtin; refine wpList_append_own _ rfl (.tmp 31) (.tmp 41) 27 rfl W0.heap.size 40 i0 (.agg #[.int .i64 0, .int .i64 0]) 2 16 Try.underlying27 HI.out.1 HI.out.2.1 HI.out.2.2.1 HI.out.2.2.2 rfl (by decide) _ 1 (flat (firsts f 1)) rfl RA.out ⟨W.heap.size, 0, none⟩ 1 1 [.int .i64 q1, .int .i64 q2] rfl rfl (two_cells (by go_simp) (by go_simp)) (two_one _ _) (by unfold maxLen; omega) (by omega) (by simp; omega) ?_)
          intro v' w4 hown hgr _
          have RB := row_push (f := f) (k := 1) BA.out RA.out (by rw [FK.out]; exact hown) hgr
          have R3 := Lib.hid RB.1
          have B3 := RB.2
          clear RB hown hgr BA RA
          have zq : w1.heap.size < w4.heap.size := by have := B3.size; omega
          have r0 := ((bcell B3).1 _ _ zW00).trans yW00_0
          have r1 := ((bcell B3).1 _ _ zW00).trans yW00_1
          go_wp2_with fail
          go_roundg (3 - (1 + 1))
          case measure => omega
          case rel => exact ⟨1 + 1, _, rfl, by omega, rfl, by go_num, B3, zq, r0, r1, R3⟩
        · skip
          have FK := F2
          have IX := index3_2 a1 a2 b1 b2 c1 c2
          obtain ⟨⟨u1, u2⟩, ⟨u3, u4⟩, ⟨u5, u6⟩, ⟨u7, u8⟩, ⟨u9, u10⟩, ⟨u11, u12⟩, g1, g2⟩ := UB.out
          have KM := Lib.hid (fun W => minus_any c1 c2 a1 a2 W (by unfold Mid; omega) (by unfold Mid; omega) (by unfold Mid; omega) (by unfold Mid; omega))
          have m1 := mul_bd (x := c1 - a1) (y := k) (m := 80) (n := 20) (by omega) (by omega) (by omega) (by omega)
          have m2 := mul_bd (x := c2 - a2) (y := k) (m := 80) (n := 20) (by omega) (by omega) (by omega) (by omega)
          have KT := Lib.hid (fun W => times_any (c1 - a1) (c2 - a2) k W (by omega) (by omega))
          have KP := Lib.hid (fun W => plus_any a1 a2 ((c1 - a1) * k) ((c2 - a2) * k) W (by unfold Mid; omega) (by unfold Mid; omega) (by unfold Mid; omega) (by unfold Mid; omega))
          clear m1 m2 u1 u2 u3 u4 u5 u6 u7 u8 u9 u10 u11 u12 g1 g2
          generalize a1 + (c1 - a1) * k = q1 at *
          generalize a2 + (c2 - a2) * k = q2 at *
          generalize (c1 - a1) * k = t1 at *
          generalize (c2 - a2) * k = t2 at *
          generalize c1 - a1 = d1 at *
          generalize c2 - a2 = d2 at *
          go_wp2_with fail
          clear IX
          obtain ⟨W1, hW1⟩ : ∃ W1, W1 = (wo.alloc (.cells #[.int .i64 c1, .int .i64 c2] 40)) := ⟨_, rfl⟩
          rw [← hW1]
          have yW10_0 : W1.cell? ⟨wo.heap.size, 0, none⟩ = some (.int .i64 c1) := by rw [hW1]; go_simp
          have yW10_1 : W1.cell? ⟨wo.heap.size, 1, none⟩ = some (.int .i64 c2) := by rw [hW1]; go_simp
          have fW10 : ∀ o, W1.frozen? ⟨wo.heap.size, o, none⟩ = false := by intro o; rw [hW1]; (repeat rw [frozen?_alloc_cells]); simp [World.frozen?]
          have zW10 : wo.heap.size < W1.heap.size := by rw [hW1]; simp <;> omega
          have BW1 : Below wo.heap.size wo W1 := by rw [hW1]; exact (Below.alloc (Below.refl _ _) (by simp <;> omega) _)
          have eW1 : Hid (W1.heap.size = wo.heap.size + 1) := Lib.hid (by rw [hW1]; simp)
          clear hW1
          have s0 := ((bcell BW1).1 _ _ zo).trans r0
          have s1 := ((bcell BW1).1 _ _ zo).trans r1
          have zp : w1.heap.size < W1.heap.size := by have := BW1.size; omega
          go_wp2_with fail
          refine wp_region_AP 10 (fun W => Below (W1).heap.size (W1) W) (by kernel_rfl) (by kernel_rfl) (by repeat (first | exact Below.refl _ _ | apply Below.drew)) rfl rfl (by kernel_rfl) (fun _ => by rfl) (by rfl) (fun _ => by rfl) ?_
          (try simp only [Act.put, List.setIfInBounds_toArray, List.set_cons_zero, List.set_cons_succ])
          first | refine wpH_skip (by rfl) ?_ | (refine wpH_text (v := ?_) (by rfl) (fun W k1 => ?_) ?_; rotate_left; (obtain ⟨hc1, hf1⟩ := bcell k1;  go_simp; refine comes_v ?_; exact k1))
          (try simp only [Act.put, List.setIfInBounds_toArray, List.set_cons_zero, List.set_cons_succ])
          first | refine wpH_skip (by rfl) ?_ | (refine wpH_text (v := ?_) (by rfl) (fun W k1 => ?_) ?_; rotate_left; (obtain ⟨hc1, hf1⟩ := bcell k1;  go_simp; refine comes_v ?_; exact k1))
          (try simp only [Act.put, List.setIfInBounds_toArray, List.set_cons_zero, List.set_cons_succ])
          first | refine wpH_skip (by rfl) ?_ | (refine wpH_text (v := ?_) (by rfl) (fun W k1 => ?_) ?_; rotate_left; (obtain ⟨hc1, hf1⟩ := bcell k1;  go_simp; refine comes_v ?_; exact k1))
          (try simp only [Act.put, List.setIfInBounds_toArray, List.set_cons_zero, List.set_cons_succ])
          first | refine wpH_skip (by rfl) ?_ | (refine wpH_text (v := ?_) (by rfl) (fun W k1 => ?_) ?_; rotate_left; (obtain ⟨hc1, hf1⟩ := bcell k1;  go_simp; refine comes_v ?_; exact k1))
          (try simp only [Act.put, List.setIfInBounds_toArray, List.set_cons_zero, List.set_cons_succ])
          first | refine wpH_skip (by rfl) ?_ | (refine wpH_text (v := ?_) (by rfl) (fun W k1 => ?_) ?_; rotate_left; (obtain ⟨hc1, hf1⟩ := bcell k1;  go_simp; refine comes_v ?_; exact k1))
          (try simp only [Act.put, List.setIfInBounds_toArray, List.set_cons_zero, List.set_cons_succ])
          first | refine wpH_skip (by rfl) ?_ | (refine wpH_text (v := .agg #[.int .i64 d1, .int .i64 d2]) (by rfl) (fun W k1 => ?_) ?_; (obtain ⟨hc1, hf1⟩ := bcell k1;  go_simp; exact comes_c ( KM.out _) (fun wn hbn => k1.trans (hbn.mono k1.size))))
          (try simp only [Act.put, List.setIfInBounds_toArray, List.set_cons_zero, List.set_cons_succ])
          first | refine wpH_skip (by rfl) ?_ | (refine wpH_text (v := ?_) (by rfl) (fun W k1 => ?_) ?_; rotate_left; (obtain ⟨hc1, hf1⟩ := bcell k1;  go_simp; refine comes_v ?_; exact k1))
          (try simp only [Act.put, List.setIfInBounds_toArray, List.set_cons_zero, List.set_cons_succ])
          first | refine wpH_skip (by rfl) ?_ | (refine wpH_text (v := .agg #[.int .i64 t1, .int .i64 t2]) (by rfl) (fun W k1 => ?_) ?_; (obtain ⟨hc1, hf1⟩ := bcell k1;  go_simp; exact comes_c ( KT.out _) (fun wn hbn => k1.trans (hbn.mono k1.size))))
          (try simp only [Act.put, List.setIfInBounds_toArray, List.set_cons_zero, List.set_cons_succ])
          first | refine wpH_skip (by rfl) ?_ | (refine wpH_text (v := .agg #[.int .i64 q1, .int .i64 q2]) (by rfl) (fun W k1 => ?_) ?_; (obtain ⟨hc1, hf1⟩ := bcell k1;  go_simp; exact comes_c ( KP.out _) (fun wn hbn => k1.trans (hbn.mono k1.size))))
          (try simp only [Act.put, List.setIfInBounds_toArray, List.set_cons_zero, List.set_cons_succ])
          refine wpH_nil ?_
          intro W k1; obtain ⟨hc1, hf1⟩ := bcell k1
          refine ⟨.slice (some ⟨W.heap.size, 0, none⟩) 1 1, W.alloc (.cells #[.int .i64 q1, .int .i64 q2] 40), (by go_simp), ?_⟩
          (try simp only [Act.put, List.setIfInBounds_toArray, List.set_cons_zero, List.set_cons_succ])
          have B1 := hBl.trans ((BW1.mono hBl.size).trans (k1.mono (by have := BW1.size; have := hBl.size; omega)))
          have R1 := row_below (row_below hr.out BW1 (Nat.le_refl _)) k1 (Nat.le_refl _)
          have RA := Lib.hid (row_alloc R1 (.cells #[.int .i64 q1, .int .i64 q2] 40))
          have BA := Lib.hid (Below.alloc B1 B1.size (.cells #[.int .i64 q1, .int .i64 q2] 40))
          have hz1 := B1.size
          clear R1 B1 hc1 hf1 s0 s1 hr yW10_0 yW10_1 fW10 r0 r1
          go_wp2_with (at_builtin; refine wpList_append_own _ rfl (.tmp 31) (.tmp 41) 27 rfl W0.heap.size 40 i0 (.agg #[.int .i64 0, .int .i64 0]) 2 16 Try.underlying27 HI.out.1 HI.out.2.1 HI.out.2.2.1 HI.out.2.2.2 rfl (by decide) _ 2 (flat (firsts f 2)) rfl RA.out ⟨W.heap.size, 0, none⟩ 1 1 [.int .i64 q1, .int .i64 q2] rfl rfl (two_cells (by go_simp) (by go_simp)) (two_one _ _) (by unfold maxLen; omega) (by omega) (by simp; omega) ?_)
          intro v' w4 hown hgr _
          have RB := row_push (f := f) (k := 2) BA.out RA.out (by rw [FK.out]; exact hown) hgr
          have R3 := Lib.hid RB.1
          have B3 := RB.2
          clear RB hown hgr BA RA
          have zq : w1.heap.size < w4.heap.size := by have := B3.size; omega
          have r0 := ((bcell B3).1 _ _ zW00).trans yW00_0
          have r1 := ((bcell B3).1 _ _ zW00).trans yW00_1
          go_wp2_with fail
          go_roundg (3 - (2 + 1))
          case measure => omega
          case rel => exact ⟨2 + 1, _, rfl, by omega, rfl, by go_num, B3, zq, r0, r1, R3⟩
        · skip
          obtain ⟨A3, c3, hv, h1, h2, hrw⟩ := row_out hr.out
          subst hv
          have hzB := hBl.size
          have B1 := hb1.trans ((BW0.trans (hBl.mono BW0.size)).mono hb1.size)
          have hw1 := B1.size
          have RW := Lib.hid (rw_more (lo' := w.heap.size) hrw (by have := BW0.size; have := hb1.size; omega) (Nat.le_refl _))
          have KB := Lib.hid (KA.out wo A3 c3 RW.out)
          clear hrw hr r0 r1 yW00_0 yW00_1
          cases hab : allB f 3
          · rw [hab] at KB
            have HAB := Lib.hid hab
            clear hab
            go_wp2_with fail
            refine KB.out.mono ?_; rintro e w5 ⟨rfl, hb5⟩
            have B2 := B1.trans (hb5.mono hw1)
            go_wp2_with fail
            go_ret2
            rw [HAB.out]
            exact retL_nil B2
          · rw [hab] at KB
            have HAB := Lib.hid hab
            clear hab
            go_wp2_with fail
            refine KB.out.mono ?_; rintro e w5 ⟨rfl, hb5⟩
            have B2 := B1.trans (hb5.mono hw1)
            have RW2 := Lib.hid (rw_below RW.out hb5 (Nat.le_refl _))
            have hz5 := hb5.size
            go_wp2_with fail
            go_ret2
            rw [HAB.out]
            exact retL_of_rw RW2.out (Nat.le_refl _) hz5 h1 h2 B2
    · have hkf : inR 1 20 k = false := by simpa using hk
      rw [hkf, Bool.false_and]
      unfold inR at hkf
      simp at hkf
      clear ht htr hR hk
      by_cases k3 : k < 1
      · go_enter Try.func30, Try.ntmps30
        go_wp2_with fail
        refine K.out.mono ?_; rintro e w1 ⟨rfl, hb1⟩
        have BA := Below.alloc hb1 hb1.size (.cells #[.int .i64 a1, .int .i64 a2, .int .i64 b1, .int .i64 b2, .int .i64 c1, .int .i64 c2] 60)
        go_wp2_with fail
        go_ret2
        exact retL_nil BA
      · have k4 : 20 < k := by omega
        clear hkf
        go_enter Try.func30, Try.ntmps30
        go_wp2_with fail
        refine K.out.mono ?_; rintro e w1 ⟨rfl, hb1⟩
        have BA := Below.alloc hb1 hb1.size (.cells #[.int .i64 a1, .int .i64 a2, .int .i64 b1, .int .i64 b2, .int .i64 c1, .int .i64 c2] 60)
        go_wp2_with fail
        go_ret2
        exact retL_nil BA
  · have K := Lib.hid (threeOf_f A c l w hn hR ht)
    have htf : tB l = false := by simpa using ht
    rw [htf, Bool.false_and, Bool.false_and]
    clear ht htf hR
    go_enter Try.func30, Try.ntmps30
    go_wp2_with fail
    refine K.out.mono ?_; rintro e w1 ⟨rfl, hb1⟩
    have BA := Below.alloc hb1 hb1.size (.cells #[.int .i64 0, .int .i64 0, .int .i64 0, .int .i64 0, .int .i64 0, .int .i64 0] 60)
    go_wp2_with fail
    go_ret2
    exact retL_nil BA
end Go.Proofs.Ytnkfeapdcjnnkaa
