/- contracts: BoxOfThree, the model -/
import Derived.Test.YtgjegildeejghaaMl
import Derived.Test.YtgjegildeejghaaTw0
namespace Go.Proofs.Ytgjegildeejghaa
open Go.ChangeShapes Go.WideShapes Go.ChangeAt Go.RowKit Go.Joins
set_option linter.unusedVariables false
set_option linter.unusedSimpArgs false
set_option maxRecDepth 4000
set_option maxRecDepth 100000 in
set_option maxHeartbeats 4000000 in
theorem specBoxOfThree_any (A : Option Addr) (c : Nat) (l : List (Int × Int)) (w : World) (hn : l.length ≤ 1048576) (hcap : l.length ≤ c) (hc2 : c ≤ 9223372036854775807) (hR : Rd w w.heap.size A l) :
    Calls Try.prog 39 #[.slice A l.length c] w fun e w' => e = .returned (.tuple #[.agg #[.int .i64 (bxS l 0), .int .i64 (bxS l 1)], .agg #[.int .i64 (bxS l 2), .int .i64 (bxS l 3)], .bool (tB l)]) ∧ Below w.heap.size w w' := by
  have K := Lib.hid (fun W (hb : Below w.heap.size w W) => trThree_any A c l W hn hcap hc2 (rd_more (rd_below hR hb (Nat.le_refl _)) hb.size))
  have HB := Lib.hid (Below.alloc (Below.alloc (Below.refl w.heap.size w) (Nat.le_refl _) (.cells #[.int .i64 0, .int .i64 0] 46)) (by simp) (.cells #[.int .i64 0, .int .i64 0] 46))
  by_cases ht : tB l = true
  · obtain ⟨a1, a2, b1, b2, c1, c2, htr⟩ := tB_true ht
    have l3 : l.length = 3 := by rw [htr.1]; rfl
    obtain ⟨b, off, rfl, hb, HC⟩ := pts_of (by omega) hR
    have e0 : bxS l 0 = (loN l 3).1 := by unfold bxS; rw [if_pos ht]; rfl
    have e1 : bxS l 1 = (loN l 3).2 := by unfold bxS; rw [if_pos ht]; rfl
    have e2 : bxS l 2 = (hiN l 3).1 := by unfold bxS; rw [if_pos ht]; rfl
    have e3 : bxS l 3 = (hiN l 3).2 := by unfold bxS; rw [if_pos ht]; rfl
    rw [e0, e1, e2, e3]
    rw [ht] at K ⊢
    rw [l3] at K HC ⊢
    clear ht htr hR hn hcap l3 e0 e1 e2 e3
    go_enter Try.func39, Try.ntmps39
    go_wp2_with fail
    refine (K.out _ HB.out).mono ?_; rintro e w1 ⟨rfl, hb1'⟩
    have hb1 := HB.out.trans (hb1'.mono HB.out.size)
    have q1 : w.heap.size < w1.heap.size := by (have := hb1'.size; simp at this; omega)
    have q2 : w.heap.size + 1 < w1.heap.size := by (have := hb1'.size; simp at this; omega)
    have x0 := HC.out w1 hb1 0 (by omega)
    simp only [Nat.zero_mul, Nat.add_zero] at x0
    obtain ⟨x0, x1⟩ := x0
    go_wp2_with fail
    have hbz : b < w1.heap.size := by have := hb1.size; omega
    have hcR := (bcell hb1').1
    have hfR := (bcell hb1').2
    have RC := Lib.hid (And.intro ((hcR w.heap.size 0 (by simp <;> omega)).trans (by go_simp : _ = some (.int .i64 0))) (And.intro ((hcR w.heap.size 1 (by simp <;> omega)).trans (by go_simp : _ = some (.int .i64 0))) (And.intro ((hcR (w.heap.size + 1) 0 (by simp <;> omega)).trans (by go_simp : _ = some (.int .i64 0))) ((hcR (w.heap.size + 1) 1 (by simp <;> omega)).trans (by go_simp : _ = some (.int .i64 0))))))
    have RF : Hid (∀ o, w1.frozen? ⟨w.heap.size, o, none⟩ = false ∧ w1.frozen? ⟨w.heap.size + 1, o, none⟩ = false) := Lib.hid (fun o => by
      rw [hfR _ _ (by simp <;> omega), hfR _ _ (by simp <;> omega), frozen?_alloc_cells, frozen?_alloc_cells, frozen?_alloc_cells, frozen?_alloc_cells]
      simp [World.frozen?])
    clear hcR hfR hb1'
    go_region
    · skip
      have T0 := Lib.hid (two_new (p := vx l 0) (t := 46) (Below.refl w1.heap.size w1))
      obtain ⟨W0, hW0⟩ : ∃ W0, W0 = ((w1.alloc (.cells #[.int .i64 (vx l 0).1, .int .i64 (vx l 0).2] 46)).alloc (.cells #[.int .i64 (vx l 0).1, .int .i64 (vx l 0).2] 46)) := ⟨_, rfl⟩
      rw [← hW0] at T0 ⊢
      clear hW0 x0 x1
      obtain ⟨h, hp⟩ : ∃ x, x = w1.heap.size + 1 := ⟨_, rfl⟩
      rw [← hp] at T0 ⊢
      obtain ⟨g, hq⟩ : ∃ x, x = w1.heap.size := ⟨_, rfl⟩
      rw [← hq] at T0 ⊢
      clear hp hq
      have T1 : Hid (Two w1 W0.drew g h (loN l 0) (hiN l 0)) := Lib.hid (by have := T0.out; exact ⟨this.below.drew, this.g0, this.g1, this.h0, this.h1, this.gf, this.hf, this.lo1, this.lo2, this.up1, this.up2, this.ne⟩)
      clear T0
      go_wp2_with fail
      go_loopg [22] 3 (fun gg i wr => ∃ k : Nat, k ≤ 3 ∧ gg = 3 - k ∧ i = .int .i64 k ∧ Hid (Two w1 wr g h (loN l k) (hiN l k)))
      case atStart => exact ⟨0, Nat.zero_le _, rfl, rfl, T1⟩
      case round =>
        clear T1
        obtain ⟨k, hk, hgg, rfl, hT⟩ := hrel
        rename World => wo
        have HGK := Lib.hid hgg
        clear hgg
        have t1 := hT.out.g0
        have t2 := hT.out.g1
        have t3 := hT.out.h0
        have t4 := hT.out.h1
        have t5 := hT.out.up1
        have t6 := hT.out.up2
        have zw := hT.out.below.size
        by_cases hlt : k < 3
        · obtain ⟨x0, x1⟩ := HC.out wo (hb1.trans (hT.out.below.mono hb1.size)) k hlt
          have hbo : b < wo.heap.size := by have := hb1.size; omega
          have L1 : Hid (loN l (k + 1) = (min (loN l k).1 (vx l k).1, min (loN l k).2 (vx l k).2)) := Lib.hid rfl
          have L2 : Hid (hiN l (k + 1) = (max (hiN l k).1 (vx l k).1, max (hiN l k).2 (vx l k).2)) := Lib.hid rfl
          have K1 := Lib.hid (fun W => l1Least_any (loN l k).1 (vx l k).1 W)
          have K2 := Lib.hid (fun W => l1Least_any (loN l k).2 (vx l k).2 W)
          have K3 := Lib.hid (fun W => l1Most_any (hiN l k).1 (vx l k).1 W)
          have K4 := Lib.hid (fun W => l1Most_any (hiN l k).2 (vx l k).2 W)
          generalize loN l k = lo at *
          generalize hiN l k = hi at *
          go_wp2_with fail
          obtain ⟨W1, hW1⟩ : ∃ W1, W1 = (wo.alloc (.cells #[.int .i64 ((vx l k).1), .int .i64 ((vx l k).2)] 46)) := ⟨_, rfl⟩
          rw [← hW1]
          have yW10_0 : W1.cell? ⟨wo.heap.size, 0, none⟩ = some (.int .i64 ((vx l k).1)) := by rw [hW1]; go_simp
          have yW10_1 : W1.cell? ⟨wo.heap.size, 1, none⟩ = some (.int .i64 ((vx l k).2)) := by rw [hW1]; go_simp
          have fW10 : ∀ o, W1.frozen? ⟨wo.heap.size, o, none⟩ = false := by intro o; rw [hW1]; (repeat rw [frozen?_alloc_cells]); simp [World.frozen?]
          have zW10 : wo.heap.size < W1.heap.size := by rw [hW1]; simp <;> omega
          have BW1 : Below wo.heap.size wo W1 := by rw [hW1]; exact (Below.alloc (Below.refl _ _) (by simp <;> omega) _)
          have eW1 : Hid (W1.heap.size = wo.heap.size + 1) := Lib.hid (by rw [hW1]; simp)
          clear hW1
          have T1 := Lib.hid (two_below hT.out BW1)
          have s1 := T1.out.g0
          have s2 := T1.out.g1
          have zg := T1.out.up1
          have zp := zW10
          have cg := t5
          clear hT t1 t2 t3 t4 t5 t6 x0 x1
          generalize min lo.1 (vx l k).1 = m1 at *
          generalize min lo.2 (vx l k).2 = m2 at *
          generalize max hi.1 (vx l k).1 = m3 at *
          generalize max hi.2 (vx l k).2 = m4 at *
          refine wp_region_BT 11 (fun W => Below (W1).heap.size (W1) W) (by kernel_rfl) (by kernel_rfl) (by repeat (first | exact Below.refl _ _ | apply Below.drew)) ?_
          simp only [List.take_succ_cons, List.take_zero, List.drop_succ_cons, List.drop_zero]
          first | refine wpH_skip (by rfl) ?_ | (refine wpH_text (v := ?_) (by rfl) (fun W k1 => ?_) ?_; rotate_left; (obtain ⟨hc1, hf1⟩ := bcell k1;  go_simp; refine comes_v ?_; exact k1))
          (try simp only [Act.put, List.setIfInBounds_toArray, List.set_cons_zero, List.set_cons_succ])
          first | refine wpH_skip (by rfl) ?_ | (refine wpH_text (v := ?_) (by rfl) (fun W k1 => ?_) ?_; rotate_left; (obtain ⟨hc1, hf1⟩ := bcell k1;  go_simp; refine comes_v ?_; exact k1))
          (try simp only [Act.put, List.setIfInBounds_toArray, List.set_cons_zero, List.set_cons_succ])
          first | refine wpH_skip (by rfl) ?_ | (refine wpH_text (v := ?_) (by rfl) (fun W k1 => ?_) ?_; rotate_left; (obtain ⟨hc1, hf1⟩ := bcell k1;  go_simp; refine comes_v ?_; exact k1))
          (try simp only [Act.put, List.setIfInBounds_toArray, List.set_cons_zero, List.set_cons_succ])
          first | refine wpH_skip (by rfl) ?_ | (refine wpH_text (v := ?_) (by rfl) (fun W k1 => ?_) ?_; rotate_left; (obtain ⟨hc1, hf1⟩ := bcell k1;  go_simp; refine comes_v ?_; exact k1))
          (try simp only [Act.put, List.setIfInBounds_toArray, List.set_cons_zero, List.set_cons_succ])
          first | refine wpH_skip (by rfl) ?_ | (refine wpH_text (v := .int .i64 m1) (by rfl) (fun W k1 => ?_) ?_; (obtain ⟨hc1, hf1⟩ := bcell k1;  go_simp; exact comes_q ( K1.out _) k1))
          (try simp only [Act.put, List.setIfInBounds_toArray, List.set_cons_zero, List.set_cons_succ])
          first | refine wpH_skip (by rfl) ?_ | (refine wpH_text (v := ?_) (by rfl) (fun W k1 => ?_) ?_; rotate_left; (obtain ⟨hc1, hf1⟩ := bcell k1;  go_simp; refine comes_v ?_; exact k1))
          (try simp only [Act.put, List.setIfInBounds_toArray, List.set_cons_zero, List.set_cons_succ])
          first | refine wpH_skip (by rfl) ?_ | (refine wpH_text (v := ?_) (by rfl) (fun W k1 => ?_) ?_; rotate_left; (obtain ⟨hc1, hf1⟩ := bcell k1;  go_simp; refine comes_v ?_; exact k1))
          (try simp only [Act.put, List.setIfInBounds_toArray, List.set_cons_zero, List.set_cons_succ])
          first | refine wpH_skip (by rfl) ?_ | (refine wpH_text (v := ?_) (by rfl) (fun W k1 => ?_) ?_; rotate_left; (obtain ⟨hc1, hf1⟩ := bcell k1;  go_simp; refine comes_v ?_; exact k1))
          (try simp only [Act.put, List.setIfInBounds_toArray, List.set_cons_zero, List.set_cons_succ])
          first | refine wpH_skip (by rfl) ?_ | (refine wpH_text (v := ?_) (by rfl) (fun W k1 => ?_) ?_; rotate_left; (obtain ⟨hc1, hf1⟩ := bcell k1;  go_simp; refine comes_v ?_; exact k1))
          (try simp only [Act.put, List.setIfInBounds_toArray, List.set_cons_zero, List.set_cons_succ])
          first | refine wpH_skip (by rfl) ?_ | (refine wpH_text (v := .int .i64 m2) (by rfl) (fun W k1 => ?_) ?_; (obtain ⟨hc1, hf1⟩ := bcell k1;  go_simp; exact comes_q ( K2.out _) k1))
          (try simp only [Act.put, List.setIfInBounds_toArray, List.set_cons_zero, List.set_cons_succ])
          first | refine wpH_skip (by rfl) ?_ | (refine wpH_text (v := ?_) (by rfl) (fun W k1 => ?_) ?_; rotate_left; (obtain ⟨hc1, hf1⟩ := bcell k1;  go_simp; refine comes_v ?_; exact k1))
          (try simp only [Act.put, List.setIfInBounds_toArray, List.set_cons_zero, List.set_cons_succ])
          refine wpH_nil ?_
          intro W k1; obtain ⟨hc1, hf1⟩ := bcell k1
          have T2 := Lib.hid (two_low (two_below T1.out k1) m1 m2)
          have T2' := Lib.hid (two_below T1.out k1)
          have c1 := T2'.out.g0
          have c2 := T2'.out.g1
          have c3 := T2'.out.gf 0
          have c4 := T2'.out.gf 1
          have c5 := (hc1 _ 0 zp).trans yW10_0
          have c6 := (hc1 _ 1 zp).trans yW10_1
          have c7 := k1.size
          have c8 := T2'.out.up1
          have cne : g ≠ wo.heap.size := by omega
          have zp2 : wo.heap.size < W.heap.size := by omega
          clear cg
          clear hc1 hf1 k1 s1 s2 zg
          go_wp2_with fail
          obtain ⟨W2, hW2⟩ : ∃ W2, W2 = (W.setCell ⟨g, 0, none⟩ (.int .i64 m1)).setCell ⟨g, 1, none⟩ (.int .i64 m2) := ⟨_, rfl⟩
          rw [← hW2]
          rw [← hW2] at T2
          have d5 : W2.cell? ⟨wo.heap.size, 0, none⟩ = some (.int .i64 (vx l k).1) := by
            rw [hW2, World.cell?_setCell_other _ _ _ _ (fun e => cne (by injection e)), World.cell?_setCell_other _ _ _ _ (fun e => cne (by injection e))]; exact c5
          have d6 : W2.cell? ⟨wo.heap.size, 1, none⟩ = some (.int .i64 (vx l k).2) := by
            rw [hW2, World.cell?_setCell_other _ _ _ _ (fun e => cne (by injection e)), World.cell?_setCell_other _ _ _ _ (fun e => cne (by injection e))]; exact c6
          have zp3 : wo.heap.size < W2.heap.size := by rw [hW2]; simpa [World.setCell] using zp2
          clear hW2 c1 c2 c3 c4 c5 c6 c7 c8 T2'
          have s1 := T2.out.h0
          have s2 := T2.out.h1
          have zh := T2.out.up2
          go_wp2_with fail
          refine wp_region_BT 11 (fun W => Below (W2).heap.size (W2) W) (by kernel_rfl) (by kernel_rfl) (by repeat (first | exact Below.refl _ _ | apply Below.drew)) ?_
          simp only [List.take_succ_cons, List.take_zero, List.drop_succ_cons, List.drop_zero]
          first | refine wpH_skip (by rfl) ?_ | (refine wpH_text (v := ?_) (by rfl) (fun W k1 => ?_) ?_; rotate_left; (obtain ⟨hc1, hf1⟩ := bcell k1;  go_simp; refine comes_v ?_; exact k1))
          (try simp only [Act.put, List.setIfInBounds_toArray, List.set_cons_zero, List.set_cons_succ])
          first | refine wpH_skip (by rfl) ?_ | (refine wpH_text (v := ?_) (by rfl) (fun W k1 => ?_) ?_; rotate_left; (obtain ⟨hc1, hf1⟩ := bcell k1;  go_simp; refine comes_v ?_; exact k1))
          (try simp only [Act.put, List.setIfInBounds_toArray, List.set_cons_zero, List.set_cons_succ])
          first | refine wpH_skip (by rfl) ?_ | (refine wpH_text (v := ?_) (by rfl) (fun W k1 => ?_) ?_; rotate_left; (obtain ⟨hc1, hf1⟩ := bcell k1;  go_simp; refine comes_v ?_; exact k1))
          (try simp only [Act.put, List.setIfInBounds_toArray, List.set_cons_zero, List.set_cons_succ])
          first | refine wpH_skip (by rfl) ?_ | (refine wpH_text (v := ?_) (by rfl) (fun W k1 => ?_) ?_; rotate_left; (obtain ⟨hc1, hf1⟩ := bcell k1;  go_simp; refine comes_v ?_; exact k1))
          (try simp only [Act.put, List.setIfInBounds_toArray, List.set_cons_zero, List.set_cons_succ])
          first | refine wpH_skip (by rfl) ?_ | (refine wpH_text (v := .int .i64 m3) (by rfl) (fun W k1 => ?_) ?_; (obtain ⟨hc1, hf1⟩ := bcell k1;  go_simp; exact comes_q ( K3.out _) k1))
          (try simp only [Act.put, List.setIfInBounds_toArray, List.set_cons_zero, List.set_cons_succ])
          first | refine wpH_skip (by rfl) ?_ | (refine wpH_text (v := ?_) (by rfl) (fun W k1 => ?_) ?_; rotate_left; (obtain ⟨hc1, hf1⟩ := bcell k1;  go_simp; refine comes_v ?_; exact k1))
          (try simp only [Act.put, List.setIfInBounds_toArray, List.set_cons_zero, List.set_cons_succ])
          first | refine wpH_skip (by rfl) ?_ | (refine wpH_text (v := ?_) (by rfl) (fun W k1 => ?_) ?_; rotate_left; (obtain ⟨hc1, hf1⟩ := bcell k1;  go_simp; refine comes_v ?_; exact k1))
          (try simp only [Act.put, List.setIfInBounds_toArray, List.set_cons_zero, List.set_cons_succ])
          first | refine wpH_skip (by rfl) ?_ | (refine wpH_text (v := ?_) (by rfl) (fun W k1 => ?_) ?_; rotate_left; (obtain ⟨hc1, hf1⟩ := bcell k1;  go_simp; refine comes_v ?_; exact k1))
          (try simp only [Act.put, List.setIfInBounds_toArray, List.set_cons_zero, List.set_cons_succ])
          first | refine wpH_skip (by rfl) ?_ | (refine wpH_text (v := ?_) (by rfl) (fun W k1 => ?_) ?_; rotate_left; (obtain ⟨hc1, hf1⟩ := bcell k1;  go_simp; refine comes_v ?_; exact k1))
          (try simp only [Act.put, List.setIfInBounds_toArray, List.set_cons_zero, List.set_cons_succ])
          first | refine wpH_skip (by rfl) ?_ | (refine wpH_text (v := .int .i64 m4) (by rfl) (fun W k1 => ?_) ?_; (obtain ⟨hc1, hf1⟩ := bcell k1;  go_simp; exact comes_q ( K4.out _) k1))
          (try simp only [Act.put, List.setIfInBounds_toArray, List.set_cons_zero, List.set_cons_succ])
          first | refine wpH_skip (by rfl) ?_ | (refine wpH_text (v := ?_) (by rfl) (fun W k1 => ?_) ?_; rotate_left; (obtain ⟨hc1, hf1⟩ := bcell k1;  go_simp; refine comes_v ?_; exact k1))
          (try simp only [Act.put, List.setIfInBounds_toArray, List.set_cons_zero, List.set_cons_succ])
          refine wpH_nil ?_
          intro W k1; obtain ⟨hc1, hf1⟩ := bcell k1
          have T3 := Lib.hid (two_high (two_below T2.out k1) m3 m4)
          have T3' := Lib.hid (two_below T2.out k1)
          have c1 := T3'.out.h0
          have c2 := T3'.out.h1
          have c3 := T3'.out.hf 0
          have c4 := T3'.out.hf 1
          have c8 := T3'.out.up2
          clear hc1 hf1 k1 s1 s2 zh d5 d6 zp3
          have T4 : Hid (Two w1 ((W.setCell ⟨h, 0, none⟩ (.int .i64 m3)).setCell ⟨h, 1, none⟩ (.int .i64 m4)) g h (loN l (k + 1)) (hiN l (k + 1))) := Lib.hid (by rw [L1.out, L2.out]; exact T3.out)
          clear T3 T3'
          go_wp2_with fail
          go_roundg (3 - (k + 1))
          case measure => have := HGK.out; omega
          case rel => exact ⟨k + 1, by omega, rfl, by go_num, T4⟩
        · have hk3 : k = 3 := by omega
          subst hk3
          obtain ⟨r0, r1, r2, r3⟩ := RC.out
          have y0 := (hT.out.below.cell (p := ⟨w.heap.size, 0, none⟩) q1).trans r0
          have y1 := (hT.out.below.cell (p := ⟨w.heap.size, 1, none⟩) q1).trans r1
          have y2 := (hT.out.below.cell (p := ⟨w.heap.size + 1, 0, none⟩) q2).trans r2
          have y3 := (hT.out.below.cell (p := ⟨w.heap.size + 1, 1, none⟩) q2).trans r3
          have f0 := (hT.out.below.frozen (p := ⟨w.heap.size, 0, none⟩) q1).trans (RF.out 0).1
          have f1 := (hT.out.below.frozen (p := ⟨w.heap.size, 1, none⟩) q1).trans (RF.out 1).1
          have f2 := (hT.out.below.frozen (p := ⟨w.heap.size + 1, 0, none⟩) q2).trans (RF.out 0).2
          have f3 := (hT.out.below.frozen (p := ⟨w.heap.size + 1, 1, none⟩) q2).trans (RF.out 1).2
          have zr0 : w.heap.size < wo.heap.size := by omega
          have zr1 : w.heap.size + 1 < wo.heap.size := by omega
          have BW := hb1.trans (hT.out.below.mono hb1.size)
          have l1 := hT.out.lo1
          have l2 := hT.out.lo2
          have n1 : g ≠ w.heap.size := by omega
          have n2 : g ≠ w.heap.size + 1 := by omega
          have n3 : h ≠ w.heap.size := by omega
          have n4 : h ≠ w.heap.size + 1 := by omega
          have n5 := Ne.symm n1
          have n6 := Ne.symm n2
          have n7 := Ne.symm n3
          have n8 := Ne.symm n4
          clear l1 l2
          clear r0 r1 r2 r3 hT
          go_wp2_with fail
          go_region
          go_wp2_with fail
          refine bodyPost_ret (v := .tuple #[.agg #[.int .i64 (loN l 3).1, .int .i64 (loN l 3).2], .agg #[.int .i64 (hiN l 3).1, .int .i64 (hiN l 3).2], .bool true]) (by simp [results, Try.results39, go_sem, zr0, zr1, y0, y1, y2, y3]) rfl ⟨rfl, ?_⟩
          repeat (first | with_reducible assumption | with_reducible exact Below.refl _ _ | with_reducible apply Below.drew | ((with_reducible refine Below.setCell ?_ ?_ _); rotate_left; (first | exact Nat.le_refl _ | omega | (simp <;> omega))) | ((with_reducible refine Below.alloc ?_ ?_ _); rotate_left; (first | omega | (simp <;> omega))))
    · skip
      have T0 := Lib.hid (two_swap (two_new (p := vx l 0) (t := 46) (Below.refl w1.heap.size w1)))
      obtain ⟨W0, hW0⟩ : ∃ W0, W0 = ((w1.alloc (.cells #[.int .i64 (vx l 0).1, .int .i64 (vx l 0).2] 46)).alloc (.cells #[.int .i64 (vx l 0).1, .int .i64 (vx l 0).2] 46)) := ⟨_, rfl⟩
      rw [← hW0] at T0 ⊢
      clear hW0 x0 x1
      obtain ⟨g, hp⟩ : ∃ x, x = w1.heap.size + 1 := ⟨_, rfl⟩
      rw [← hp] at T0 ⊢
      obtain ⟨h, hq⟩ : ∃ x, x = w1.heap.size := ⟨_, rfl⟩
      rw [← hq] at T0 ⊢
      clear hp hq
      have T1 : Hid (Two w1 W0.drew g h (loN l 0) (hiN l 0)) := Lib.hid (by have := T0.out; exact ⟨this.below.drew, this.g0, this.g1, this.h0, this.h1, this.gf, this.hf, this.lo1, this.lo2, this.up1, this.up2, this.ne⟩)
      clear T0
      go_wp2_with fail
      go_loopg [22] 3 (fun gg i wr => ∃ k : Nat, k ≤ 3 ∧ gg = 3 - k ∧ i = .int .i64 k ∧ Hid (Two w1 wr g h (loN l k) (hiN l k)))
      case atStart => exact ⟨0, Nat.zero_le _, rfl, rfl, T1⟩
      case round =>
        clear T1
        obtain ⟨k, hk, hgg, rfl, hT⟩ := hrel
        rename World => wo
        have HGK := Lib.hid hgg
        clear hgg
        have t1 := hT.out.g0
        have t2 := hT.out.g1
        have t3 := hT.out.h0
        have t4 := hT.out.h1
        have t5 := hT.out.up1
        have t6 := hT.out.up2
        have zw := hT.out.below.size
        by_cases hlt : k < 3
        · obtain ⟨x0, x1⟩ := HC.out wo (hb1.trans (hT.out.below.mono hb1.size)) k hlt
          have hbo : b < wo.heap.size := by have := hb1.size; omega
          have L1 : Hid (loN l (k + 1) = (min (loN l k).1 (vx l k).1, min (loN l k).2 (vx l k).2)) := Lib.hid rfl
          have L2 : Hid (hiN l (k + 1) = (max (hiN l k).1 (vx l k).1, max (hiN l k).2 (vx l k).2)) := Lib.hid rfl
          have K1 := Lib.hid (fun W => l1Least_any (loN l k).1 (vx l k).1 W)
          have K2 := Lib.hid (fun W => l1Least_any (loN l k).2 (vx l k).2 W)
          have K3 := Lib.hid (fun W => l1Most_any (hiN l k).1 (vx l k).1 W)
          have K4 := Lib.hid (fun W => l1Most_any (hiN l k).2 (vx l k).2 W)
          generalize loN l k = lo at *
          generalize hiN l k = hi at *
          go_wp2_with fail
          obtain ⟨W1, hW1⟩ : ∃ W1, W1 = (wo.alloc (.cells #[.int .i64 ((vx l k).1), .int .i64 ((vx l k).2)] 46)) := ⟨_, rfl⟩
          rw [← hW1]
          have yW10_0 : W1.cell? ⟨wo.heap.size, 0, none⟩ = some (.int .i64 ((vx l k).1)) := by rw [hW1]; go_simp
          have yW10_1 : W1.cell? ⟨wo.heap.size, 1, none⟩ = some (.int .i64 ((vx l k).2)) := by rw [hW1]; go_simp
          have fW10 : ∀ o, W1.frozen? ⟨wo.heap.size, o, none⟩ = false := by intro o; rw [hW1]; (repeat rw [frozen?_alloc_cells]); simp [World.frozen?]
          have zW10 : wo.heap.size < W1.heap.size := by rw [hW1]; simp <;> omega
          have BW1 : Below wo.heap.size wo W1 := by rw [hW1]; exact (Below.alloc (Below.refl _ _) (by simp <;> omega) _)
          have eW1 : Hid (W1.heap.size = wo.heap.size + 1) := Lib.hid (by rw [hW1]; simp)
          clear hW1
          have T1 := Lib.hid (two_below hT.out BW1)
          have s1 := T1.out.g0
          have s2 := T1.out.g1
          have zg := T1.out.up1
          have zp := zW10
          have cg := t5
          clear hT t1 t2 t3 t4 t5 t6 x0 x1
          generalize min lo.1 (vx l k).1 = m1 at *
          generalize min lo.2 (vx l k).2 = m2 at *
          generalize max hi.1 (vx l k).1 = m3 at *
          generalize max hi.2 (vx l k).2 = m4 at *
          refine wp_region_BT 11 (fun W => Below (W1).heap.size (W1) W) (by kernel_rfl) (by kernel_rfl) (by repeat (first | exact Below.refl _ _ | apply Below.drew)) ?_
          simp only [List.take_succ_cons, List.take_zero, List.drop_succ_cons, List.drop_zero]
          first | refine wpH_skip (by rfl) ?_ | (refine wpH_text (v := ?_) (by rfl) (fun W k1 => ?_) ?_; rotate_left; (obtain ⟨hc1, hf1⟩ := bcell k1;  go_simp; refine comes_v ?_; exact k1))
          (try simp only [Act.put, List.setIfInBounds_toArray, List.set_cons_zero, List.set_cons_succ])
          first | refine wpH_skip (by rfl) ?_ | (refine wpH_text (v := ?_) (by rfl) (fun W k1 => ?_) ?_; rotate_left; (obtain ⟨hc1, hf1⟩ := bcell k1;  go_simp; refine comes_v ?_; exact k1))
          (try simp only [Act.put, List.setIfInBounds_toArray, List.set_cons_zero, List.set_cons_succ])
          first | refine wpH_skip (by rfl) ?_ | (refine wpH_text (v := ?_) (by rfl) (fun W k1 => ?_) ?_; rotate_left; (obtain ⟨hc1, hf1⟩ := bcell k1;  go_simp; refine comes_v ?_; exact k1))
          (try simp only [Act.put, List.setIfInBounds_toArray, List.set_cons_zero, List.set_cons_succ])
          first | refine wpH_skip (by rfl) ?_ | (refine wpH_text (v := ?_) (by rfl) (fun W k1 => ?_) ?_; rotate_left; (obtain ⟨hc1, hf1⟩ := bcell k1;  go_simp; refine comes_v ?_; exact k1))
          (try simp only [Act.put, List.setIfInBounds_toArray, List.set_cons_zero, List.set_cons_succ])
          first | refine wpH_skip (by rfl) ?_ | (refine wpH_text (v := .int .i64 m1) (by rfl) (fun W k1 => ?_) ?_; (obtain ⟨hc1, hf1⟩ := bcell k1;  go_simp; exact comes_q ( K1.out _) k1))
          (try simp only [Act.put, List.setIfInBounds_toArray, List.set_cons_zero, List.set_cons_succ])
          first | refine wpH_skip (by rfl) ?_ | (refine wpH_text (v := ?_) (by rfl) (fun W k1 => ?_) ?_; rotate_left; (obtain ⟨hc1, hf1⟩ := bcell k1;  go_simp; refine comes_v ?_; exact k1))
          (try simp only [Act.put, List.setIfInBounds_toArray, List.set_cons_zero, List.set_cons_succ])
          first | refine wpH_skip (by rfl) ?_ | (refine wpH_text (v := ?_) (by rfl) (fun W k1 => ?_) ?_; rotate_left; (obtain ⟨hc1, hf1⟩ := bcell k1;  go_simp; refine comes_v ?_; exact k1))
          (try simp only [Act.put, List.setIfInBounds_toArray, List.set_cons_zero, List.set_cons_succ])
          first | refine wpH_skip (by rfl) ?_ | (refine wpH_text (v := ?_) (by rfl) (fun W k1 => ?_) ?_; rotate_left; (obtain ⟨hc1, hf1⟩ := bcell k1;  go_simp; refine comes_v ?_; exact k1))
          (try simp only [Act.put, List.setIfInBounds_toArray, List.set_cons_zero, List.set_cons_succ])
          first | refine wpH_skip (by rfl) ?_ | (refine wpH_text (v := ?_) (by rfl) (fun W k1 => ?_) ?_; rotate_left; (obtain ⟨hc1, hf1⟩ := bcell k1;  go_simp; refine comes_v ?_; exact k1))
          (try simp only [Act.put, List.setIfInBounds_toArray, List.set_cons_zero, List.set_cons_succ])
          first | refine wpH_skip (by rfl) ?_ | (refine wpH_text (v := .int .i64 m2) (by rfl) (fun W k1 => ?_) ?_; (obtain ⟨hc1, hf1⟩ := bcell k1;  go_simp; exact comes_q ( K2.out _) k1))
          (try simp only [Act.put, List.setIfInBounds_toArray, List.set_cons_zero, List.set_cons_succ])
          first | refine wpH_skip (by rfl) ?_ | (refine wpH_text (v := ?_) (by rfl) (fun W k1 => ?_) ?_; rotate_left; (obtain ⟨hc1, hf1⟩ := bcell k1;  go_simp; refine comes_v ?_; exact k1))
          (try simp only [Act.put, List.setIfInBounds_toArray, List.set_cons_zero, List.set_cons_succ])
          refine wpH_nil ?_
          intro W k1; obtain ⟨hc1, hf1⟩ := bcell k1
          have T2 := Lib.hid (two_low (two_below T1.out k1) m1 m2)
          have T2' := Lib.hid (two_below T1.out k1)
          have c1 := T2'.out.g0
          have c2 := T2'.out.g1
          have c3 := T2'.out.gf 0
          have c4 := T2'.out.gf 1
          have c5 := (hc1 _ 0 zp).trans yW10_0
          have c6 := (hc1 _ 1 zp).trans yW10_1
          have c7 := k1.size
          have c8 := T2'.out.up1
          have cne : g ≠ wo.heap.size := by omega
          have zp2 : wo.heap.size < W.heap.size := by omega
          clear cg
          clear hc1 hf1 k1 s1 s2 zg
          go_wp2_with fail
          obtain ⟨W2, hW2⟩ : ∃ W2, W2 = (W.setCell ⟨g, 0, none⟩ (.int .i64 m1)).setCell ⟨g, 1, none⟩ (.int .i64 m2) := ⟨_, rfl⟩
          rw [← hW2]
          rw [← hW2] at T2
          have d5 : W2.cell? ⟨wo.heap.size, 0, none⟩ = some (.int .i64 (vx l k).1) := by
            rw [hW2, World.cell?_setCell_other _ _ _ _ (fun e => cne (by injection e)), World.cell?_setCell_other _ _ _ _ (fun e => cne (by injection e))]; exact c5
          have d6 : W2.cell? ⟨wo.heap.size, 1, none⟩ = some (.int .i64 (vx l k).2) := by
            rw [hW2, World.cell?_setCell_other _ _ _ _ (fun e => cne (by injection e)), World.cell?_setCell_other _ _ _ _ (fun e => cne (by injection e))]; exact c6
          have zp3 : wo.heap.size < W2.heap.size := by rw [hW2]; simpa [World.setCell] using zp2
          clear hW2 c1 c2 c3 c4 c5 c6 c7 c8 T2'
          have s1 := T2.out.h0
          have s2 := T2.out.h1
          have zh := T2.out.up2
          go_wp2_with fail
          refine wp_region_BT 11 (fun W => Below (W2).heap.size (W2) W) (by kernel_rfl) (by kernel_rfl) (by repeat (first | exact Below.refl _ _ | apply Below.drew)) ?_
          simp only [List.take_succ_cons, List.take_zero, List.drop_succ_cons, List.drop_zero]
          first | refine wpH_skip (by rfl) ?_ | (refine wpH_text (v := ?_) (by rfl) (fun W k1 => ?_) ?_; rotate_left; (obtain ⟨hc1, hf1⟩ := bcell k1;  go_simp; refine comes_v ?_; exact k1))
          (try simp only [Act.put, List.setIfInBounds_toArray, List.set_cons_zero, List.set_cons_succ])
          first | refine wpH_skip (by rfl) ?_ | (refine wpH_text (v := ?_) (by rfl) (fun W k1 => ?_) ?_; rotate_left; (obtain ⟨hc1, hf1⟩ := bcell k1;  go_simp; refine comes_v ?_; exact k1))
          (try simp only [Act.put, List.setIfInBounds_toArray, List.set_cons_zero, List.set_cons_succ])
          first | refine wpH_skip (by rfl) ?_ | (refine wpH_text (v := ?_) (by rfl) (fun W k1 => ?_) ?_; rotate_left; (obtain ⟨hc1, hf1⟩ := bcell k1;  go_simp; refine comes_v ?_; exact k1))
          (try simp only [Act.put, List.setIfInBounds_toArray, List.set_cons_zero, List.set_cons_succ])
          first | refine wpH_skip (by rfl) ?_ | (refine wpH_text (v := ?_) (by rfl) (fun W k1 => ?_) ?_; rotate_left; (obtain ⟨hc1, hf1⟩ := bcell k1;  go_simp; refine comes_v ?_; exact k1))
          (try simp only [Act.put, List.setIfInBounds_toArray, List.set_cons_zero, List.set_cons_succ])
          first | refine wpH_skip (by rfl) ?_ | (refine wpH_text (v := .int .i64 m3) (by rfl) (fun W k1 => ?_) ?_; (obtain ⟨hc1, hf1⟩ := bcell k1;  go_simp; exact comes_q ( K3.out _) k1))
          (try simp only [Act.put, List.setIfInBounds_toArray, List.set_cons_zero, List.set_cons_succ])
          first | refine wpH_skip (by rfl) ?_ | (refine wpH_text (v := ?_) (by rfl) (fun W k1 => ?_) ?_; rotate_left; (obtain ⟨hc1, hf1⟩ := bcell k1;  go_simp; refine comes_v ?_; exact k1))
          (try simp only [Act.put, List.setIfInBounds_toArray, List.set_cons_zero, List.set_cons_succ])
          first | refine wpH_skip (by rfl) ?_ | (refine wpH_text (v := ?_) (by rfl) (fun W k1 => ?_) ?_; rotate_left; (obtain ⟨hc1, hf1⟩ := bcell k1;  go_simp; refine comes_v ?_; exact k1))
          (try simp only [Act.put, List.setIfInBounds_toArray, List.set_cons_zero, List.set_cons_succ])
          first | refine wpH_skip (by rfl) ?_ | (refine wpH_text (v := ?_) (by rfl) (fun W k1 => ?_) ?_; rotate_left; (obtain ⟨hc1, hf1⟩ := bcell k1;  go_simp; refine comes_v ?_; exact k1))
          (try simp only [Act.put, List.setIfInBounds_toArray, List.set_cons_zero, List.set_cons_succ])
          first | refine wpH_skip (by rfl) ?_ | (refine wpH_text (v := ?_) (by rfl) (fun W k1 => ?_) ?_; rotate_left; (obtain ⟨hc1, hf1⟩ := bcell k1;  go_simp; refine comes_v ?_; exact k1))
          (try simp only [Act.put, List.setIfInBounds_toArray, List.set_cons_zero, List.set_cons_succ])
          first | refine wpH_skip (by rfl) ?_ | (refine wpH_text (v := .int .i64 m4) (by rfl) (fun W k1 => ?_) ?_; (obtain ⟨hc1, hf1⟩ := bcell k1;  go_simp; exact comes_q ( K4.out _) k1))
          (try simp only [Act.put, List.setIfInBounds_toArray, List.set_cons_zero, List.set_cons_succ])
          first | refine wpH_skip (by rfl) ?_ | (refine wpH_text (v := ?_) (by rfl) (fun W k1 => ?_) ?_; rotate_left; (obtain ⟨hc1, hf1⟩ := bcell k1;  go_simp; refine comes_v ?_; exact k1))
          (try simp only [Act.put, List.setIfInBounds_toArray, List.set_cons_zero, List.set_cons_succ])
          refine wpH_nil ?_
          intro W k1; obtain ⟨hc1, hf1⟩ := bcell k1
          have T3 := Lib.hid (two_high (two_below T2.out k1) m3 m4)
          have T3' := Lib.hid (two_below T2.out k1)
          have c1 := T3'.out.h0
          have c2 := T3'.out.h1
          have c3 := T3'.out.hf 0
          have c4 := T3'.out.hf 1
          have c8 := T3'.out.up2
          clear hc1 hf1 k1 s1 s2 zh d5 d6 zp3
          have T4 : Hid (Two w1 ((W.setCell ⟨h, 0, none⟩ (.int .i64 m3)).setCell ⟨h, 1, none⟩ (.int .i64 m4)) g h (loN l (k + 1)) (hiN l (k + 1))) := Lib.hid (by rw [L1.out, L2.out]; exact T3.out)
          clear T3 T3'
          go_wp2_with fail
          go_roundg (3 - (k + 1))
          case measure => have := HGK.out; omega
          case rel => exact ⟨k + 1, by omega, rfl, by go_num, T4⟩
        · have hk3 : k = 3 := by omega
          subst hk3
          obtain ⟨r0, r1, r2, r3⟩ := RC.out
          have y0 := (hT.out.below.cell (p := ⟨w.heap.size, 0, none⟩) q1).trans r0
          have y1 := (hT.out.below.cell (p := ⟨w.heap.size, 1, none⟩) q1).trans r1
          have y2 := (hT.out.below.cell (p := ⟨w.heap.size + 1, 0, none⟩) q2).trans r2
          have y3 := (hT.out.below.cell (p := ⟨w.heap.size + 1, 1, none⟩) q2).trans r3
          have f0 := (hT.out.below.frozen (p := ⟨w.heap.size, 0, none⟩) q1).trans (RF.out 0).1
          have f1 := (hT.out.below.frozen (p := ⟨w.heap.size, 1, none⟩) q1).trans (RF.out 1).1
          have f2 := (hT.out.below.frozen (p := ⟨w.heap.size + 1, 0, none⟩) q2).trans (RF.out 0).2
          have f3 := (hT.out.below.frozen (p := ⟨w.heap.size + 1, 1, none⟩) q2).trans (RF.out 1).2
          have zr0 : w.heap.size < wo.heap.size := by omega
          have zr1 : w.heap.size + 1 < wo.heap.size := by omega
          have BW := hb1.trans (hT.out.below.mono hb1.size)
          have l1 := hT.out.lo1
          have l2 := hT.out.lo2
          have n1 : g ≠ w.heap.size := by omega
          have n2 : g ≠ w.heap.size + 1 := by omega
          have n3 : h ≠ w.heap.size := by omega
          have n4 : h ≠ w.heap.size + 1 := by omega
          have n5 := Ne.symm n1
          have n6 := Ne.symm n2
          have n7 := Ne.symm n3
          have n8 := Ne.symm n4
          clear l1 l2
          clear r0 r1 r2 r3 hT
          go_wp2_with fail
          go_region
          go_wp2_with fail
          refine bodyPost_ret (v := .tuple #[.agg #[.int .i64 (loN l 3).1, .int .i64 (loN l 3).2], .agg #[.int .i64 (hiN l 3).1, .int .i64 (hiN l 3).2], .bool true]) (by simp [results, Try.results39, go_sem, zr0, zr1, y0, y1, y2, y3]) rfl ⟨rfl, ?_⟩
          repeat (first | with_reducible assumption | with_reducible exact Below.refl _ _ | with_reducible apply Below.drew | ((with_reducible refine Below.setCell ?_ ?_ _); rotate_left; (first | exact Nat.le_refl _ | omega | (simp <;> omega))) | ((with_reducible refine Below.alloc ?_ ?_ _); rotate_left; (first | omega | (simp <;> omega))))
  · have htf : tB l = false := by simpa using ht
    have e0 : ∀ i, bxS l i = 0 := fun i => by unfold bxS; rw [if_neg ht]
    rw [e0, e0, e0, e0]
    rw [htf] at K ⊢
    clear ht htf hR e0
    go_enter Try.func39, Try.ntmps39
    go_wp2_with fail
    refine (K.out _ HB.out).mono ?_; rintro e w1 ⟨rfl, hb1'⟩
    have hb1 := HB.out.trans (hb1'.mono HB.out.size)
    have hcR := (bcell hb1').1
    have hfR := (bcell hb1').2
    have y0 : w1.cell? ⟨w.heap.size, 0, none⟩ = some (.int .i64 0) := (hcR w.heap.size 0 (by simp <;> omega)).trans (by go_simp)
    have y1 : w1.cell? ⟨w.heap.size, 1, none⟩ = some (.int .i64 0) := (hcR w.heap.size 1 (by simp <;> omega)).trans (by go_simp)
    have y2 : w1.cell? ⟨w.heap.size + 1, 0, none⟩ = some (.int .i64 0) := (hcR (w.heap.size + 1) 0 (by simp <;> omega)).trans (by go_simp)
    have y3 : w1.cell? ⟨w.heap.size + 1, 1, none⟩ = some (.int .i64 0) := (hcR (w.heap.size + 1) 1 (by simp <;> omega)).trans (by go_simp)
    have f0 : ∀ o, w1.frozen? ⟨w.heap.size, o, none⟩ = false := fun o => by
      rw [hfR _ _ (by simp <;> omega), frozen?_alloc_cells, frozen?_alloc_cells]; simp [World.frozen?]
    have f1 : ∀ o, w1.frozen? ⟨w.heap.size + 1, o, none⟩ = false := fun o => by
      rw [hfR _ _ (by simp <;> omega), frozen?_alloc_cells, frozen?_alloc_cells]; simp [World.frozen?]
    have q1 : w.heap.size < w1.heap.size := by (have := hb1'.size; simp at this; omega)
    have q2 : w.heap.size + 1 < w1.heap.size := by (have := hb1'.size; simp at this; omega)
    clear hcR hfR hb1'
    go_wp2_with fail
    refine bodyPost_ret (v := .tuple #[.agg #[.int .i64 0, .int .i64 0], .agg #[.int .i64 0, .int .i64 0], .bool false]) (by simp [results, Try.results39, go_sem, y0, y1, y2, y3, q1, q2]) rfl ⟨rfl, ?_⟩
    repeat (first | with_reducible assumption | with_reducible exact Below.refl _ _ | with_reducible apply Below.drew | ((with_reducible refine Below.setCell ?_ ?_ _); rotate_left; (first | exact Nat.le_refl _ | omega | (simp <;> omega))) | ((with_reducible refine Below.alloc ?_ ?_ _); rotate_left; (first | omega | (simp <;> omega))))
end Go.Proofs.Ytgjegildeejghaa
