/- joined: VA VB KZ -/
import Derived.Test.YtnhfellgihmdaaaVd
import Derived.Test.YtnhfellgihmdaaaBk
import Derived.Deep.Slices
import Derived.Test.YtnhfellgihmdaaaBj
import Derived.BigRegion
import Derived.WalkMore
import Derived.Test.YtnhfellgihmdaaaMC
import Derived.Test.YtnhfellgihmdaaaMB
import Derived.Deep.CutRange
import Derived.Deep.RegionWith
import Derived.Deep.DeepMust
import Derived.Test.YtnhfellgihmdaaaK
import Derived.LoopTactic
import Derived.Test.YtnhfellgihmdaaaO
import Derived.Test.YtnhfellgihmdaaaLa
import Derived.Test.YtnhfellgihmdaaaL
import Derived.Deep.Fields
/- contracts: corners seen from a point outside, the model and the program -/
namespace Go.Proofs.Ytnhfellgihmdaaa
open Go.ChangeShapes Go.WideShapes Go.ChangeAt Go.RowKit Go.Joins
set_option linter.unusedVariables false
set_option linter.unusedSimpArgs false
set_option maxRecDepth 4000
theorem sq_flip2 (a1 a2 b1 b2 : Int) : (a1 - b1) * (a1 - b1) + (a2 - b2) * (a2 - b2) = MH.sq (b1, b2) (a1, a2) := by unfold MH.sq; simp only; grind
theorem bdFar2_any (a1 a2 b1 b2 : Int) (w : World) (ha : isPg (a1, a2) = true) (hb : isPg (b1, b2) = true) :
    Calls Try.prog 72 #[.agg #[.int .i64 a1, .int .i64 a2], .agg #[.int .i64 b1, .int .i64 b2]] w fun e w' => e = .returned (.int .i64 (MH.sq (b1, b2) (a1, a2))) ∧ Below w.heap.size w w' := by
  have h1 : -40 ≤ a1 ∧ a1 ≤ 40 ∧ -40 ≤ a2 ∧ a2 ≤ 40 := by unfold isPg isPegB at ha; simp at ha; omega
  have h2 : -40 ≤ b1 ∧ b1 ≤ 40 ∧ -40 ≤ b2 ∧ b2 ≤ 40 := by unfold isPg isPegB at hb; simp at hb; omega
  clear ha hb
  obtain ⟨x1, x2, x3, x4⟩ := h1
  obtain ⟨x5, x6, x7, x8⟩ := h2
  obtain ⟨p1, p2⟩ := mul_bd (x := a1 - b1) (y := a1 - b1) (m := 80) (n := 80) (by omega) (by omega) (by omega) (by omega)
  obtain ⟨p3, p4⟩ := mul_bd (x := a2 - b2) (y := a2 - b2) (m := 80) (n := 80) (by omega) (by omega) (by omega) (by omega)
  go_enter Try.func72, Try.ntmps72
  go_wp2
  go_ret
  exact ⟨ret_int (sq_flip2 a1 a2 b1 b2), (by repeat (first | exact Below.refl _ _ | assumption | apply Below.drew | refine Below.alloc ?_ (by simp <;> omega) _))⟩
theorem tw_flip3 (p b c : Int × Int) : MH.tw p c b = - MH.tw p b c := by unfold MH.tw; grind
set_option maxHeartbeats 16000000 in
theorem bdTangent_any (A : Option Addr) (c n : Nat) (l : List (Int × Int)) (p1 p2 sd : Int) (w : World) (hln : l.length = n) (h3 : 3 ≤ n) (hn : n ≤ 60) (hnc : n ≤ c) (hcm : c ≤ 9223372036854775807) (hpg : ∀ x ∈ l, isPg x = true) (hf : isPg (p1, p2) = true) (hsd : sd = 1 ∨ sd = -1) (hR : Rd w w.heap.size A l) :
    Calls Try.prog 76 #[.slice A n c, .agg #[.int .i64 p1, .int .i64 p2], .int .i64 (-sd)] w fun e w' => e = .returned (.agg #[.int .i64 (tanF l (p1, p2) sd (n - 1)).1, .int .i64 (tanF l (p1, p2) sd (n - 1)).2]) ∧ Below w.heap.size w w' := by
  have HN := Lib.hid hln
  have HC : Hid (∀ W, Below w.heap.size w W → ∀ i, i < n → ∃ b off, A = some ⟨b, off, none⟩ ∧ b < w.heap.size ∧ W.cell? ⟨b, off + i * 2, none⟩ = some (.int .i64 (pt l i).1) ∧ W.cell? ⟨b, off + i * 2 + 1, none⟩ = some (.int .i64 (pt l i).2)) := Lib.hid (fun W hW i hi => by
    obtain ⟨b, off, e, hb, hc⟩ := hR (by omega)
    obtain ⟨h1, h2⟩ := hc i _ (pt_get (by omega))
    exact ⟨b, off, e, hb, (hW.cell (p := ⟨b, off + i * 2, none⟩) hb).trans h1, (hW.cell (p := ⟨b, off + i * 2 + 1, none⟩) hb).trans h2⟩)
  have HP : Hid (∀ i, i < n → isPg (pt l i) = true) := Lib.hid (fun i hi => hpg _ (pt_mem (by omega)))
  have HF := Lib.hid hf
  obtain ⟨b, off, hA, hb, x0, x1⟩ := HC.out w (Below.refl _ _) 0 (by omega)
  subst hA
  have hnp0 := Lib.hid (HP.out 0 (by omega))
  obtain ⟨m1, m2, hme⟩ : ∃ m1 m2, pt l 0 = (m1, m2) := ⟨_, _, rfl⟩
  rw [hme] at x0 x1 hnp0
  have HM0 : Hid (tanF l (p1, p2) sd 0 = (m1, m2)) := Lib.hid hme
  have HSD := Lib.hid hsd
  clear hR hln hpg hf hme hsd
  simp only [Nat.zero_mul, Nat.add_zero] at x0 x1
  have hc1 : ¬ c = 1 := by omega
  have hn0 : 0 < n := by omega
  have hc0 : 1 ≤ c := by omega
  go_enter Try.func76, Try.ntmps76
  go_wp2_with fail
  obtain ⟨W1, hW1⟩ : ∃ W1, W1 = (((w.alloc (.cells #[.int .i64 p1, .int .i64 p2] 38)).alloc (.cells #[.int .i64 0, .int .i64 0] 38)).alloc (.cells #[.int .i64 m1, .int .i64 m2] 38)) := ⟨_, rfl⟩
  rw [← hW1]
  have yW10_0 : W1.cell? ⟨w.heap.size, 0, none⟩ = some (.int .i64 p1) := by rw [hW1]; go_simp
  have yW10_1 : W1.cell? ⟨w.heap.size, 1, none⟩ = some (.int .i64 p2) := by rw [hW1]; go_simp
  have fW10 : ∀ o, W1.frozen? ⟨w.heap.size, o, none⟩ = false := by intro o; rw [hW1]; (repeat rw [frozen?_alloc_cells]); simp [World.frozen?]
  have zW10 : w.heap.size < W1.heap.size := by rw [hW1]; simp <;> omega
  have yW11_0 : W1.cell? ⟨w.heap.size + 1, 0, none⟩ = some (.int .i64 0) := by rw [hW1]; go_simp
  have yW11_1 : W1.cell? ⟨w.heap.size + 1, 1, none⟩ = some (.int .i64 0) := by rw [hW1]; go_simp
  have fW11 : ∀ o, W1.frozen? ⟨w.heap.size + 1, o, none⟩ = false := by intro o; rw [hW1]; (repeat rw [frozen?_alloc_cells]); simp [World.frozen?]
  have zW11 : w.heap.size + 1 < W1.heap.size := by rw [hW1]; simp <;> omega
  have yW12_0 : W1.cell? ⟨w.heap.size + 2, 0, none⟩ = some (.int .i64 m1) := by rw [hW1]; go_simp
  have yW12_1 : W1.cell? ⟨w.heap.size + 2, 1, none⟩ = some (.int .i64 m2) := by rw [hW1]; go_simp
  have fW12 : ∀ o, W1.frozen? ⟨w.heap.size + 2, o, none⟩ = false := by intro o; rw [hW1]; (repeat rw [frozen?_alloc_cells]); simp [World.frozen?]
  have zW12 : w.heap.size + 2 < W1.heap.size := by rw [hW1]; simp <;> omega
  have BW1 : Below w.heap.size w W1 := by rw [hW1]; exact (Below.alloc (Below.alloc (Below.alloc (Below.refl _ _) (by simp <;> omega) _) (by simp <;> omega) _) (by simp <;> omega) _)
  have eW1 : Hid (W1.heap.size = w.heap.size + 3) := Lib.hid (by rw [hW1]; simp)
  clear hW1
  have HS1 : NcS w W1 p1 p2 m1 m2 := ⟨BW1, zW12, yW10_0, yW10_1, ⟨_, yW11_0⟩, ⟨_, yW11_1⟩, yW12_0, yW12_1, fW11, fW12⟩
  go_loopg [17] (n - 1) (fun g i wr => ∃ (k : Nat) (n1 n2 : Int), k ≤ n - 1 ∧ g = n - 1 - k ∧ i = .int .i64 k ∧ Hid (tanF l (p1, p2) sd k = (n1, n2)) ∧ Hid (isPg (n1, n2) = true) ∧ Hid (NcS w wr p1 p2 n1 n2))
  case atStart => exact ⟨0, m1, m2, Nat.zero_le _, rfl, rfl, HM0, hnp0, Lib.hid HS1⟩
  case round =>
    obtain ⟨k, n1, n2, hk, hg, rfl, hfo, hnp, hS⟩ := hrel
    rename World => wo
    have HGK := Lib.hid hg
    clear hg yW10_0 yW10_1 fW10 zW10 yW11_0 yW11_1 fW11 zW11 yW12_0 yW12_1 fW12 zW12 BW1 eW1 HS1 x0 x1
    by_cases hlt : k < n - 1
    · obtain ⟨b', off', hA, hb', x0, x1⟩ := HC.out wo hS.out.bel (k + 1) (by omega)
      injection hA with hA
      injection hA with hA1 hA2
      subst hA1 hA2
      rw [show off + (k + 1) * 2 = off + 2 + k * 2 by omega] at x0 x1
      have hki : (k : Int) < (n : Int) - 1 := by omega
      have hpp := HP.out (k + 1) (by omega)
      have HFS : Hid (tanF l (p1, p2) sd (k + 1) = if befB (p1, p2) sd (pt l (k + 1)) (tanF l (p1, p2) sd k) = true then pt l (k + 1) else tanF l (p1, p2) sd k) := Lib.hid rfl
      rw [hfo.out] at HFS
      obtain ⟨r1, r2, hpe⟩ : ∃ r1 r2, pt l (k + 1) = (r1, r2) := ⟨_, _, rfl⟩
      rw [hpe] at x0 x1 hpp HFS
      clear hpe
      have bp := isPg_bd hpp
      have bn := isPg_bd hnp.out
      have bf := isPg_bd HF.out
      simp only at bp bn bf
      have KT := Lib.hid (fun W => pgTurn_any p1 p2 n1 n2 r1 r2 W (by unfold Sz; omega) (by unfold Sz; omega) (by unfold Sz; omega))
      have KF1 := Lib.hid (fun W => bdFar2_any p1 p2 r1 r2 W HF.out hpp)
      have KF2 := Lib.hid (fun W => bdFar2_any p1 p2 n1 n2 W HF.out hnp.out)
      have HPP := Lib.hid hpp
      have HTW : Hid (MH.tw (p1, p2) (r1, r2) (n1, n2) = - twI p1 p2 n1 n2 r1 r2) := Lib.hid (tw_flip3 (p1, p2) (n1, n2) (r1, r2))
      have hbig : -12800 ≤ twI p1 p2 n1 n2 r1 r2 ∧ twI p1 p2 n1 n2 r1 r2 ≤ 12800 := by
        unfold twI
        have a1 := mul_bd (x := n1 - p1) (y := r2 - p2) (m := 80) (n := 80) (by omega) (by omega) (by omega) (by omega)
        have a2 := mul_bd (x := n2 - p2) (y := r1 - p1) (m := 80) (n := 80) (by omega) (by omega) (by omega) (by omega)
        omega
      have HSR : Hid (MH.sq (r1, r2) (p1, p2) = MH.sq (r1, r2) (p1, p2)) := Lib.hid rfl
      have HBE : Hid (befB (p1, p2) sd (r1, r2) (n1, n2) = true ↔ (0 < -sd * twI p1 p2 n1 n2 r1 r2 ∨ (-sd * twI p1 p2 n1 n2 r1 r2 = 0 ∧ MH.sq (r1, r2) (p1, p2) < MH.sq (n1, n2) (p1, p2)))) := Lib.hid (by
        rw [befB_iff, HTW.out, show sd * -twI p1 p2 n1 n2 r1 r2 = -sd * twI p1 p2 n1 n2 r1 r2 by rw [Int.mul_neg, Int.neg_mul]])
      clear hpp bp bn bf HTW HSR
      generalize twI p1 p2 n1 n2 r1 r2 = tw at *
      generalize MH.sq (r1, r2) (p1, p2) = dr at *
      generalize MH.sq (n1, n2) (p1, p2) = dn at *
      have hmul : -12800 ≤ -sd * tw ∧ -sd * tw ≤ 12800 := by
        rcases HSD.out with h | h
        · rw [h]; omega
        · rw [h]; omega
      obtain ⟨hmul1, hmul2⟩ := hmul
      clear hbig
      have hwm : IntKind.i64.wrap (-sd * tw) = -sd * tw := IntWalk.i64_in _ (by omega)
      have hSz := hS.out.size
      obtain ⟨q30, q31, q50, q51⟩ : wo.cell? ⟨w.heap.size, 0, none⟩ = some (.int .i64 p1) ∧ wo.cell? ⟨w.heap.size, 1, none⟩ = some (.int .i64 p2) ∧ wo.cell? ⟨w.heap.size + 2, 0, none⟩ = some (.int .i64 n1) ∧ wo.cell? ⟨w.heap.size + 2, 1, none⟩ = some (.int .i64 n2) := ⟨hS.out.c30, hS.out.c31, hS.out.c50, hS.out.c51⟩
      have hz0 : w.heap.size < wo.heap.size := by omega
      generalize ht : -sd * tw = t at *
      go_wp2_with fail
      refine (KT.out _).mono ?_; rintro e w2 ⟨rfl, hb2⟩
      have hb1 : Below wo.heap.size wo (wo.alloc (.cells #[.int .i64 r1, .int .i64 r2] 38)) := (Below.refl _ _).alloc (Nat.le_refl _) _
      have y0 : w2.cell? ⟨wo.heap.size, 0, none⟩ = some (.int .i64 r1) := ((bcell hb2).1 _ _ (by simp)).trans (by go_simp)
      have y1 : w2.cell? ⟨wo.heap.size, 1, none⟩ = some (.int .i64 r2) := ((bcell hb2).1 _ _ (by simp)).trans (by go_simp)
      have zy : wo.heap.size < w2.heap.size := by (have := hb2.size; simp at this; omega)
      have S2 := (hS.out.up hb1).up hb2
      have B2 := hb1.trans (hb2.mono hb1.size)
      have hz2 := B2.size
      obtain ⟨c30, c31, c50, c51⟩ : w2.cell? ⟨w.heap.size, 0, none⟩ = some (.int .i64 p1) ∧ w2.cell? ⟨w.heap.size, 1, none⟩ = some (.int .i64 p2) ∧ w2.cell? ⟨w.heap.size + 2, 0, none⟩ = some (.int .i64 n1) ∧ w2.cell? ⟨w.heap.size + 2, 1, none⟩ = some (.int .i64 n2) := ⟨S2.c30, S2.c31, S2.c50, S2.c51⟩
      have zz0 : w.heap.size < w2.heap.size := by omega
      have zz2 : w.heap.size + 2 < w2.heap.size := by omega
      have HS2 := Lib.hid S2
      clear hb1 hb2 S2 hS x0 x1 KT
      clear q30 q31 q50 q51
      by_cases htp : 0 < t
      · have hstep : Hid (befB (p1, p2) sd (r1, r2) (n1, n2) = true) := Lib.hid (HBE.out.2 (Or.inl htp))
        go_wp2_with fail
        refine wp_region_B (fun W => Below w2.heap.size w2 W) (by kernel_rfl) (by repeat (first | exact Below.refl _ _ | apply Below.drew)) ?_
        first | refine wpB_skip 0 rfl (by kernel_rfl) (by kernel_rfl) (by kernel_rfl) (by rfl) ?_ | (refine wpB_text 0 (v := ?_) rfl (by kernel_rfl) (by kernel_rfl) (by kernel_rfl) (by rfl) (fun W hW => ?_) ?_; rotate_left; (have k1 := hW; obtain ⟨hc1, hf1⟩ := bcell k1; go_simp; refine comes_v ?_; exact k1))
        (try simp only [Act.put, List.setIfInBounds_toArray, List.set_cons_zero, List.set_cons_succ])
        first | refine wpB_skip 1 rfl (by kernel_rfl) (by kernel_rfl) (by kernel_rfl) (by rfl) ?_ | (refine wpB_text 1 (v := ?_) rfl (by kernel_rfl) (by kernel_rfl) (by kernel_rfl) (by rfl) (fun W hW => ?_) ?_; rotate_left; (have k1 := hW; obtain ⟨hc1, hf1⟩ := bcell k1; go_simp; refine comes_v ?_; exact k1))
        (try simp only [Act.put, List.setIfInBounds_toArray, List.set_cons_zero, List.set_cons_succ])
        first | refine wpB_skip 2 rfl (by kernel_rfl) (by kernel_rfl) (by kernel_rfl) (by rfl) ?_ | (refine wpB_text 2 (v := ?_) rfl (by kernel_rfl) (by kernel_rfl) (by kernel_rfl) (by rfl) (fun W hW => ?_) ?_; rotate_left; (have k1 := hW; obtain ⟨hc1, hf1⟩ := bcell k1; go_simp; refine comes_v ?_; exact k1))
        (try simp only [Act.put, List.setIfInBounds_toArray, List.set_cons_zero, List.set_cons_succ])
        first | refine wpB_skip 3 rfl (by kernel_rfl) (by kernel_rfl) (by kernel_rfl) (by rfl) ?_ | (refine wpB_text 3 (v := ?_) rfl (by kernel_rfl) (by kernel_rfl) (by kernel_rfl) (by rfl) (fun W hW => ?_) ?_; rotate_left; (have k1 := hW; obtain ⟨hc1, hf1⟩ := bcell k1; go_simp; refine comes_v ?_; exact k1))
        (try simp only [Act.put, List.setIfInBounds_toArray, List.set_cons_zero, List.set_cons_succ])
        first | refine wpB_skip 4 rfl (by kernel_rfl) (by kernel_rfl) (by kernel_rfl) (by rfl) ?_ | (refine wpB_text 4 (v := ?_) rfl (by kernel_rfl) (by kernel_rfl) (by kernel_rfl) (by rfl) (fun W hW => ?_) ?_; rotate_left; (have k1 := hW; obtain ⟨hc1, hf1⟩ := bcell k1; go_simp; refine comes_v ?_; exact k1))
        (try simp only [Act.put, List.setIfInBounds_toArray, List.set_cons_zero, List.set_cons_succ])
        first | refine wpB_skip 5 rfl (by kernel_rfl) (by kernel_rfl) (by kernel_rfl) (by rfl) ?_ | (refine wpB_text 5 (v := ?_) rfl (by kernel_rfl) (by kernel_rfl) (by kernel_rfl) (by rfl) (fun W hW => ?_) ?_; rotate_left; (have k1 := hW; obtain ⟨hc1, hf1⟩ := bcell k1; go_simp; refine comes_v ?_; exact k1))
        (try simp only [Act.put, List.setIfInBounds_toArray, List.set_cons_zero, List.set_cons_succ])
        first | refine wpB_skip 6 rfl (by kernel_rfl) (by kernel_rfl) (by kernel_rfl) (by rfl) ?_ | (refine wpB_text 6 (v := ?_) rfl (by kernel_rfl) (by kernel_rfl) (by kernel_rfl) (by rfl) (fun W hW => ?_) ?_; rotate_left; (have k1 := hW; obtain ⟨hc1, hf1⟩ := bcell k1; go_simp; refine comes_v ?_; exact k1))
        (try simp only [Act.put, List.setIfInBounds_toArray, List.set_cons_zero, List.set_cons_succ])
        first | refine wpB_skip 7 rfl (by kernel_rfl) (by kernel_rfl) (by kernel_rfl) (by rfl) ?_ | (refine wpB_text 7 (v := ?_) rfl (by kernel_rfl) (by kernel_rfl) (by kernel_rfl) (by rfl) (fun W hW => ?_) ?_; rotate_left; (have k1 := hW; obtain ⟨hc1, hf1⟩ := bcell k1; go_simp; refine comes_v ?_; exact k1))
        (try simp only [Act.put, List.setIfInBounds_toArray, List.set_cons_zero, List.set_cons_succ])
        first | refine wpB_skip 8 rfl (by kernel_rfl) (by kernel_rfl) (by kernel_rfl) (by rfl) ?_ | (refine wpB_text 8 (v := ?_) rfl (by kernel_rfl) (by kernel_rfl) (by kernel_rfl) (by rfl) (fun W hW => ?_) ?_; rotate_left; (have k1 := hW; obtain ⟨hc1, hf1⟩ := bcell k1; go_simp; refine comes_v ?_; exact k1))
        (try simp only [Act.put, List.setIfInBounds_toArray, List.set_cons_zero, List.set_cons_succ])
        first | refine wpB_skip 9 rfl (by kernel_rfl) (by kernel_rfl) (by kernel_rfl) (by rfl) ?_ | (refine wpB_text 9 (v := ?_) rfl (by kernel_rfl) (by kernel_rfl) (by kernel_rfl) (by rfl) (fun W hW => ?_) ?_; rotate_left; (have k1 := hW; obtain ⟨hc1, hf1⟩ := bcell k1; go_simp; refine comes_v ?_; exact k1))
        (try simp only [Act.put, List.setIfInBounds_toArray, List.set_cons_zero, List.set_cons_succ])
        first | refine wpB_skip 10 rfl (by kernel_rfl) (by kernel_rfl) (by kernel_rfl) (by rfl) ?_ | (refine wpB_text 10 (v := ?_) rfl (by kernel_rfl) (by kernel_rfl) (by kernel_rfl) (by rfl) (fun W hW => ?_) ?_; rotate_left; (have k1 := hW; obtain ⟨hc1, hf1⟩ := bcell k1; go_simp; refine comes_v ?_; exact k1))
        (try simp only [Act.put, List.setIfInBounds_toArray, List.set_cons_zero, List.set_cons_succ])
        first | refine wpB_skip 11 rfl (by kernel_rfl) (by kernel_rfl) (by kernel_rfl) (by rfl) ?_ | (refine wpB_text 11 (v := ?_) rfl (by kernel_rfl) (by kernel_rfl) (by kernel_rfl) (by rfl) (fun W hW => ?_) ?_; rotate_left; (have k1 := hW; obtain ⟨hc1, hf1⟩ := bcell k1; go_simp; refine comes_v ?_; exact k1))
        (try simp only [Act.put, List.setIfInBounds_toArray, List.set_cons_zero, List.set_cons_succ])
        first | refine wpB_skip 12 rfl (by kernel_rfl) (by kernel_rfl) (by kernel_rfl) (by rfl) ?_ | (refine wpB_text 12 (v := ?_) rfl (by kernel_rfl) (by kernel_rfl) (by kernel_rfl) (by rfl) (fun W hW => ?_) ?_; rotate_left; (have k1 := hW; obtain ⟨hc1, hf1⟩ := bcell k1; go_simp; refine comes_v ?_; exact k1))
        (try simp only [Act.put, List.setIfInBounds_toArray, List.set_cons_zero, List.set_cons_succ])
        first | refine wpB_skip 13 rfl (by kernel_rfl) (by kernel_rfl) (by kernel_rfl) (by rfl) ?_ | (refine wpB_text 13 (v := ?_) rfl (by kernel_rfl) (by kernel_rfl) (by kernel_rfl) (by rfl) (fun W hW => ?_) ?_; rotate_left; (have k1 := hW; obtain ⟨hc1, hf1⟩ := bcell k1; go_simp; refine comes_v ?_; exact k1))
        (try simp only [Act.put, List.setIfInBounds_toArray, List.set_cons_zero, List.set_cons_succ])
        first | refine wpB_skip 14 rfl (by kernel_rfl) (by kernel_rfl) (by kernel_rfl) (by rfl) ?_ | (refine wpB_text 14 (v := ?_) rfl (by kernel_rfl) (by kernel_rfl) (by kernel_rfl) (by rfl) (fun W hW => ?_) ?_; rotate_left; (have k1 := hW; obtain ⟨hc1, hf1⟩ := bcell k1; go_simp; refine comes_v ?_; exact k1))
        (try simp only [Act.put, List.setIfInBounds_toArray, List.set_cons_zero, List.set_cons_succ])
        refine wpB_done (by kernel_rfl) ?_ _
        intro W hW; have k1 := hW
        rename World => w3
        have S3 := HS2.out.up k1
        have e0 := ((bcell k1).1 _ 0 zy).trans y0
        have e1 := ((bcell k1).1 _ 1 zy).trans y1
        have g5 := S3.f5
        have g50 := S3.c50
        have g51 := S3.c51
        have HS3 := Lib.hid (S3.store r1 r2)
        clear c30 c31 c50 c51 y0 y1 S3
        go_wp2_with fail
        go_roundg (n - 1 - (k + 1))
        case measure => have := HGK.out; omega
        case rel => exact ⟨k + 1, r1, r2, by omega, rfl, by go_num, Lib.hid (by rw [HFS.out, if_pos hstep.out]), HPP, HS3⟩
      · have dt : decide (0 < t) = false := by simp; omega
        by_cases ht0 : t = 0
        · subst ht0
          by_cases hsq : dr < dn
          · have hstep : Hid (befB (p1, p2) sd (r1, r2) (n1, n2) = true) := Lib.hid (HBE.out.2 (Or.inr ⟨rfl, hsq⟩))
            go_wp2_with fail
            refine wp_region_B (fun W => Below w2.heap.size w2 W) (by kernel_rfl) (by repeat (first | exact Below.refl _ _ | apply Below.drew)) ?_
            first | refine wpB_skip 0 rfl (by kernel_rfl) (by kernel_rfl) (by kernel_rfl) (by rfl) ?_ | (refine wpB_text 0 (v := ?_) rfl (by kernel_rfl) (by kernel_rfl) (by kernel_rfl) (by rfl) (fun W hW => ?_) ?_; rotate_left; (have k1 := hW; obtain ⟨hc1, hf1⟩ := bcell k1; go_simp; refine comes_v ?_; exact k1))
            (try simp only [Act.put, List.setIfInBounds_toArray, List.set_cons_zero, List.set_cons_succ])
            first | refine wpB_skip 1 rfl (by kernel_rfl) (by kernel_rfl) (by kernel_rfl) (by rfl) ?_ | (refine wpB_text 1 (v := ?_) rfl (by kernel_rfl) (by kernel_rfl) (by kernel_rfl) (by rfl) (fun W hW => ?_) ?_; rotate_left; (have k1 := hW; obtain ⟨hc1, hf1⟩ := bcell k1; go_simp; refine comes_v ?_; exact k1))
            (try simp only [Act.put, List.setIfInBounds_toArray, List.set_cons_zero, List.set_cons_succ])
            first | refine wpB_skip 2 rfl (by kernel_rfl) (by kernel_rfl) (by kernel_rfl) (by rfl) ?_ | (refine wpB_text 2 (v := ?_) rfl (by kernel_rfl) (by kernel_rfl) (by kernel_rfl) (by rfl) (fun W hW => ?_) ?_; rotate_left; (have k1 := hW; obtain ⟨hc1, hf1⟩ := bcell k1; go_simp; refine comes_v ?_; exact k1))
            (try simp only [Act.put, List.setIfInBounds_toArray, List.set_cons_zero, List.set_cons_succ])
            first | refine wpB_skip 3 rfl (by kernel_rfl) (by kernel_rfl) (by kernel_rfl) (by rfl) ?_ | (refine wpB_text 3 (v := ?_) rfl (by kernel_rfl) (by kernel_rfl) (by kernel_rfl) (by rfl) (fun W hW => ?_) ?_; rotate_left; (have k1 := hW; obtain ⟨hc1, hf1⟩ := bcell k1; go_simp; refine comes_v ?_; exact k1))
            (try simp only [Act.put, List.setIfInBounds_toArray, List.set_cons_zero, List.set_cons_succ])
            first | refine wpB_skip 4 rfl (by kernel_rfl) (by kernel_rfl) (by kernel_rfl) (by rfl) ?_ | (refine wpB_text 4 (v := ?_) rfl (by kernel_rfl) (by kernel_rfl) (by kernel_rfl) (by rfl) (fun W hW => ?_) ?_; rotate_left; (have k1 := hW; obtain ⟨hc1, hf1⟩ := bcell k1; go_simp; refine comes_v ?_; exact k1))
            (try simp only [Act.put, List.setIfInBounds_toArray, List.set_cons_zero, List.set_cons_succ])
            first | refine wpB_skip 5 rfl (by kernel_rfl) (by kernel_rfl) (by kernel_rfl) (by rfl) ?_ | (refine wpB_text 5 (v := ?_) rfl (by kernel_rfl) (by kernel_rfl) (by kernel_rfl) (by rfl) (fun W hW => ?_) ?_; rotate_left; (have k1 := hW; obtain ⟨hc1, hf1⟩ := bcell k1; go_simp; refine comes_v ?_; exact k1))
            (try simp only [Act.put, List.setIfInBounds_toArray, List.set_cons_zero, List.set_cons_succ])
            first | refine wpB_skip 6 rfl (by kernel_rfl) (by kernel_rfl) (by kernel_rfl) (by rfl) ?_ | (refine wpB_text 6 (v := ?_) rfl (by kernel_rfl) (by kernel_rfl) (by kernel_rfl) (by rfl) (fun W hW => ?_) ?_; rotate_left; (have k1 := hW; obtain ⟨hc1, hf1⟩ := bcell k1; go_simp; refine comes_v ?_; exact k1))
            (try simp only [Act.put, List.setIfInBounds_toArray, List.set_cons_zero, List.set_cons_succ])
            first | refine wpB_skip 7 rfl (by kernel_rfl) (by kernel_rfl) (by kernel_rfl) (by rfl) ?_ | (refine wpB_text 7 (v := ?_) rfl (by kernel_rfl) (by kernel_rfl) (by kernel_rfl) (by rfl) (fun W hW => ?_) ?_; rotate_left; (have k1 := hW; obtain ⟨hc1, hf1⟩ := bcell k1; go_simp; refine comes_v ?_; exact k1))
            (try simp only [Act.put, List.setIfInBounds_toArray, List.set_cons_zero, List.set_cons_succ])
            first | refine wpB_skip 8 rfl (by kernel_rfl) (by kernel_rfl) (by kernel_rfl) (by rfl) ?_ | (refine wpB_text 8 (v := .int .i64 dr) rfl (by kernel_rfl) (by kernel_rfl) (by kernel_rfl) (by rfl) (fun W hW => ?_) ?_; (have k1 := hW; obtain ⟨hc1, hf1⟩ := bcell k1; go_simp; exact comes_c ( KF1.out _) (fun wn hbn => bt_keep k1 hbn)))
            (try simp only [Act.put, List.setIfInBounds_toArray, List.set_cons_zero, List.set_cons_succ])
            first | refine wpB_skip 9 rfl (by kernel_rfl) (by kernel_rfl) (by kernel_rfl) (by rfl) ?_ | (refine wpB_text 9 (v := ?_) rfl (by kernel_rfl) (by kernel_rfl) (by kernel_rfl) (by rfl) (fun W hW => ?_) ?_; rotate_left; (have k1 := hW; obtain ⟨hc1, hf1⟩ := bcell k1; go_simp; refine comes_v ?_; exact k1))
            (try simp only [Act.put, List.setIfInBounds_toArray, List.set_cons_zero, List.set_cons_succ])
            first | refine wpB_skip 10 rfl (by kernel_rfl) (by kernel_rfl) (by kernel_rfl) (by rfl) ?_ | (refine wpB_text 10 (v := ?_) rfl (by kernel_rfl) (by kernel_rfl) (by kernel_rfl) (by rfl) (fun W hW => ?_) ?_; rotate_left; (have k1 := hW; obtain ⟨hc1, hf1⟩ := bcell k1; go_simp; refine comes_v ?_; exact k1))
            (try simp only [Act.put, List.setIfInBounds_toArray, List.set_cons_zero, List.set_cons_succ])
            first | refine wpB_skip 11 rfl (by kernel_rfl) (by kernel_rfl) (by kernel_rfl) (by rfl) ?_ | (refine wpB_text 11 (v := .int .i64 dn) rfl (by kernel_rfl) (by kernel_rfl) (by kernel_rfl) (by rfl) (fun W hW => ?_) ?_; (have k1 := hW; obtain ⟨hc1, hf1⟩ := bcell k1; go_simp; exact comes_c ( KF2.out _) (fun wn hbn => bt_keep k1 hbn)))
            (try simp only [Act.put, List.setIfInBounds_toArray, List.set_cons_zero, List.set_cons_succ])
            first | refine wpB_skip 12 rfl (by kernel_rfl) (by kernel_rfl) (by kernel_rfl) (by rfl) ?_ | (refine wpB_text 12 (v := ?_) rfl (by kernel_rfl) (by kernel_rfl) (by kernel_rfl) (by rfl) (fun W hW => ?_) ?_; rotate_left; (have k1 := hW; obtain ⟨hc1, hf1⟩ := bcell k1; go_simp; refine comes_v ?_; exact k1))
            (try simp only [Act.put, List.setIfInBounds_toArray, List.set_cons_zero, List.set_cons_succ])
            first | refine wpB_skip 13 rfl (by kernel_rfl) (by kernel_rfl) (by kernel_rfl) (by rfl) ?_ | (refine wpB_text 13 (v := ?_) rfl (by kernel_rfl) (by kernel_rfl) (by kernel_rfl) (by rfl) (fun W hW => ?_) ?_; rotate_left; (have k1 := hW; obtain ⟨hc1, hf1⟩ := bcell k1; go_simp; refine comes_v ?_; exact k1))
            (try simp only [Act.put, List.setIfInBounds_toArray, List.set_cons_zero, List.set_cons_succ])
            first | refine wpB_skip 14 rfl (by kernel_rfl) (by kernel_rfl) (by kernel_rfl) (by rfl) ?_ | (refine wpB_text 14 (v := ?_) rfl (by kernel_rfl) (by kernel_rfl) (by kernel_rfl) (by rfl) (fun W hW => ?_) ?_; rotate_left; (have k1 := hW; obtain ⟨hc1, hf1⟩ := bcell k1; go_simp; refine comes_v ?_; exact k1))
            (try simp only [Act.put, List.setIfInBounds_toArray, List.set_cons_zero, List.set_cons_succ])
            refine wpB_done (by kernel_rfl) ?_ _
            intro W hW; have k1 := hW
            rename World => w3
            have S3 := HS2.out.up k1
            have e0 := ((bcell k1).1 _ 0 zy).trans y0
            have e1 := ((bcell k1).1 _ 1 zy).trans y1
            have g5 := S3.f5
            have g50 := S3.c50
            have g51 := S3.c51
            have HS3 := Lib.hid (S3.store r1 r2)
            clear c30 c31 c50 c51 y0 y1 S3
            go_wp2_with fail
            go_roundg (n - 1 - (k + 1))
            case measure => have := HGK.out; omega
            case rel => exact ⟨k + 1, r1, r2, by omega, rfl, by go_num, Lib.hid (by rw [HFS.out, if_pos hstep.out]), HPP, HS3⟩
          · have hstep : Hid (¬ befB (p1, p2) sd (r1, r2) (n1, n2) = true) := Lib.hid (fun h => by
              rcases HBE.out.1 h with h | h
              · omega
              · exact hsq h.2)
            have dsq : decide (dr < dn) = false := by simp; omega
            go_wp2_with fail
            refine wp_region_B (fun W => Below w2.heap.size w2 W) (by kernel_rfl) (by repeat (first | exact Below.refl _ _ | apply Below.drew)) ?_
            first | refine wpB_skip 0 rfl (by kernel_rfl) (by kernel_rfl) (by kernel_rfl) (by rfl) ?_ | (refine wpB_text 0 (v := ?_) rfl (by kernel_rfl) (by kernel_rfl) (by kernel_rfl) (by rfl) (fun W hW => ?_) ?_; rotate_left; (have k1 := hW; obtain ⟨hc1, hf1⟩ := bcell k1; go_simp; refine comes_v ?_; exact k1))
            (try simp only [Act.put, List.setIfInBounds_toArray, List.set_cons_zero, List.set_cons_succ])
            first | refine wpB_skip 1 rfl (by kernel_rfl) (by kernel_rfl) (by kernel_rfl) (by rfl) ?_ | (refine wpB_text 1 (v := ?_) rfl (by kernel_rfl) (by kernel_rfl) (by kernel_rfl) (by rfl) (fun W hW => ?_) ?_; rotate_left; (have k1 := hW; obtain ⟨hc1, hf1⟩ := bcell k1; go_simp; refine comes_v ?_; exact k1))
            (try simp only [Act.put, List.setIfInBounds_toArray, List.set_cons_zero, List.set_cons_succ])
            first | refine wpB_skip 2 rfl (by kernel_rfl) (by kernel_rfl) (by kernel_rfl) (by rfl) ?_ | (refine wpB_text 2 (v := ?_) rfl (by kernel_rfl) (by kernel_rfl) (by kernel_rfl) (by rfl) (fun W hW => ?_) ?_; rotate_left; (have k1 := hW; obtain ⟨hc1, hf1⟩ := bcell k1; go_simp; refine comes_v ?_; exact k1))
            (try simp only [Act.put, List.setIfInBounds_toArray, List.set_cons_zero, List.set_cons_succ])
            first | refine wpB_skip 3 rfl (by kernel_rfl) (by kernel_rfl) (by kernel_rfl) (by rfl) ?_ | (refine wpB_text 3 (v := ?_) rfl (by kernel_rfl) (by kernel_rfl) (by kernel_rfl) (by rfl) (fun W hW => ?_) ?_; rotate_left; (have k1 := hW; obtain ⟨hc1, hf1⟩ := bcell k1; go_simp; refine comes_v ?_; exact k1))
            (try simp only [Act.put, List.setIfInBounds_toArray, List.set_cons_zero, List.set_cons_succ])
            first | refine wpB_skip 4 rfl (by kernel_rfl) (by kernel_rfl) (by kernel_rfl) (by rfl) ?_ | (refine wpB_text 4 (v := ?_) rfl (by kernel_rfl) (by kernel_rfl) (by kernel_rfl) (by rfl) (fun W hW => ?_) ?_; rotate_left; (have k1 := hW; obtain ⟨hc1, hf1⟩ := bcell k1; go_simp; refine comes_v ?_; exact k1))
            (try simp only [Act.put, List.setIfInBounds_toArray, List.set_cons_zero, List.set_cons_succ])
            first | refine wpB_skip 5 rfl (by kernel_rfl) (by kernel_rfl) (by kernel_rfl) (by rfl) ?_ | (refine wpB_text 5 (v := ?_) rfl (by kernel_rfl) (by kernel_rfl) (by kernel_rfl) (by rfl) (fun W hW => ?_) ?_; rotate_left; (have k1 := hW; obtain ⟨hc1, hf1⟩ := bcell k1; go_simp; refine comes_v ?_; exact k1))
            (try simp only [Act.put, List.setIfInBounds_toArray, List.set_cons_zero, List.set_cons_succ])
            first | refine wpB_skip 6 rfl (by kernel_rfl) (by kernel_rfl) (by kernel_rfl) (by rfl) ?_ | (refine wpB_text 6 (v := ?_) rfl (by kernel_rfl) (by kernel_rfl) (by kernel_rfl) (by rfl) (fun W hW => ?_) ?_; rotate_left; (have k1 := hW; obtain ⟨hc1, hf1⟩ := bcell k1; go_simp; refine comes_v ?_; exact k1))
            (try simp only [Act.put, List.setIfInBounds_toArray, List.set_cons_zero, List.set_cons_succ])
            first | refine wpB_skip 7 rfl (by kernel_rfl) (by kernel_rfl) (by kernel_rfl) (by rfl) ?_ | (refine wpB_text 7 (v := ?_) rfl (by kernel_rfl) (by kernel_rfl) (by kernel_rfl) (by rfl) (fun W hW => ?_) ?_; rotate_left; (have k1 := hW; obtain ⟨hc1, hf1⟩ := bcell k1; go_simp; refine comes_v ?_; exact k1))
            (try simp only [Act.put, List.setIfInBounds_toArray, List.set_cons_zero, List.set_cons_succ])
            first | refine wpB_skip 8 rfl (by kernel_rfl) (by kernel_rfl) (by kernel_rfl) (by rfl) ?_ | (refine wpB_text 8 (v := .int .i64 dr) rfl (by kernel_rfl) (by kernel_rfl) (by kernel_rfl) (by rfl) (fun W hW => ?_) ?_; (have k1 := hW; obtain ⟨hc1, hf1⟩ := bcell k1; go_simp; exact comes_c ( KF1.out _) (fun wn hbn => bt_keep k1 hbn)))
            (try simp only [Act.put, List.setIfInBounds_toArray, List.set_cons_zero, List.set_cons_succ])
            first | refine wpB_skip 9 rfl (by kernel_rfl) (by kernel_rfl) (by kernel_rfl) (by rfl) ?_ | (refine wpB_text 9 (v := ?_) rfl (by kernel_rfl) (by kernel_rfl) (by kernel_rfl) (by rfl) (fun W hW => ?_) ?_; rotate_left; (have k1 := hW; obtain ⟨hc1, hf1⟩ := bcell k1; go_simp; refine comes_v ?_; exact k1))
            (try simp only [Act.put, List.setIfInBounds_toArray, List.set_cons_zero, List.set_cons_succ])
            first | refine wpB_skip 10 rfl (by kernel_rfl) (by kernel_rfl) (by kernel_rfl) (by rfl) ?_ | (refine wpB_text 10 (v := ?_) rfl (by kernel_rfl) (by kernel_rfl) (by kernel_rfl) (by rfl) (fun W hW => ?_) ?_; rotate_left; (have k1 := hW; obtain ⟨hc1, hf1⟩ := bcell k1; go_simp; refine comes_v ?_; exact k1))
            (try simp only [Act.put, List.setIfInBounds_toArray, List.set_cons_zero, List.set_cons_succ])
            first | refine wpB_skip 11 rfl (by kernel_rfl) (by kernel_rfl) (by kernel_rfl) (by rfl) ?_ | (refine wpB_text 11 (v := .int .i64 dn) rfl (by kernel_rfl) (by kernel_rfl) (by kernel_rfl) (by rfl) (fun W hW => ?_) ?_; (have k1 := hW; obtain ⟨hc1, hf1⟩ := bcell k1; go_simp; exact comes_c ( KF2.out _) (fun wn hbn => bt_keep k1 hbn)))
            (try simp only [Act.put, List.setIfInBounds_toArray, List.set_cons_zero, List.set_cons_succ])
            first | refine wpB_skip 12 rfl (by kernel_rfl) (by kernel_rfl) (by kernel_rfl) (by rfl) ?_ | (refine wpB_text 12 (v := ?_) rfl (by kernel_rfl) (by kernel_rfl) (by kernel_rfl) (by rfl) (fun W hW => ?_) ?_; rotate_left; (have k1 := hW; obtain ⟨hc1, hf1⟩ := bcell k1; go_simp; refine comes_v ?_; exact k1))
            (try simp only [Act.put, List.setIfInBounds_toArray, List.set_cons_zero, List.set_cons_succ])
            first | refine wpB_skip 13 rfl (by kernel_rfl) (by kernel_rfl) (by kernel_rfl) (by rfl) ?_ | (refine wpB_text 13 (v := ?_) rfl (by kernel_rfl) (by kernel_rfl) (by kernel_rfl) (by rfl) (fun W hW => ?_) ?_; rotate_left; (have k1 := hW; obtain ⟨hc1, hf1⟩ := bcell k1; go_simp; refine comes_v ?_; exact k1))
            (try simp only [Act.put, List.setIfInBounds_toArray, List.set_cons_zero, List.set_cons_succ])
            first | refine wpB_skip 14 rfl (by kernel_rfl) (by kernel_rfl) (by kernel_rfl) (by rfl) ?_ | (refine wpB_text 14 (v := ?_) rfl (by kernel_rfl) (by kernel_rfl) (by kernel_rfl) (by rfl) (fun W hW => ?_) ?_; rotate_left; (have k1 := hW; obtain ⟨hc1, hf1⟩ := bcell k1; go_simp; refine comes_v ?_; exact k1))
            (try simp only [Act.put, List.setIfInBounds_toArray, List.set_cons_zero, List.set_cons_succ])
            refine wpB_done (by kernel_rfl) ?_ _
            intro W hW; have k1 := hW
            rename World => w3
            have HS3 := Lib.hid (HS2.out.up k1)
            clear c30 c31 c50 c51 y0 y1
            go_wp2_with fail
            go_roundg (n - 1 - (k + 1))
            case measure => have := HGK.out; omega
            case rel => exact ⟨k + 1, n1, n2, by omega, rfl, by go_num, Lib.hid (by rw [HFS.out, if_neg hstep.out]), hnp, HS3⟩
        · have hstep : Hid (¬ befB (p1, p2) sd (r1, r2) (n1, n2) = true) := Lib.hid (fun h => by
            rcases HBE.out.1 h with h | h
            · exact htp h
            · exact ht0 h.1)
          have dt0 : (t == 0) = false := by simp; omega
          go_wp2_with fail
          refine wp_region_B (fun W => Below w2.heap.size w2 W) (by kernel_rfl) (by repeat (first | exact Below.refl _ _ | apply Below.drew)) ?_
          first | refine wpB_skip 0 rfl (by kernel_rfl) (by kernel_rfl) (by kernel_rfl) (by rfl) ?_ | (refine wpB_text 0 (v := ?_) rfl (by kernel_rfl) (by kernel_rfl) (by kernel_rfl) (by rfl) (fun W hW => ?_) ?_; rotate_left; (have k1 := hW; obtain ⟨hc1, hf1⟩ := bcell k1; go_simp; refine comes_v ?_; exact k1))
          (try simp only [Act.put, List.setIfInBounds_toArray, List.set_cons_zero, List.set_cons_succ])
          first | refine wpB_skip 1 rfl (by kernel_rfl) (by kernel_rfl) (by kernel_rfl) (by rfl) ?_ | (refine wpB_text 1 (v := ?_) rfl (by kernel_rfl) (by kernel_rfl) (by kernel_rfl) (by rfl) (fun W hW => ?_) ?_; rotate_left; (have k1 := hW; obtain ⟨hc1, hf1⟩ := bcell k1; go_simp; refine comes_v ?_; exact k1))
          (try simp only [Act.put, List.setIfInBounds_toArray, List.set_cons_zero, List.set_cons_succ])
          first | refine wpB_skip 2 rfl (by kernel_rfl) (by kernel_rfl) (by kernel_rfl) (by rfl) ?_ | (refine wpB_text 2 (v := ?_) rfl (by kernel_rfl) (by kernel_rfl) (by kernel_rfl) (by rfl) (fun W hW => ?_) ?_; rotate_left; (have k1 := hW; obtain ⟨hc1, hf1⟩ := bcell k1; go_simp; refine comes_v ?_; exact k1))
          (try simp only [Act.put, List.setIfInBounds_toArray, List.set_cons_zero, List.set_cons_succ])
          first | refine wpB_skip 3 rfl (by kernel_rfl) (by kernel_rfl) (by kernel_rfl) (by rfl) ?_ | (refine wpB_text 3 (v := ?_) rfl (by kernel_rfl) (by kernel_rfl) (by kernel_rfl) (by rfl) (fun W hW => ?_) ?_; rotate_left; (have k1 := hW; obtain ⟨hc1, hf1⟩ := bcell k1; go_simp; refine comes_v ?_; exact k1))
          (try simp only [Act.put, List.setIfInBounds_toArray, List.set_cons_zero, List.set_cons_succ])
          first | refine wpB_skip 4 rfl (by kernel_rfl) (by kernel_rfl) (by kernel_rfl) (by rfl) ?_ | (refine wpB_text 4 (v := ?_) rfl (by kernel_rfl) (by kernel_rfl) (by kernel_rfl) (by rfl) (fun W hW => ?_) ?_; rotate_left; (have k1 := hW; obtain ⟨hc1, hf1⟩ := bcell k1; go_simp; refine comes_v ?_; exact k1))
          (try simp only [Act.put, List.setIfInBounds_toArray, List.set_cons_zero, List.set_cons_succ])
          first | refine wpB_skip 5 rfl (by kernel_rfl) (by kernel_rfl) (by kernel_rfl) (by rfl) ?_ | (refine wpB_text 5 (v := ?_) rfl (by kernel_rfl) (by kernel_rfl) (by kernel_rfl) (by rfl) (fun W hW => ?_) ?_; rotate_left; (have k1 := hW; obtain ⟨hc1, hf1⟩ := bcell k1; go_simp; refine comes_v ?_; exact k1))
          (try simp only [Act.put, List.setIfInBounds_toArray, List.set_cons_zero, List.set_cons_succ])
          first | refine wpB_skip 6 rfl (by kernel_rfl) (by kernel_rfl) (by kernel_rfl) (by rfl) ?_ | (refine wpB_text 6 (v := ?_) rfl (by kernel_rfl) (by kernel_rfl) (by kernel_rfl) (by rfl) (fun W hW => ?_) ?_; rotate_left; (have k1 := hW; obtain ⟨hc1, hf1⟩ := bcell k1; go_simp; refine comes_v ?_; exact k1))
          (try simp only [Act.put, List.setIfInBounds_toArray, List.set_cons_zero, List.set_cons_succ])
          first | refine wpB_skip 7 rfl (by kernel_rfl) (by kernel_rfl) (by kernel_rfl) (by rfl) ?_ | (refine wpB_text 7 (v := ?_) rfl (by kernel_rfl) (by kernel_rfl) (by kernel_rfl) (by rfl) (fun W hW => ?_) ?_; rotate_left; (have k1 := hW; obtain ⟨hc1, hf1⟩ := bcell k1; go_simp; refine comes_v ?_; exact k1))
          (try simp only [Act.put, List.setIfInBounds_toArray, List.set_cons_zero, List.set_cons_succ])
          first | refine wpB_skip 8 rfl (by kernel_rfl) (by kernel_rfl) (by kernel_rfl) (by rfl) ?_ | (refine wpB_text 8 (v := ?_) rfl (by kernel_rfl) (by kernel_rfl) (by kernel_rfl) (by rfl) (fun W hW => ?_) ?_; rotate_left; (have k1 := hW; obtain ⟨hc1, hf1⟩ := bcell k1; go_simp; refine comes_v ?_; exact k1))
          (try simp only [Act.put, List.setIfInBounds_toArray, List.set_cons_zero, List.set_cons_succ])
          first | refine wpB_skip 9 rfl (by kernel_rfl) (by kernel_rfl) (by kernel_rfl) (by rfl) ?_ | (refine wpB_text 9 (v := ?_) rfl (by kernel_rfl) (by kernel_rfl) (by kernel_rfl) (by rfl) (fun W hW => ?_) ?_; rotate_left; (have k1 := hW; obtain ⟨hc1, hf1⟩ := bcell k1; go_simp; refine comes_v ?_; exact k1))
          (try simp only [Act.put, List.setIfInBounds_toArray, List.set_cons_zero, List.set_cons_succ])
          first | refine wpB_skip 10 rfl (by kernel_rfl) (by kernel_rfl) (by kernel_rfl) (by rfl) ?_ | (refine wpB_text 10 (v := ?_) rfl (by kernel_rfl) (by kernel_rfl) (by kernel_rfl) (by rfl) (fun W hW => ?_) ?_; rotate_left; (have k1 := hW; obtain ⟨hc1, hf1⟩ := bcell k1; go_simp; refine comes_v ?_; exact k1))
          (try simp only [Act.put, List.setIfInBounds_toArray, List.set_cons_zero, List.set_cons_succ])
          first | refine wpB_skip 11 rfl (by kernel_rfl) (by kernel_rfl) (by kernel_rfl) (by rfl) ?_ | (refine wpB_text 11 (v := ?_) rfl (by kernel_rfl) (by kernel_rfl) (by kernel_rfl) (by rfl) (fun W hW => ?_) ?_; rotate_left; (have k1 := hW; obtain ⟨hc1, hf1⟩ := bcell k1; go_simp; refine comes_v ?_; exact k1))
          (try simp only [Act.put, List.setIfInBounds_toArray, List.set_cons_zero, List.set_cons_succ])
          first | refine wpB_skip 12 rfl (by kernel_rfl) (by kernel_rfl) (by kernel_rfl) (by rfl) ?_ | (refine wpB_text 12 (v := ?_) rfl (by kernel_rfl) (by kernel_rfl) (by kernel_rfl) (by rfl) (fun W hW => ?_) ?_; rotate_left; (have k1 := hW; obtain ⟨hc1, hf1⟩ := bcell k1; go_simp; refine comes_v ?_; exact k1))
          (try simp only [Act.put, List.setIfInBounds_toArray, List.set_cons_zero, List.set_cons_succ])
          first | refine wpB_skip 13 rfl (by kernel_rfl) (by kernel_rfl) (by kernel_rfl) (by rfl) ?_ | (refine wpB_text 13 (v := ?_) rfl (by kernel_rfl) (by kernel_rfl) (by kernel_rfl) (by rfl) (fun W hW => ?_) ?_; rotate_left; (have k1 := hW; obtain ⟨hc1, hf1⟩ := bcell k1; go_simp; refine comes_v ?_; exact k1))
          (try simp only [Act.put, List.setIfInBounds_toArray, List.set_cons_zero, List.set_cons_succ])
          first | refine wpB_skip 14 rfl (by kernel_rfl) (by kernel_rfl) (by kernel_rfl) (by rfl) ?_ | (refine wpB_text 14 (v := ?_) rfl (by kernel_rfl) (by kernel_rfl) (by kernel_rfl) (by rfl) (fun W hW => ?_) ?_; rotate_left; (have k1 := hW; obtain ⟨hc1, hf1⟩ := bcell k1; go_simp; refine comes_v ?_; exact k1))
          (try simp only [Act.put, List.setIfInBounds_toArray, List.set_cons_zero, List.set_cons_succ])
          refine wpB_done (by kernel_rfl) ?_ _
          intro W hW; have k1 := hW
          rename World => w3
          have HS3 := Lib.hid (HS2.out.up k1)
          clear c30 c31 c50 c51 y0 y1
          go_wp2_with fail
          go_roundg (n - 1 - (k + 1))
          case measure => have := HGK.out; omega
          case rel => exact ⟨k + 1, n1, n2, by omega, rfl, by go_num, Lib.hid (by rw [HFS.out, if_neg hstep.out]), hnp, HS3⟩
    · have hkn : k = n - 1 := by omega
      subst hkn
      have S0 := hS.out
      obtain ⟨u, hu⟩ := S0.c40
      obtain ⟨v, hv⟩ := S0.c41
      have g4 := S0.f4
      have g50 := S0.c50
      have g51 := S0.c51
      have hz := S0.size
      have hz0 : w.heap.size + 1 < wo.heap.size := by omega
      have BF := Below.setCell (Below.setCell S0.bel (p := ⟨w.heap.size + 1, 0, none⟩) (by show w.heap.size ≤ w.heap.size + 1; omega) (.int .i64 n1)) (p := ⟨w.heap.size + 1, 1, none⟩) (by show w.heap.size ≤ w.heap.size + 1; omega) (.int .i64 n2)
      have r0 : ((wo.setCell ⟨w.heap.size + 1, 0, none⟩ (.int .i64 n1)).setCell ⟨w.heap.size + 1, 1, none⟩ (.int .i64 n2)).cell? ⟨w.heap.size + 1, 0, none⟩ = some (.int .i64 n1) := by
        rw [World.cell?_setCell_other _ _ _ _ (by intro e; injection e with e1 e2; omega)]
        exact World.cell?_setCell_same _ _ _ hu
      have r1 : ((wo.setCell ⟨w.heap.size + 1, 0, none⟩ (.int .i64 n1)).setCell ⟨w.heap.size + 1, 1, none⟩ (.int .i64 n2)).cell? ⟨w.heap.size + 1, 1, none⟩ = some (.int .i64 n2) := by
        refine World.cell?_setCell_same _ _ _ (u := v) ?_
        rw [World.cell?_setCell_other _ _ _ _ (by intro e; injection e with e1 e2; omega)]
        exact hv
      have hnl : ¬ (((n - 1 : Nat) : Int) < (n : Int) - 1) := by omega
      clear S0 hS
      go_wp2_with fail
      refine bodyPost_ret (v := .agg #[.int .i64 n1, .int .i64 n2]) (by simp [results, Try.results76, go_sem, r0, r1]) rfl ⟨by rw [hfo.out], BF⟩
/-- the order of two points as they are seen from f, from right to left (s = 1) or from left to right -/
def seenI (f : Int × Int) (s : Int) (p q : Int × Int) : Int := if sgI (0 - s * MH.tw f p q) ≠ 0 then sgI (0 - s * MH.tw f p q) else sgI (MH.sq p f - MH.sq q f)
theorem seenI_lt {f p q : Int × Int} {s : Int} : seenI f s p q < 0 ↔ befB f s p q = true := by
  rw [befB_iff]
  unfold seenI sgI
  repeat' split
  all_goals omega
theorem seen_any (f1 f2 sd p1 p2 q1 q2 : Int) (gs gf : Nat) (w : World) (hsd : sd = 1 ∨ sd = -1) (hf : isPg (f1, f2) = true) (hp : isPg (p1, p2) = true) (hq : isPg (q1, q2) = true)
    (c1 : w.cell? ⟨gs, 0, none⟩ = some (.int .i64 sd)) (c2 : w.cell? ⟨gf, 0, none⟩ = some (.int .i64 f1)) (c3 : w.cell? ⟨gf, 1, none⟩ = some (.int .i64 f2)) (z1 : gs < w.heap.size) (z2 : gf < w.heap.size) :
    Calls Try.prog 95 #[.agg #[.int .i64 p1, .int .i64 p2], .agg #[.int .i64 q1, .int .i64 q2], .pointer (some ⟨gs, 0, none⟩), .pointer (some ⟨gf, 0, none⟩)] w fun e w' => e = .returned (.int .i64 (seenI (f1, f2) sd (p1, p2) (q1, q2))) ∧ Below w.heap.size w w' := by
  have bp := isPg_bd hp
  have bq := isPg_bd hq
  have bf := isPg_bd hf
  simp only at bp bq bf
  have KT := Lib.hid (fun W => twiceThree_any f1 f2 p1 p2 q1 q2 W (by unfold Sz; omega) (by unfold Sz; omega) (by unfold Sz; omega))
  have KM1 := Lib.hid (fun W => minus_any p1 p2 f1 f2 W (by unfold Mid; omega) (by unfold Mid; omega) (by unfold Mid; omega) (by unfold Mid; omega))
  have KM2 := Lib.hid (fun W => minus_any q1 q2 f1 f2 W (by unfold Mid; omega) (by unfold Mid; omega) (by unfold Mid; omega) (by unfold Mid; omega))
  have KS1 := Lib.hid (fun W => square_any (p1 - f1) (p2 - f2) W (by omega) (by omega))
  have KS2 := Lib.hid (fun W => square_any (q1 - f1) (q2 - f2) W (by omega) (by omega))
  have hbig : -12800 ≤ twI f1 f2 p1 p2 q1 q2 ∧ twI f1 f2 p1 p2 q1 q2 ≤ 12800 := by
    unfold twI
    have a1 := mul_bd (x := p1 - f1) (y := q2 - f2) (m := 80) (n := 80) (by omega) (by omega) (by omega) (by omega)
    have a2 := mul_bd (x := p2 - f2) (y := q1 - f1) (m := 80) (n := 80) (by omega) (by omega) (by omega) (by omega)
    omega
  have HR : Hid (seenI (f1, f2) sd (p1, p2) (q1, q2) = if sgI (0 - sd * twI f1 f2 p1 p2 q1 q2) ≠ 0 then sgI (0 - sd * twI f1 f2 p1 p2 q1 q2) else sgI ((p1 - f1) * (p1 - f1) + (p2 - f2) * (p2 - f2) - ((q1 - f1) * (q1 - f1) + (q2 - f2) * (q2 - f2)))) := Lib.hid rfl
  clear bp bq bf hf hp hq
  generalize twI f1 f2 p1 p2 q1 q2 = tw at *
  generalize (p1 - f1) * (p1 - f1) + (p2 - f2) * (p2 - f2) = sp at *
  generalize (q1 - f1) * (q1 - f1) + (q2 - f2) * (q2 - f2) = sq at *
  generalize p1 - f1 = e1 at *
  generalize p2 - f2 = e2 at *
  generalize q1 - f1 = e3 at *
  generalize q2 - f2 = e4 at *
  have hmul : -12800 ≤ sd * tw ∧ sd * tw ≤ 12800 := by
    rcases hsd with h | h
    · rw [h]; omega
    · rw [h]; omega
  obtain ⟨hmul1, hmul2⟩ := hmul
  clear hbig hsd
  have hwm : IntKind.i64.wrap (sd * tw) = sd * tw := IntWalk.i64_in _ (by omega)
  have KC1 := Lib.hid (fun W => compare_any 0 (sd * tw) W)
  have KC2 := Lib.hid (fun W => compare_any sp sq W)
  generalize ht : sd * tw = t at *
  have KO := Lib.hid (fun (g n : Nat) (W : World) h0 h1 => or2_any g n (sgI (0 - t)) (sgI (sp - sq)) W h0 h1)
  generalize sgI (0 - t) = x at *
  generalize sgI (sp - sq) = y at *
  rw [HR.out]
  generalize (if x ≠ 0 then x else y) = r at *
  clear HR
  go_enter Try.func95, Try.ntmps95
  go_wp2_with fail
  obtain ⟨W1, hW1⟩ : ∃ W1, W1 = ((w.alloc (.cells #[.int .i64 p1, .int .i64 p2] 38)).alloc (.cells #[.int .i64 q1, .int .i64 q2] 38)) := ⟨_, rfl⟩
  rw [← hW1]
  have yW10_0 : W1.cell? ⟨w.heap.size, 0, none⟩ = some (.int .i64 p1) := by rw [hW1]; go_simp
  have yW10_1 : W1.cell? ⟨w.heap.size, 1, none⟩ = some (.int .i64 p2) := by rw [hW1]; go_simp
  have fW10 : ∀ o, W1.frozen? ⟨w.heap.size, o, none⟩ = false := by intro o; rw [hW1]; (repeat rw [frozen?_alloc_cells]); simp [World.frozen?]
  have zW10 : w.heap.size < W1.heap.size := by rw [hW1]; simp <;> omega
  have yW11_0 : W1.cell? ⟨w.heap.size + 1, 0, none⟩ = some (.int .i64 q1) := by rw [hW1]; go_simp
  have yW11_1 : W1.cell? ⟨w.heap.size + 1, 1, none⟩ = some (.int .i64 q2) := by rw [hW1]; go_simp
  have fW11 : ∀ o, W1.frozen? ⟨w.heap.size + 1, o, none⟩ = false := by intro o; rw [hW1]; (repeat rw [frozen?_alloc_cells]); simp [World.frozen?]
  have zW11 : w.heap.size + 1 < W1.heap.size := by rw [hW1]; simp <;> omega
  have BW1 : Below w.heap.size w W1 := by rw [hW1]; exact (Below.alloc (Below.alloc (Below.refl _ _) (by simp <;> omega) _) (by simp <;> omega) _)
  have eW1 : Hid (W1.heap.size = w.heap.size + 2) := Lib.hid (by rw [hW1]; simp)
  clear hW1
  have v1 := ((bcell BW1).1 _ 0 z1).trans c1
  have v2 := ((bcell BW1).1 _ 0 z2).trans c2
  have v3 := ((bcell BW1).1 _ 1 z2).trans c3
  have zz1 : gs < W1.heap.size := Nat.lt_of_lt_of_le z1 BW1.size
  have zz2 : gf < W1.heap.size := Nat.lt_of_lt_of_le z2 BW1.size
  clear c1 c2 c3 z1 z2 fW10 fW11 eW1
  refine wp_region_B (fun W => Below W1.heap.size W1 W) (by kernel_rfl) (by repeat (first | exact Below.refl _ _ | apply Below.drew)) ?_
  first | refine wpB_skip 0 rfl (by kernel_rfl) (by kernel_rfl) (by kernel_rfl) (by rfl) ?_ | (refine wpB_text 0 (v := ?_) rfl (by kernel_rfl) (by kernel_rfl) (by kernel_rfl) (by rfl) (fun W hW => ?_) ?_; rotate_left; (have k1 := hW; obtain ⟨hc1, hf1⟩ := bcell k1; go_simp; refine comes_v ?_; exact k1))
  (try simp only [Act.put, List.setIfInBounds_toArray, List.set_cons_zero, List.set_cons_succ])
  first | refine wpB_skip 1 rfl (by kernel_rfl) (by kernel_rfl) (by kernel_rfl) (by rfl) ?_ | (refine wpB_text 1 (v := ?_) rfl (by kernel_rfl) (by kernel_rfl) (by kernel_rfl) (by rfl) (fun W hW => ?_) ?_; rotate_left; (have k1 := hW; obtain ⟨hc1, hf1⟩ := bcell k1; go_simp; refine comes_v ?_; exact k1))
  (try simp only [Act.put, List.setIfInBounds_toArray, List.set_cons_zero, List.set_cons_succ])
  first | refine wpB_skip 2 rfl (by kernel_rfl) (by kernel_rfl) (by kernel_rfl) (by rfl) ?_ | (refine wpB_text 2 (v := ?_) rfl (by kernel_rfl) (by kernel_rfl) (by kernel_rfl) (by rfl) (fun W hW => ?_) ?_; rotate_left; (have k1 := hW; obtain ⟨hc1, hf1⟩ := bcell k1; go_simp; refine comes_v ?_; exact k1))
  (try simp only [Act.put, List.setIfInBounds_toArray, List.set_cons_zero, List.set_cons_succ])
  first | refine wpB_skip 3 rfl (by kernel_rfl) (by kernel_rfl) (by kernel_rfl) (by rfl) ?_ | (refine wpB_text 3 (v := ?_) rfl (by kernel_rfl) (by kernel_rfl) (by kernel_rfl) (by rfl) (fun W hW => ?_) ?_; rotate_left; (have k1 := hW; obtain ⟨hc1, hf1⟩ := bcell k1; go_simp; refine comes_v ?_; exact k1))
  (try simp only [Act.put, List.setIfInBounds_toArray, List.set_cons_zero, List.set_cons_succ])
  first | refine wpB_skip 4 rfl (by kernel_rfl) (by kernel_rfl) (by kernel_rfl) (by rfl) ?_ | (refine wpB_text 4 (v := .int .i64 tw) rfl (by kernel_rfl) (by kernel_rfl) (by kernel_rfl) (by rfl) (fun W hW => ?_) ?_; (have k1 := hW; obtain ⟨hc1, hf1⟩ := bcell k1; go_simp; exact comes_c ( KT.out _) (fun wn hbn => bt_keep k1 hbn)))
  (try simp only [Act.put, List.setIfInBounds_toArray, List.set_cons_zero, List.set_cons_succ])
  first | refine wpB_skip 5 rfl (by kernel_rfl) (by kernel_rfl) (by kernel_rfl) (by rfl) ?_ | (refine wpB_text 5 (v := ?_) rfl (by kernel_rfl) (by kernel_rfl) (by kernel_rfl) (by rfl) (fun W hW => ?_) ?_; rotate_left; (have k1 := hW; obtain ⟨hc1, hf1⟩ := bcell k1; go_simp; refine comes_v ?_; exact k1))
  (try simp only [Act.put, List.setIfInBounds_toArray, List.set_cons_zero, List.set_cons_succ])
  first | refine wpB_skip 6 rfl (by kernel_rfl) (by kernel_rfl) (by kernel_rfl) (by rfl) ?_ | (refine wpB_text 6 (v := ?_) rfl (by kernel_rfl) (by kernel_rfl) (by kernel_rfl) (by rfl) (fun W hW => ?_) ?_; rotate_left; (have k1 := hW; obtain ⟨hc1, hf1⟩ := bcell k1; go_simp; refine comes_v ?_; exact k1))
  (try simp only [Act.put, List.setIfInBounds_toArray, List.set_cons_zero, List.set_cons_succ])
  refine wpB_done (by kernel_rfl) ?_ _
  intro W hW; have k1 := hW
  rename World => W2
  have B2 := BW1.trans (k1.mono BW1.size)
  have u1 := ((bcell k1).1 _ 0 zz1).trans v1
  have u2 := ((bcell k1).1 _ 0 zz2).trans v2
  have u3 := ((bcell k1).1 _ 1 zz2).trans v3
  have u4 := ((bcell k1).1 _ 0 zW10).trans yW10_0
  have u5 := ((bcell k1).1 _ 1 zW10).trans yW10_1
  have u6 := ((bcell k1).1 _ 0 zW11).trans yW11_0
  have u7 := ((bcell k1).1 _ 1 zW11).trans yW11_1
  have s1 : gs < W2.heap.size := Nat.lt_of_lt_of_le zz1 k1.size
  have s2 : gf < W2.heap.size := Nat.lt_of_lt_of_le zz2 k1.size
  have s3 : w.heap.size < W2.heap.size := Nat.lt_of_lt_of_le zW10 k1.size
  have s4 : w.heap.size + 1 < W2.heap.size := Nat.lt_of_lt_of_le zW11 k1.size
  clear v1 v2 v3 zz1 zz2 yW10_0 yW10_1 yW11_0 yW11_1 zW10 zW11 k1 BW1 KT
  go_wp2_with fail
  refine wp_region_BT 11 (fun W => Below (W2).heap.size (W2) W) (by kernel_rfl) (by kernel_rfl) (by repeat (first | exact Below.refl _ _ | apply Below.drew)) ?_
  simp only [List.take_succ_cons, List.take_zero, List.drop_succ_cons, List.drop_zero]
  first | refine wpH_skip (by rfl) ?_ | (refine wpH_text (v := ?_) (by rfl) (fun W k1 => ?_) ?_; rotate_left; (obtain ⟨hc1, hf1⟩ := bcell k1;  go_simp; refine comes_v ?_; exact k1))
  (try simp only [Act.put, List.setIfInBounds_toArray, List.set_cons_zero, List.set_cons_succ])
  first | refine wpH_skip (by rfl) ?_ | (refine wpH_text (v := .int .i64 x) (by rfl) (fun W k1 => ?_) ?_; (obtain ⟨hc1, hf1⟩ := bcell k1;  go_simp; exact comes_q ( KC1.out _) k1))
  (try simp only [Act.put, List.setIfInBounds_toArray, List.set_cons_zero, List.set_cons_succ])
  first | refine wpH_skip (by rfl) ?_ | (refine wpH_text (v := ?_) (by rfl) (fun W k1 => ?_) ?_; rotate_left; (obtain ⟨hc1, hf1⟩ := bcell k1;  go_simp; refine comes_v ?_; exact k1))
  (try simp only [Act.put, List.setIfInBounds_toArray, List.set_cons_zero, List.set_cons_succ])
  first | refine wpH_skip (by rfl) ?_ | (refine wpH_text (v := ?_) (by rfl) (fun W k1 => ?_) ?_; rotate_left; (obtain ⟨hc1, hf1⟩ := bcell k1;  go_simp; refine comes_v ?_; exact k1))
  (try simp only [Act.put, List.setIfInBounds_toArray, List.set_cons_zero, List.set_cons_succ])
  first | refine wpH_skip (by rfl) ?_ | (refine wpH_text (v := .agg #[.int .i64 e1, .int .i64 e2]) (by rfl) (fun W k1 => ?_) ?_; (obtain ⟨hc1, hf1⟩ := bcell k1;  go_simp; exact comes_c ( KM1.out _) (fun wn hbn => k1.trans (hbn.mono k1.size))))
  (try simp only [Act.put, List.setIfInBounds_toArray, List.set_cons_zero, List.set_cons_succ])
  first | refine wpH_skip (by rfl) ?_ | (refine wpH_text (v := .int .i64 sp) (by rfl) (fun W k1 => ?_) ?_; (obtain ⟨hc1, hf1⟩ := bcell k1;  go_simp; exact comes_c ( KS1.out _) (fun wn hbn => k1.trans (hbn.mono k1.size))))
  (try simp only [Act.put, List.setIfInBounds_toArray, List.set_cons_zero, List.set_cons_succ])
  first | refine wpH_skip (by rfl) ?_ | (refine wpH_text (v := ?_) (by rfl) (fun W k1 => ?_) ?_; rotate_left; (obtain ⟨hc1, hf1⟩ := bcell k1;  go_simp; refine comes_v ?_; exact k1))
  (try simp only [Act.put, List.setIfInBounds_toArray, List.set_cons_zero, List.set_cons_succ])
  first | refine wpH_skip (by rfl) ?_ | (refine wpH_text (v := ?_) (by rfl) (fun W k1 => ?_) ?_; rotate_left; (obtain ⟨hc1, hf1⟩ := bcell k1;  go_simp; refine comes_v ?_; exact k1))
  (try simp only [Act.put, List.setIfInBounds_toArray, List.set_cons_zero, List.set_cons_succ])
  first | refine wpH_skip (by rfl) ?_ | (refine wpH_text (v := .agg #[.int .i64 e3, .int .i64 e4]) (by rfl) (fun W k1 => ?_) ?_; (obtain ⟨hc1, hf1⟩ := bcell k1;  go_simp; exact comes_c ( KM2.out _) (fun wn hbn => k1.trans (hbn.mono k1.size))))
  (try simp only [Act.put, List.setIfInBounds_toArray, List.set_cons_zero, List.set_cons_succ])
  first | refine wpH_skip (by rfl) ?_ | (refine wpH_text (v := .int .i64 sq) (by rfl) (fun W k1 => ?_) ?_; (obtain ⟨hc1, hf1⟩ := bcell k1;  go_simp; exact comes_c ( KS2.out _) (fun wn hbn => k1.trans (hbn.mono k1.size))))
  (try simp only [Act.put, List.setIfInBounds_toArray, List.set_cons_zero, List.set_cons_succ])
  first | refine wpH_skip (by rfl) ?_ | (refine wpH_text (v := .int .i64 y) (by rfl) (fun W k1 => ?_) ?_; (obtain ⟨hc1, hf1⟩ := bcell k1;  go_simp; exact comes_q ( KC2.out _) k1))
  (try simp only [Act.put, List.setIfInBounds_toArray, List.set_cons_zero, List.set_cons_succ])
  refine wpH_nil ?_
  intro W k1; obtain ⟨hc1, hf1⟩ := bcell k1
  go_wp2_with fail
  refine (KO.out W.heap.size 2 _ (by go_simp) (by go_simp)).mono ?_; rintro e w2 ⟨rfl, rfl⟩
  have BW := B2.trans (k1.mono B2.size)
  have B3 := Below.alloc BW BW.size (.cells #[.int .i64 x, .int .i64 y] 3)
  go_wp2_with fail
  go_ret
  exact ⟨rfl, B3⟩
theorem seenFrom_any (f1 f2 sd : Int) (w : World) :
    Calls Try.prog 78 #[.agg #[.int .i64 f1, .int .i64 f2], .int .i64 sd] w fun e w' => e = .returned (.func (.func 95) #[] #[.pointer (some ⟨w.heap.size + 1, 0, none⟩), .pointer (some ⟨w.heap.size, 0, none⟩)]) ∧ Below w.heap.size w w' ∧ w.heap.size + 1 < w'.heap.size ∧ w'.cell? ⟨w.heap.size + 1, 0, none⟩ = some (.int .i64 sd) ∧ w'.cell? ⟨w.heap.size, 0, none⟩ = some (.int .i64 f1) ∧ w'.cell? ⟨w.heap.size, 1, none⟩ = some (.int .i64 f2) := by
  have hmf : ∀ (fn : Fn) (first cap : Array Value) (w : World), (Instr.makeFunc fn first cap).run Try.prog w = .ok (.func fn first cap) w := fun _ _ _ _ => rfl
  go_enter Try.func78, Try.ntmps78
  go_wp2_with fail
  go_ret
  exact ⟨rfl, by repeat (first | with_reducible assumption | with_reducible exact Below.refl _ _ | with_reducible apply Below.drew | ((with_reducible refine Below.setCell ?_ ?_ _); rotate_left; (first | exact Nat.le_refl _ | omega | (simp <;> omega))) | ((with_reducible refine Below.alloc ?_ ?_ _); rotate_left; (first | omega | (simp <;> omega)))), by simp, by go_simp, by go_simp, by go_simp⟩
/-- two boxes of zeros that nobody has written yet -/
structure FoS (w W : World) : Prop where
  bel : Below w.heap.size w W
  size : w.heap.size + 1 < W.heap.size
  c40 : W.cell? ⟨w.heap.size, 0, none⟩ = some (.int .i64 0)
  c41 : W.cell? ⟨w.heap.size, 1, none⟩ = some (.int .i64 0)
  c50 : W.cell? ⟨w.heap.size + 1, 0, none⟩ = some (.int .i64 0)
  c51 : W.cell? ⟨w.heap.size + 1, 1, none⟩ = some (.int .i64 0)
  f4 : ∀ o, W.frozen? ⟨w.heap.size, o, none⟩ = false
  f5 : ∀ o, W.frozen? ⟨w.heap.size + 1, o, none⟩ = false
theorem FoS.up {w W W' : World} (h : FoS w W) (hb : Below W.heap.size W W') : FoS w W' := by
  obtain ⟨hc, hf⟩ := bcell hb
  have hz := h.size
  exact ⟨h.bel.trans (hb.mono h.bel.size), Nat.lt_of_lt_of_le hz hb.size, (hc _ _ (by omega)).trans h.c40, (hc _ _ (by omega)).trans h.c41, (hc _ _ hz).trans h.c50, (hc _ _ hz).trans h.c51, fun o => (hf _ _ (by omega)).trans (h.f4 o), fun o => (hf _ _ hz).trans (h.f5 o)⟩
set_option maxHeartbeats 16000000 in
theorem firstOf_any (A : Option Addr) (c n : Nat) (l : List (Int × Int)) (gs gf : Nat) (f1 f2 sd t1 t2 : Int) (w : World) (hln : l.length = n) (h1 : 1 ≤ n) (hn : n ≤ 60) (hpg : ∀ x ∈ l, isPg x = true) (hf : isPg (f1, f2) = true) (hsd : sd = 1 ∨ sd = -1)
    (hc1 : w.cell? ⟨gs, 0, none⟩ = some (.int .i64 sd)) (hc2 : w.cell? ⟨gf, 0, none⟩ = some (.int .i64 f1)) (hc3 : w.cell? ⟨gf, 1, none⟩ = some (.int .i64 f2)) (hz1 : gs < w.heap.size) (hz2 : gf < w.heap.size)
    (hex : ∃ i, i < n ∧ ∀ j, j < n → befB (f1, f2) sd (pt l j) (pt l i) = false) (hun : ∀ i, i < n → (∀ j, j < n → befB (f1, f2) sd (pt l j) (pt l i) = false) → pt l i = (t1, t2)) (hR : Rd w w.heap.size A l) :
    Calls Try.prog 77 #[.slice A n c, .func (.func 95) #[] #[.pointer (some ⟨gs, 0, none⟩), .pointer (some ⟨gf, 0, none⟩)]] w fun e w' => e = .returned (.agg #[.int .i64 t1, .int .i64 t2]) ∧ Below w.heap.size w w' := by
  have HC : Hid (∀ W, Below w.heap.size w W → ∀ i, i < n → ∃ b off, A = some ⟨b, off, none⟩ ∧ b < w.heap.size ∧ W.cell? ⟨b, off + i * 2, none⟩ = some (.int .i64 (pt l i).1) ∧ W.cell? ⟨b, off + i * 2 + 1, none⟩ = some (.int .i64 (pt l i).2)) := Lib.hid (fun W hW i hi => by
    obtain ⟨b, off, e, hb, hc⟩ := hR (by omega)
    obtain ⟨h1, h2⟩ := hc i _ (pt_get (by omega))
    exact ⟨b, off, e, hb, (hW.cell (p := ⟨b, off + i * 2, none⟩) hb).trans h1, (hW.cell (p := ⟨b, off + i * 2 + 1, none⟩) hb).trans h2⟩)
  have KO : Hid (∀ W, Below w.heap.size w W → ∀ i j, i < n → j < n → Calls Try.prog 95 #[.agg #[.int .i64 (pt l j).1, .int .i64 (pt l j).2], .agg #[.int .i64 (pt l i).1, .int .i64 (pt l i).2], .pointer (some ⟨gs, 0, none⟩), .pointer (some ⟨gf, 0, none⟩)] W fun e w' => e = .returned (.int .i64 (seenI (f1, f2) sd (pt l j) (pt l i))) ∧ Below W.heap.size W w') := Lib.hid (fun W hW i j hi hj =>
    seen_any f1 f2 sd (pt l j).1 (pt l j).2 (pt l i).1 (pt l i).2 gs gf W hsd hf (hpg _ (pt_mem (by omega))) (hpg _ (pt_mem (by omega))) ((hW.cell (p := ⟨gs, 0, none⟩) hz1).trans hc1) ((hW.cell (p := ⟨gf, 0, none⟩) hz2).trans hc2) ((hW.cell (p := ⟨gf, 1, none⟩) hz2).trans hc3) (Nat.lt_of_lt_of_le hz1 hW.size) (Nat.lt_of_lt_of_le hz2 hW.size))
  have HEX := Lib.hid hex
  have HUN := Lib.hid hun
  clear hR hln hpg hf hsd hc1 hc2 hc3 hz1 hz2 hex hun
  go_enter Try.func77, Try.ntmps77
  go_wp2_with fail
  go_step3
  go_wp2_with fail
  obtain ⟨W1, hW1⟩ : ∃ W1, W1 = ((w.alloc (.cells #[.int .i64 0, .int .i64 0] 38)).alloc (.cells #[.int .i64 0, .int .i64 0] 38)) := ⟨_, rfl⟩
  rw [← hW1]
  have yW10_0 : W1.cell? ⟨w.heap.size, 0, none⟩ = some (.int .i64 0) := by rw [hW1]; go_simp
  have yW10_1 : W1.cell? ⟨w.heap.size, 1, none⟩ = some (.int .i64 0) := by rw [hW1]; go_simp
  have fW10 : ∀ o, W1.frozen? ⟨w.heap.size, o, none⟩ = false := by intro o; rw [hW1]; (repeat rw [frozen?_alloc_cells]); simp [World.frozen?]
  have zW10 : w.heap.size < W1.heap.size := by rw [hW1]; simp <;> omega
  have yW11_0 : W1.cell? ⟨w.heap.size + 1, 0, none⟩ = some (.int .i64 0) := by rw [hW1]; go_simp
  have yW11_1 : W1.cell? ⟨w.heap.size + 1, 1, none⟩ = some (.int .i64 0) := by rw [hW1]; go_simp
  have fW11 : ∀ o, W1.frozen? ⟨w.heap.size + 1, o, none⟩ = false := by intro o; rw [hW1]; (repeat rw [frozen?_alloc_cells]); simp [World.frozen?]
  have zW11 : w.heap.size + 1 < W1.heap.size := by rw [hW1]; simp <;> omega
  have BW1 : Below w.heap.size w W1 := by rw [hW1]; exact (Below.alloc (Below.alloc (Below.refl _ _) (by simp <;> omega) _) (by simp <;> omega) _)
  have eW1 : Hid (W1.heap.size = w.heap.size + 2) := Lib.hid (by rw [hW1]; simp)
  clear hW1
  have HS1 : Hid (FoS w W1) := Lib.hid ⟨BW1, zW11, yW10_0, yW10_1, yW11_0, yW11_1, fW10, fW11⟩
  clear yW10_0 yW10_1 yW11_0 yW11_1 fW10 fW11 zW10 zW11 eW1 BW1
  go_step3
  go_wp2_with fail
  go_loopg [12] n (fun g i wr => ∃ k : Nat, k ≤ n ∧ g = n - k ∧ i = .int .i64 k ∧ Hid (FoS w wr) ∧ Hid (∀ i, i < k → ∃ j, j < n ∧ befB (f1, f2) sd (pt l j) (pt l i) = true))
  case atStart => exact ⟨0, Nat.zero_le _, rfl, rfl, HS1, Lib.hid (fun i h => absurd h (Nat.not_lt_zero _))⟩
  case round =>
    clear HS1
    obtain ⟨k, hk, hg, rfl, hS, hA⟩ := hrel
    rename World => wo
    have HGK := Lib.hid hg
    clear hg
    by_cases hlt : k < n
    · obtain ⟨b, off, hAe, hb, x0, x1⟩ := HC.out wo hS.out.bel k hlt
      subst hAe
      have zb : b < wo.heap.size := Nat.lt_of_lt_of_le hb hS.out.bel.size
      have KOk := Lib.hid (fun W hW j hj => KO.out W hW k j hlt hj)
      have HUk := Lib.hid (HUN.out k hlt)
      have HAk : Hid ((∃ j, j < n ∧ befB (f1, f2) sd (pt l j) (pt l k) = true) → ∀ i, i < k + 1 → ∃ j, j < n ∧ befB (f1, f2) sd (pt l j) (pt l i) = true) := Lib.hid (fun h i hi => by
        rcases Nat.lt_or_ge i k with h1 | h1
        · exact hA.out i h1
        · obtain rfl : i = k := by omega
          exact h)
      obtain ⟨p1, p2, hpe⟩ : ∃ p1 p2, pt l k = (p1, p2) := ⟨_, _, rfl⟩
      rw [hpe] at x0 x1 KOk HUk HAk
      clear hpe hA
      go_wp2_with fail
      go_loopg [18] n (fun g2 j wi => ∃ m : Nat, m ≤ n ∧ g2 = n - m ∧ j = .int .i64 m ∧ Hid (FoS w wi) ∧ wo.heap.size < wi.heap.size ∧ wi.cell? ⟨wo.heap.size, 0, none⟩ = some (.int .i64 p1) ∧ wi.cell? ⟨wo.heap.size, 1, none⟩ = some (.int .i64 p2) ∧ Hid (∀ j, j < m → befB (f1, f2) sd (pt l j) (p1, p2) = false))
      case atStart => exact ⟨0, Nat.zero_le _, rfl, rfl, Lib.hid (hS.out.up (Below.alloc (Below.refl _ _) (Nat.le_refl _) _)), by simp, by go_simp, by go_simp, Lib.hid (fun i h => absurd h (Nat.not_lt_zero _))⟩
      case round =>
        clear hS x0 x1
        obtain ⟨m, hm, hg2, rfl, hSi, hzi, y1, y2, hN⟩ := hrel
        rename World => wi
        have HGM := Lib.hid hg2
        clear hg2
        by_cases hlm : m < n
        · obtain ⟨b', off', hAe, hb', q3, q4⟩ := HC.out wi hSi.out.bel m hlm
          injection hAe with hAe
          injection hAe with hA1 hA2
          subst hA1 hA2
          have zbi : b < wi.heap.size := Nat.lt_of_lt_of_le hb hSi.out.bel.size
          have KOm := Lib.hid (fun W hW => KOk.out W hW m hlm)
          have HIF : Hid (befB (f1, f2) sd (pt l m) (p1, p2) = true → ∃ j, j < n ∧ befB (f1, f2) sd (pt l j) (p1, p2) = true) := Lib.hid (fun h => ⟨m, hlm, h⟩)
          have HNO : Hid (befB (f1, f2) sd (pt l m) (p1, p2) = false → ∀ j, j < m + 1 → befB (f1, f2) sd (pt l j) (p1, p2) = false) := Lib.hid (fun h j hj => by
            rcases Nat.lt_or_ge j m with h1 | h1
            · exact hN.out j h1
            · obtain rfl : j = m := by omega
              exact h)
          have HLT : Hid (seenI (f1, f2) sd (pt l m) (p1, p2) < 0 ↔ befB (f1, f2) sd (pt l m) (p1, p2) = true) := Lib.hid seenI_lt
          obtain ⟨r1, r2, hre⟩ : ∃ r1 r2, pt l m = (r1, r2) := ⟨_, _, rfl⟩
          rw [hre] at q3 q4 KOm HIF HNO HLT
          clear hre hN
          generalize seenI (f1, f2) sd (r1, r2) (p1, p2) = o at *
          go_wp2_with fail
          obtain ⟨Wq, hWq⟩ : ∃ Wq, Wq = (wi.alloc (.cells #[.int .i64 r1, .int .i64 r2] 38)) := ⟨_, rfl⟩
          rw [← hWq]
          have yWq0_0 : Wq.cell? ⟨wi.heap.size, 0, none⟩ = some (.int .i64 r1) := by rw [hWq]; go_simp
          have yWq0_1 : Wq.cell? ⟨wi.heap.size, 1, none⟩ = some (.int .i64 r2) := by rw [hWq]; go_simp
          have fWq0 : ∀ o, Wq.frozen? ⟨wi.heap.size, o, none⟩ = false := by intro o; rw [hWq]; (repeat rw [frozen?_alloc_cells]); simp [World.frozen?]
          have zWq0 : wi.heap.size < Wq.heap.size := by rw [hWq]; simp <;> omega
          have BWq : Below wi.heap.size wi Wq := by rw [hWq]; exact (Below.alloc (Below.refl _ _) (by simp <;> omega) _)
          have eWq : Hid (Wq.heap.size = wi.heap.size + 1) := Lib.hid (by rw [hWq]; simp)
          clear hWq
          have SQ := Lib.hid (hSi.out.up BWq)
          refine (KOm.out Wq SQ.out.bel).mono ?_; rintro e w4 ⟨rfl, hb4⟩
          have S4 := Lib.hid (SQ.out.up hb4)
          have B4 := BWq.trans (hb4.mono BWq.size)
          have u1 := ((bcell B4).1 _ 0 hzi).trans y1
          have u2 := ((bcell B4).1 _ 1 hzi).trans y2
          have z5 : wo.heap.size < w4.heap.size := Nat.lt_of_lt_of_le hzi B4.size
          clear y1 y2 q3 q4 hSi yWq0_0 yWq0_1 zWq0 fWq0 eWq BWq hb4 B4 SQ KOm
          by_cases ho : o < 0
          · have HX := Lib.hid (HAk.out (HIF.out (HLT.out.1 ho)))
            go_wp2_with fail
            go_roundg (n - (k + 1))
            case measure => have := HGK.out; omega
            case rel => exact ⟨k + 1, by omega, rfl, by go_num, S4, HX⟩
          · have HX := Lib.hid (HNO.out (by
              cases hbb : befB (f1, f2) sd (r1, r2) (p1, p2) with
              | true => exact absurd (HLT.out.2 hbb) ho
              | false => rfl))
            go_wp2_with fail
            go_roundg (n - (m + 1))
            case measure => have := HGM.out; omega
            case rel => exact ⟨m + 1, by omega, rfl, by go_num, S4, z5, u1, u2, HX⟩
        · have hme : m = n := by omega
          subst hme
          have hpt := HUk.out hN.out
          injection hpt with e1 e2
          subst e1 e2
          have s1 := hSi.out.size
          have s2 := hSi.out.c40
          have s3 := hSi.out.c41
          have s4 := hSi.out.c50
          have s5 := hSi.out.c51
          have s6 := hSi.out.f4
          have s7 := hSi.out.f5
          have s8 := hSi.out.bel
          have s0 : w.heap.size < wi.heap.size := by omega
          clear hSi HUk HAk KOk HUN HEX KO HC hN
          go_wp2_with fail
          rw [Exit.noGoto_ret]
          refine bodyPost_ret (v := .agg #[.int .i64 p1, .int .i64 p2]) (by simp [results, Try.results77, go_sem, s0, s1, s2, s3, s4, s5]) rfl ⟨rfl, ?_⟩
          repeat (first | with_reducible assumption | with_reducible exact Below.refl _ _ | with_reducible apply Below.drew | ((with_reducible refine Below.setCell ?_ ?_ _); rotate_left; (first | exact Nat.le_refl _ | omega | (simp <;> omega))) | ((with_reducible refine Below.alloc ?_ ?_ _); rotate_left; (first | omega | (simp <;> omega))))
    · exfalso
      have hkn : k = n := by omega
      subst hkn
      obtain ⟨i, hi, hno⟩ := HEX.out
      obtain ⟨j, hj, hbb⟩ := hA.out i hi
      rw [hno j hj] at hbb
      cases hbb
end Go.Proofs.Ytnhfellgihmdaaa
/- contracts: TangentsFrom on both sides, at any list and any point -/
namespace Go.Proofs.Ytnhfellgihmdaaa
open Go.ChangeShapes Go.WideShapes Go.ChangeAt Go.RowKit Go.Joins
set_option linter.unusedVariables false
set_option linter.unusedSimpArgs false
set_option maxRecDepth 4000
/-- three boxes: a point, and two of zeros that nobody has written yet -/
structure TgS (w W : World) (p1 p2 : Int) : Prop where
  bel : Below w.heap.size w W
  size : w.heap.size + 2 < W.heap.size
  c30 : W.cell? ⟨w.heap.size, 0, none⟩ = some (.int .i64 p1)
  c31 : W.cell? ⟨w.heap.size, 1, none⟩ = some (.int .i64 p2)
  c40 : W.cell? ⟨w.heap.size + 1, 0, none⟩ = some (.int .i64 0)
  c41 : W.cell? ⟨w.heap.size + 1, 1, none⟩ = some (.int .i64 0)
  c50 : W.cell? ⟨w.heap.size + 2, 0, none⟩ = some (.int .i64 0)
  c51 : W.cell? ⟨w.heap.size + 2, 1, none⟩ = some (.int .i64 0)
  f4 : ∀ o, W.frozen? ⟨w.heap.size + 1, o, none⟩ = false
  f5 : ∀ o, W.frozen? ⟨w.heap.size + 2, o, none⟩ = false
theorem TgS.up {w W W' : World} {p1 p2 : Int} (h : TgS w W p1 p2) (hb : Below W.heap.size W W') : TgS w W' p1 p2 := by
  obtain ⟨hc, hf⟩ := bcell hb
  have hz := h.size
  exact ⟨h.bel.trans (hb.mono h.bel.size), Nat.lt_of_lt_of_le hz hb.size, (hc _ _ (by omega)).trans h.c30, (hc _ _ (by omega)).trans h.c31, (hc _ _ (by omega)).trans h.c40, (hc _ _ (by omega)).trans h.c41, (hc _ _ hz).trans h.c50, (hc _ _ hz).trans h.c51, fun o => (hf _ _ (by omega)).trans (h.f4 o), fun o => (hf _ _ hz).trans (h.f5 o)⟩
set_option maxHeartbeats 4000000
theorem specTangents_no1 (A : Option Addr) (c : Nat) (l : List (Int × Int)) (p1 p2 : Int) (w : World) (hn : l.length ≤ 1048576) (hcap : l.length ≤ c) (hc2 : c ≤ 9223372036854775807) (hg : ¬ Dif l) (hR : Rd w w.heap.size A l) :
    Calls Try.prog 47 #[.slice A l.length c, .agg #[.int .i64 p1, .int .i64 p2]] w fun e w' => e = .returned (.tuple #[.agg #[.int .i64 0, .int .i64 0], .agg #[.int .i64 0, .int .i64 0], .bool false]) ∧ Below w.heap.size w w' := by
  have K := Lib.hid (fun W (hb : Below w.heap.size w W) => bdGood_any A c l W hn hcap hc2 (rd_more (rd_below hR hb (Nat.le_refl _)) hb.size))
  rw [difB_false hg] at K
  clear hg hR
  go_enter Try.func47, Try.ntmps47
  go_wp2_with fail
  obtain ⟨W1, hW1⟩ : ∃ W1, W1 = (((w.alloc (.cells #[.int .i64 p1, .int .i64 p2] 38)).alloc (.cells #[.int .i64 0, .int .i64 0] 38)).alloc (.cells #[.int .i64 0, .int .i64 0] 38)) := ⟨_, rfl⟩
  rw [← hW1]
  have yW10_0 : W1.cell? ⟨w.heap.size, 0, none⟩ = some (.int .i64 p1) := by rw [hW1]; go_simp
  have yW10_1 : W1.cell? ⟨w.heap.size, 1, none⟩ = some (.int .i64 p2) := by rw [hW1]; go_simp
  have fW10 : ∀ o, W1.frozen? ⟨w.heap.size, o, none⟩ = false := by intro o; rw [hW1]; (repeat rw [frozen?_alloc_cells]); simp [World.frozen?]
  have zW10 : w.heap.size < W1.heap.size := by rw [hW1]; simp <;> omega
  have yW11_0 : W1.cell? ⟨w.heap.size + 1, 0, none⟩ = some (.int .i64 0) := by rw [hW1]; go_simp
  have yW11_1 : W1.cell? ⟨w.heap.size + 1, 1, none⟩ = some (.int .i64 0) := by rw [hW1]; go_simp
  have fW11 : ∀ o, W1.frozen? ⟨w.heap.size + 1, o, none⟩ = false := by intro o; rw [hW1]; (repeat rw [frozen?_alloc_cells]); simp [World.frozen?]
  have zW11 : w.heap.size + 1 < W1.heap.size := by rw [hW1]; simp <;> omega
  have yW12_0 : W1.cell? ⟨w.heap.size + 2, 0, none⟩ = some (.int .i64 0) := by rw [hW1]; go_simp
  have yW12_1 : W1.cell? ⟨w.heap.size + 2, 1, none⟩ = some (.int .i64 0) := by rw [hW1]; go_simp
  have fW12 : ∀ o, W1.frozen? ⟨w.heap.size + 2, o, none⟩ = false := by intro o; rw [hW1]; (repeat rw [frozen?_alloc_cells]); simp [World.frozen?]
  have zW12 : w.heap.size + 2 < W1.heap.size := by rw [hW1]; simp <;> omega
  have BW1 : Below w.heap.size w W1 := by rw [hW1]; exact (Below.alloc (Below.alloc (Below.alloc (Below.refl _ _) (by simp <;> omega) _) (by simp <;> omega) _) (by simp <;> omega) _)
  have eW1 : Hid (W1.heap.size = w.heap.size + 3) := Lib.hid (by rw [hW1]; simp)
  clear hW1
  have S1 : TgS w W1 p1 p2 := ⟨BW1, zW12, yW10_0, yW10_1, yW11_0, yW11_1, yW12_0, yW12_1, fW11, fW12⟩
  clear yW10_0 yW10_1 fW10 zW10 yW11_0 yW11_1 fW11 zW11 yW12_0 yW12_1 fW12 zW12 eW1
  refine (K.out W1 BW1).mono ?_; rintro e w2 ⟨rfl, hb2⟩
  have S2 := S1.up hb2
  clear S1 BW1 hb2 K
  have c40 := S2.c40
  have c41 := S2.c41
  have c50 := S2.c50
  have c51 := S2.c51
  have f4 := S2.f4
  have f5 := S2.f5
  have r2 := S2.size
  have r1 : w.heap.size + 1 < w2.heap.size := by omega
  have BB := S2.bel
  clear S2
  go_wp2_with fail
  refine bodyPost_ret (v := .tuple #[.agg #[.int .i64 0, .int .i64 0], .agg #[.int .i64 0, .int .i64 0], .bool false]) (by simp [results, Try.results47, go_sem, r1, r2, c40, c41, c50, c51]) rfl ⟨rfl, ?_⟩
  repeat (first | with_reducible assumption | with_reducible exact Below.refl _ _ | with_reducible apply Below.drew | ((with_reducible refine Below.setCell ?_ ?_ _); rotate_left; (first | exact Nat.le_refl _ | omega | (simp <;> omega))) | ((with_reducible refine Below.alloc ?_ ?_ _); rotate_left; (first | omega | (simp <;> omega))))
theorem specTangents_no2 (A : Option Addr) (c : Nat) (l : List (Int × Int)) (p1 p2 : Int) (w : World) (hn : l.length ≤ 1048576) (hcap : l.length ≤ c) (hc2 : c ≤ 9223372036854775807) (hg : Dif l) (hp : isPegB p1 p2 = false) (hR : Rd w w.heap.size A l) :
    Calls Try.prog 47 #[.slice A l.length c, .agg #[.int .i64 p1, .int .i64 p2]] w fun e w' => e = .returned (.tuple #[.agg #[.int .i64 0, .int .i64 0], .agg #[.int .i64 0, .int .i64 0], .bool false]) ∧ Below w.heap.size w w' := by
  have K := Lib.hid (fun W (hb : Below w.heap.size w W) => bdGood_any A c l W hn hcap hc2 (rd_more (rd_below hR hb (Nat.le_refl _)) hb.size))
  rw [difB_true hg] at K
  have KP := Lib.hid (fun W => pgIs_any p1 p2 W)
  rw [hp] at KP
  clear hg hp hR
  go_enter Try.func47, Try.ntmps47
  go_wp2_with fail
  obtain ⟨W1, hW1⟩ : ∃ W1, W1 = (((w.alloc (.cells #[.int .i64 p1, .int .i64 p2] 38)).alloc (.cells #[.int .i64 0, .int .i64 0] 38)).alloc (.cells #[.int .i64 0, .int .i64 0] 38)) := ⟨_, rfl⟩
  rw [← hW1]
  have yW10_0 : W1.cell? ⟨w.heap.size, 0, none⟩ = some (.int .i64 p1) := by rw [hW1]; go_simp
  have yW10_1 : W1.cell? ⟨w.heap.size, 1, none⟩ = some (.int .i64 p2) := by rw [hW1]; go_simp
  have fW10 : ∀ o, W1.frozen? ⟨w.heap.size, o, none⟩ = false := by intro o; rw [hW1]; (repeat rw [frozen?_alloc_cells]); simp [World.frozen?]
  have zW10 : w.heap.size < W1.heap.size := by rw [hW1]; simp <;> omega
  have yW11_0 : W1.cell? ⟨w.heap.size + 1, 0, none⟩ = some (.int .i64 0) := by rw [hW1]; go_simp
  have yW11_1 : W1.cell? ⟨w.heap.size + 1, 1, none⟩ = some (.int .i64 0) := by rw [hW1]; go_simp
  have fW11 : ∀ o, W1.frozen? ⟨w.heap.size + 1, o, none⟩ = false := by intro o; rw [hW1]; (repeat rw [frozen?_alloc_cells]); simp [World.frozen?]
  have zW11 : w.heap.size + 1 < W1.heap.size := by rw [hW1]; simp <;> omega
  have yW12_0 : W1.cell? ⟨w.heap.size + 2, 0, none⟩ = some (.int .i64 0) := by rw [hW1]; go_simp
  have yW12_1 : W1.cell? ⟨w.heap.size + 2, 1, none⟩ = some (.int .i64 0) := by rw [hW1]; go_simp
  have fW12 : ∀ o, W1.frozen? ⟨w.heap.size + 2, o, none⟩ = false := by intro o; rw [hW1]; (repeat rw [frozen?_alloc_cells]); simp [World.frozen?]
  have zW12 : w.heap.size + 2 < W1.heap.size := by rw [hW1]; simp <;> omega
  have BW1 : Below w.heap.size w W1 := by rw [hW1]; exact (Below.alloc (Below.alloc (Below.alloc (Below.refl _ _) (by simp <;> omega) _) (by simp <;> omega) _) (by simp <;> omega) _)
  have eW1 : Hid (W1.heap.size = w.heap.size + 3) := Lib.hid (by rw [hW1]; simp)
  clear hW1
  have S1 : TgS w W1 p1 p2 := ⟨BW1, zW12, yW10_0, yW10_1, yW11_0, yW11_1, yW12_0, yW12_1, fW11, fW12⟩
  clear yW10_0 yW10_1 fW10 zW10 yW11_0 yW11_1 fW11 zW11 yW12_0 yW12_1 fW12 zW12 eW1
  refine (K.out W1 BW1).mono ?_; rintro e w2 ⟨rfl, hb2⟩
  have S2 := S1.up hb2
  have s2a := S2.c30
  have s2b := S2.c31
  have s2z : w.heap.size < w2.heap.size := by have := S2.size; omega
  go_wp2_with fail
  refine (KP.out _).mono ?_; rintro e w3 ⟨rfl, hb3⟩
  have S3 := S2.up hb3
  clear S1 BW1 hb2 hb3 K KP S2
  clear s2a s2b s2z
  have c40 := S3.c40
  have c41 := S3.c41
  have c50 := S3.c50
  have c51 := S3.c51
  have f4 := S3.f4
  have f5 := S3.f5
  have r2 := S3.size
  have r1 : w.heap.size + 1 < w3.heap.size := by omega
  have BB := S3.bel
  clear S3
  go_wp2_with fail
  refine bodyPost_ret (v := .tuple #[.agg #[.int .i64 0, .int .i64 0], .agg #[.int .i64 0, .int .i64 0], .bool false]) (by simp [results, Try.results47, go_sem, r1, r2, c40, c41, c50, c51]) rfl ⟨rfl, ?_⟩
  repeat (first | with_reducible assumption | with_reducible exact Below.refl _ _ | with_reducible apply Below.drew | ((with_reducible refine Below.setCell ?_ ?_ _); rotate_left; (first | exact Nat.le_refl _ | omega | (simp <;> omega))) | ((with_reducible refine Below.alloc ?_ ?_ _); rotate_left; (first | omega | (simp <;> omega))))
theorem specTangents_no3 (A : Option Addr) (c : Nat) (l : List (Int × Int)) (p1 p2 : Int) (w : World) (hn : l.length ≤ 1048576) (hcap : l.length ≤ c) (hc2 : c ≤ 9223372036854775807) (hg : Dif l) (hp : isPegB p1 p2 = true) (h3 : (band l).length < 3) (hR : Rd w w.heap.size A l) :
    Calls Try.prog 47 #[.slice A l.length c, .agg #[.int .i64 p1, .int .i64 p2]] w fun e w' => e = .returned (.tuple #[.agg #[.int .i64 0, .int .i64 0], .agg #[.int .i64 0, .int .i64 0], .bool false]) ∧ Below w.heap.size w w' := by
  have K := Lib.hid (fun W (hb : Below w.heap.size w W) => bdGood_any A c l W hn hcap hc2 (rd_more (rd_below hR hb (Nat.le_refl _)) hb.size))
  rw [difB_true hg] at K
  have KP := Lib.hid (fun W => pgIs_any p1 p2 W)
  rw [hp] at KP
  have K2 := Lib.hid (fun W (hb : Below w.heap.size w W) => bandS_any A c l.length l W rfl hg (rd_more (rd_below hR hb (Nat.le_refl _)) hb.size))
  have hpos := band_pos hg
  have hfew := band_few hg
  clear hg hp hR
  generalize band l = m at *
  go_enter Try.func47, Try.ntmps47
  go_wp2_with fail
  obtain ⟨W1, hW1⟩ : ∃ W1, W1 = (((w.alloc (.cells #[.int .i64 p1, .int .i64 p2] 38)).alloc (.cells #[.int .i64 0, .int .i64 0] 38)).alloc (.cells #[.int .i64 0, .int .i64 0] 38)) := ⟨_, rfl⟩
  rw [← hW1]
  have yW10_0 : W1.cell? ⟨w.heap.size, 0, none⟩ = some (.int .i64 p1) := by rw [hW1]; go_simp
  have yW10_1 : W1.cell? ⟨w.heap.size, 1, none⟩ = some (.int .i64 p2) := by rw [hW1]; go_simp
  have fW10 : ∀ o, W1.frozen? ⟨w.heap.size, o, none⟩ = false := by intro o; rw [hW1]; (repeat rw [frozen?_alloc_cells]); simp [World.frozen?]
  have zW10 : w.heap.size < W1.heap.size := by rw [hW1]; simp <;> omega
  have yW11_0 : W1.cell? ⟨w.heap.size + 1, 0, none⟩ = some (.int .i64 0) := by rw [hW1]; go_simp
  have yW11_1 : W1.cell? ⟨w.heap.size + 1, 1, none⟩ = some (.int .i64 0) := by rw [hW1]; go_simp
  have fW11 : ∀ o, W1.frozen? ⟨w.heap.size + 1, o, none⟩ = false := by intro o; rw [hW1]; (repeat rw [frozen?_alloc_cells]); simp [World.frozen?]
  have zW11 : w.heap.size + 1 < W1.heap.size := by rw [hW1]; simp <;> omega
  have yW12_0 : W1.cell? ⟨w.heap.size + 2, 0, none⟩ = some (.int .i64 0) := by rw [hW1]; go_simp
  have yW12_1 : W1.cell? ⟨w.heap.size + 2, 1, none⟩ = some (.int .i64 0) := by rw [hW1]; go_simp
  have fW12 : ∀ o, W1.frozen? ⟨w.heap.size + 2, o, none⟩ = false := by intro o; rw [hW1]; (repeat rw [frozen?_alloc_cells]); simp [World.frozen?]
  have zW12 : w.heap.size + 2 < W1.heap.size := by rw [hW1]; simp <;> omega
  have BW1 : Below w.heap.size w W1 := by rw [hW1]; exact (Below.alloc (Below.alloc (Below.alloc (Below.refl _ _) (by simp <;> omega) _) (by simp <;> omega) _) (by simp <;> omega) _)
  have eW1 : Hid (W1.heap.size = w.heap.size + 3) := Lib.hid (by rw [hW1]; simp)
  clear hW1
  have S1 : TgS w W1 p1 p2 := ⟨BW1, zW12, yW10_0, yW10_1, yW11_0, yW11_1, yW12_0, yW12_1, fW11, fW12⟩
  clear yW10_0 yW10_1 fW10 zW10 yW11_0 yW11_1 fW11 zW11 yW12_0 yW12_1 fW12 zW12 eW1
  refine (K.out W1 BW1).mono ?_; rintro e w2 ⟨rfl, hb2⟩
  have S2 := S1.up hb2
  have s2a := S2.c30
  have s2b := S2.c31
  have s2z : w.heap.size < w2.heap.size := by have := S2.size; omega
  go_wp2_with fail
  refine (KP.out _).mono ?_; rintro e w3 ⟨rfl, hb3⟩
  have S3 := S2.up hb3
  clear S1 BW1 hb2 hb3 K KP S2
  clear s2a s2b s2z
  go_wp2_with fail
  refine (K2.out w3 S3.bel).mono ?_; rintro e w4 ⟨⟨v, rfl, ho⟩, hb4⟩
  have S4 := S3.up hb4
  obtain ⟨g, cap, rfl, q1, q2, hRR⟩ := rd_own ho hpos
  have HR4 := Lib.hid hRR
  unfold maxLen at q2
  clear S3 ho hRR hb4 K2
  generalize hml : m.length = ml at *
  clear hml HR4
  have c40 := S4.c40
  have c41 := S4.c41
  have c50 := S4.c50
  have c51 := S4.c51
  have f4 := S4.f4
  have f5 := S4.f5
  have r2 := S4.size
  have r1 : w.heap.size + 1 < w4.heap.size := by omega
  have BB := S4.bel
  clear S4
  go_wp2_with fail
  refine bodyPost_ret (v := .tuple #[.agg #[.int .i64 0, .int .i64 0], .agg #[.int .i64 0, .int .i64 0], .bool false]) (by simp [results, Try.results47, go_sem, r1, r2, c40, c41, c50, c51]) rfl ⟨rfl, ?_⟩
  repeat (first | with_reducible assumption | with_reducible exact Below.refl _ _ | with_reducible apply Below.drew | ((with_reducible refine Below.setCell ?_ ?_ _); rotate_left; (first | exact Nat.le_refl _ | omega | (simp <;> omega))) | ((with_reducible refine Below.alloc ?_ ?_ _); rotate_left; (first | omega | (simp <;> omega))))
theorem specTangents_no4 (A : Option Addr) (c : Nat) (l : List (Int × Int)) (p1 p2 : Int) (w : World) (hn : l.length ≤ 1048576) (hcap : l.length ≤ c) (hc2 : c ≤ 9223372036854775807) (hg : Dif l) (hp : isPegB p1 p2 = true) (h3 : 3 ≤ (band l).length) (hin : inHB (band l) (p1, p2) = true) (hR : Rd w w.heap.size A l) :
    Calls Try.prog 47 #[.slice A l.length c, .agg #[.int .i64 p1, .int .i64 p2]] w fun e w' => e = .returned (.tuple #[.agg #[.int .i64 0, .int .i64 0], .agg #[.int .i64 0, .int .i64 0], .bool false]) ∧ Below w.heap.size w w' := by
  have K := Lib.hid (fun W (hb : Below w.heap.size w W) => bdGood_any A c l W hn hcap hc2 (rd_more (rd_below hR hb (Nat.le_refl _)) hb.size))
  rw [difB_true hg] at K
  have KP := Lib.hid (fun W => pgIs_any p1 p2 W)
  rw [hp] at KP
  have K2 := Lib.hid (fun W (hb : Below w.heap.size w W) => bandS_any A c l.length l W rfl hg (rd_more (rd_below hR hb (Nat.le_refl _)) hb.size))
  have hpos := band_pos hg
  have hfew := band_few hg
  have KB := Lib.hid (fun X cap W (h : Rd W W.heap.size X (band l)) => bdIn_any X cap (band l) (p1, p2) W hpos hfew (band_pegs hg) hp h)
  rw [hin] at KB
  clear hg hp hR hin
  generalize band l = m at *
  generalize hml : m.length = ml at *
  go_enter Try.func47, Try.ntmps47
  go_wp2_with fail
  obtain ⟨W1, hW1⟩ : ∃ W1, W1 = (((w.alloc (.cells #[.int .i64 p1, .int .i64 p2] 38)).alloc (.cells #[.int .i64 0, .int .i64 0] 38)).alloc (.cells #[.int .i64 0, .int .i64 0] 38)) := ⟨_, rfl⟩
  rw [← hW1]
  have yW10_0 : W1.cell? ⟨w.heap.size, 0, none⟩ = some (.int .i64 p1) := by rw [hW1]; go_simp
  have yW10_1 : W1.cell? ⟨w.heap.size, 1, none⟩ = some (.int .i64 p2) := by rw [hW1]; go_simp
  have fW10 : ∀ o, W1.frozen? ⟨w.heap.size, o, none⟩ = false := by intro o; rw [hW1]; (repeat rw [frozen?_alloc_cells]); simp [World.frozen?]
  have zW10 : w.heap.size < W1.heap.size := by rw [hW1]; simp <;> omega
  have yW11_0 : W1.cell? ⟨w.heap.size + 1, 0, none⟩ = some (.int .i64 0) := by rw [hW1]; go_simp
  have yW11_1 : W1.cell? ⟨w.heap.size + 1, 1, none⟩ = some (.int .i64 0) := by rw [hW1]; go_simp
  have fW11 : ∀ o, W1.frozen? ⟨w.heap.size + 1, o, none⟩ = false := by intro o; rw [hW1]; (repeat rw [frozen?_alloc_cells]); simp [World.frozen?]
  have zW11 : w.heap.size + 1 < W1.heap.size := by rw [hW1]; simp <;> omega
  have yW12_0 : W1.cell? ⟨w.heap.size + 2, 0, none⟩ = some (.int .i64 0) := by rw [hW1]; go_simp
  have yW12_1 : W1.cell? ⟨w.heap.size + 2, 1, none⟩ = some (.int .i64 0) := by rw [hW1]; go_simp
  have fW12 : ∀ o, W1.frozen? ⟨w.heap.size + 2, o, none⟩ = false := by intro o; rw [hW1]; (repeat rw [frozen?_alloc_cells]); simp [World.frozen?]
  have zW12 : w.heap.size + 2 < W1.heap.size := by rw [hW1]; simp <;> omega
  have BW1 : Below w.heap.size w W1 := by rw [hW1]; exact (Below.alloc (Below.alloc (Below.alloc (Below.refl _ _) (by simp <;> omega) _) (by simp <;> omega) _) (by simp <;> omega) _)
  have eW1 : Hid (W1.heap.size = w.heap.size + 3) := Lib.hid (by rw [hW1]; simp)
  clear hW1
  have S1 : TgS w W1 p1 p2 := ⟨BW1, zW12, yW10_0, yW10_1, yW11_0, yW11_1, yW12_0, yW12_1, fW11, fW12⟩
  clear yW10_0 yW10_1 fW10 zW10 yW11_0 yW11_1 fW11 zW11 yW12_0 yW12_1 fW12 zW12 eW1
  refine (K.out W1 BW1).mono ?_; rintro e w2 ⟨rfl, hb2⟩
  have S2 := S1.up hb2
  have s2a := S2.c30
  have s2b := S2.c31
  have s2z : w.heap.size < w2.heap.size := by have := S2.size; omega
  go_wp2_with fail
  refine (KP.out _).mono ?_; rintro e w3 ⟨rfl, hb3⟩
  have S3 := S2.up hb3
  clear S1 BW1 hb2 hb3 K KP S2
  clear s2a s2b s2z
  go_wp2_with fail
  refine (K2.out w3 S3.bel).mono ?_; rintro e w4 ⟨⟨v, rfl, ho⟩, hb4⟩
  have S4 := S3.up hb4
  obtain ⟨g, cap, rfl, q1, q2, hRR⟩ := rd_own (m := m) (by rw [hml]; exact ho) (by rw [hml]; exact hpos)
  have HR4 := Lib.hid hRR
  unfold maxLen at q2
  have s4a := S4.c30
  have s4b := S4.c31
  have s4z : w.heap.size < w4.heap.size := by have := S4.size; omega
  clear S3 ho hRR hb4 K2
  rw [hml] at q1
  try rw [hml]
  go_wp2_with fail
  refine (KB.out _ _ _ HR4.out).mono ?_; rintro e w5 ⟨rfl, hb5⟩
  have S5 := S4.up hb5
  clear s4a s4b s4z
  clear S4 hb5 KB HR4
  have c40 := S5.c40
  have c41 := S5.c41
  have c50 := S5.c50
  have c51 := S5.c51
  have f4 := S5.f4
  have f5 := S5.f5
  have r2 := S5.size
  have r1 : w.heap.size + 1 < w5.heap.size := by omega
  have BB := S5.bel
  clear S5
  go_wp2_with fail
  refine bodyPost_ret (v := .tuple #[.agg #[.int .i64 0, .int .i64 0], .agg #[.int .i64 0, .int .i64 0], .bool false]) (by simp [results, Try.results47, go_sem, r1, r2, c40, c41, c50, c51]) rfl ⟨rfl, ?_⟩
  repeat (first | with_reducible assumption | with_reducible exact Below.refl _ _ | with_reducible apply Below.drew | ((with_reducible refine Below.setCell ?_ ?_ _); rotate_left; (first | exact Nat.le_refl _ | omega | (simp <;> omega))) | ((with_reducible refine Below.alloc ?_ ?_ _); rotate_left; (first | omega | (simp <;> omega))))
theorem implTangents_no1 (A : Option Addr) (c : Nat) (l : List (Int × Int)) (p1 p2 : Int) (w : World) (hn : l.length ≤ 1048576) (hcap : l.length ≤ c) (hc2 : c ≤ 9223372036854775807) (hg : ¬ Dif l) (hR : Rd w w.heap.size A l) :
    Calls Try.prog 48 #[.slice A l.length c, .agg #[.int .i64 p1, .int .i64 p2]] w fun e w' => e = .returned (.tuple #[.agg #[.int .i64 0, .int .i64 0], .agg #[.int .i64 0, .int .i64 0], .bool false]) ∧ Below w.heap.size w w' := by
  have K0 := Lib.hid (fun W (hb : Below w.heap.size w W) => implBandOf_any A c l W hn hcap hc2 (rd_more (rd_below hR hb (Nat.le_refl _)) hb.size))
  rw [difB_false hg] at K0
  have K : Hid (∀ W, Below w.heap.size w W → Calls Try.prog 21 #[.slice A l.length c] W (RetL W [] false)) := Lib.hid K0.out
  clear K0
  clear hg hR
  go_enter Try.func48, Try.ntmps48
  go_wp2_with fail
  obtain ⟨W1, hW1⟩ : ∃ W1, W1 = (((w.alloc (.cells #[.int .i64 p1, .int .i64 p2] 38)).alloc (.cells #[.int .i64 0, .int .i64 0] 38)).alloc (.cells #[.int .i64 0, .int .i64 0] 38)) := ⟨_, rfl⟩
  rw [← hW1]
  have yW10_0 : W1.cell? ⟨w.heap.size, 0, none⟩ = some (.int .i64 p1) := by rw [hW1]; go_simp
  have yW10_1 : W1.cell? ⟨w.heap.size, 1, none⟩ = some (.int .i64 p2) := by rw [hW1]; go_simp
  have fW10 : ∀ o, W1.frozen? ⟨w.heap.size, o, none⟩ = false := by intro o; rw [hW1]; (repeat rw [frozen?_alloc_cells]); simp [World.frozen?]
  have zW10 : w.heap.size < W1.heap.size := by rw [hW1]; simp <;> omega
  have yW11_0 : W1.cell? ⟨w.heap.size + 1, 0, none⟩ = some (.int .i64 0) := by rw [hW1]; go_simp
  have yW11_1 : W1.cell? ⟨w.heap.size + 1, 1, none⟩ = some (.int .i64 0) := by rw [hW1]; go_simp
  have fW11 : ∀ o, W1.frozen? ⟨w.heap.size + 1, o, none⟩ = false := by intro o; rw [hW1]; (repeat rw [frozen?_alloc_cells]); simp [World.frozen?]
  have zW11 : w.heap.size + 1 < W1.heap.size := by rw [hW1]; simp <;> omega
  have yW12_0 : W1.cell? ⟨w.heap.size + 2, 0, none⟩ = some (.int .i64 0) := by rw [hW1]; go_simp
  have yW12_1 : W1.cell? ⟨w.heap.size + 2, 1, none⟩ = some (.int .i64 0) := by rw [hW1]; go_simp
  have fW12 : ∀ o, W1.frozen? ⟨w.heap.size + 2, o, none⟩ = false := by intro o; rw [hW1]; (repeat rw [frozen?_alloc_cells]); simp [World.frozen?]
  have zW12 : w.heap.size + 2 < W1.heap.size := by rw [hW1]; simp <;> omega
  have BW1 : Below w.heap.size w W1 := by rw [hW1]; exact (Below.alloc (Below.alloc (Below.alloc (Below.refl _ _) (by simp <;> omega) _) (by simp <;> omega) _) (by simp <;> omega) _)
  have eW1 : Hid (W1.heap.size = w.heap.size + 3) := Lib.hid (by rw [hW1]; simp)
  clear hW1
  have S1 : TgS w W1 p1 p2 := ⟨BW1, zW12, yW10_0, yW10_1, yW11_0, yW11_1, yW12_0, yW12_1, fW11, fW12⟩
  clear yW10_0 yW10_1 fW10 zW10 yW11_0 yW11_1 fW11 zW11 yW12_0 yW12_1 fW12 zW12 eW1
  refine (K.out W1 BW1).mono ?_; rintro e w2 ⟨X, cX, rfl, q1, q2, hb2, q3⟩
  have S2 := S1.up hb2
  have HR2 := Lib.hid (rd_more (rw_rd q3) (Nat.le_refl _))
  unfold maxLen at q2
  clear q3
  clear S1 BW1 hb2 K
  have c40 := S2.c40
  have c41 := S2.c41
  have c50 := S2.c50
  have c51 := S2.c51
  have f4 := S2.f4
  have f5 := S2.f5
  have r2 := S2.size
  have r1 : w.heap.size + 1 < w2.heap.size := by omega
  have BB := S2.bel
  clear S2
  go_wp2_with fail
  refine bodyPost_ret (v := .tuple #[.agg #[.int .i64 0, .int .i64 0], .agg #[.int .i64 0, .int .i64 0], .bool false]) (by simp [results, Try.results48, go_sem, r1, r2, c40, c41, c50, c51]) rfl ⟨rfl, ?_⟩
  repeat (first | with_reducible assumption | with_reducible exact Below.refl _ _ | with_reducible apply Below.drew | ((with_reducible refine Below.setCell ?_ ?_ _); rotate_left; (first | exact Nat.le_refl _ | omega | (simp <;> omega))) | ((with_reducible refine Below.alloc ?_ ?_ _); rotate_left; (first | omega | (simp <;> omega))))
theorem implTangents_no2 (A : Option Addr) (c : Nat) (l : List (Int × Int)) (p1 p2 : Int) (w : World) (hn : l.length ≤ 1048576) (hcap : l.length ≤ c) (hc2 : c ≤ 9223372036854775807) (hg : Dif l) (hp : isPegB p1 p2 = false) (hR : Rd w w.heap.size A l) :
    Calls Try.prog 48 #[.slice A l.length c, .agg #[.int .i64 p1, .int .i64 p2]] w fun e w' => e = .returned (.tuple #[.agg #[.int .i64 0, .int .i64 0], .agg #[.int .i64 0, .int .i64 0], .bool false]) ∧ Below w.heap.size w w' := by
  have K0 := Lib.hid (fun W (hb : Below w.heap.size w W) => implBandOf_any A c l W hn hcap hc2 (rd_more (rd_below hR hb (Nat.le_refl _)) hb.size))
  rw [difB_true hg] at K0
  have K : Hid (∀ W, Below w.heap.size w W → Calls Try.prog 21 #[.slice A l.length c] W (RetL W (band l) true)) := Lib.hid K0.out
  clear K0
  have KP := Lib.hid (fun W => implIsPeg_any p1 p2 W)
  rw [hp] at KP
  clear hg hp hR
  generalize band l = m at *
  go_enter Try.func48, Try.ntmps48
  go_wp2_with fail
  obtain ⟨W1, hW1⟩ : ∃ W1, W1 = (((w.alloc (.cells #[.int .i64 p1, .int .i64 p2] 38)).alloc (.cells #[.int .i64 0, .int .i64 0] 38)).alloc (.cells #[.int .i64 0, .int .i64 0] 38)) := ⟨_, rfl⟩
  rw [← hW1]
  have yW10_0 : W1.cell? ⟨w.heap.size, 0, none⟩ = some (.int .i64 p1) := by rw [hW1]; go_simp
  have yW10_1 : W1.cell? ⟨w.heap.size, 1, none⟩ = some (.int .i64 p2) := by rw [hW1]; go_simp
  have fW10 : ∀ o, W1.frozen? ⟨w.heap.size, o, none⟩ = false := by intro o; rw [hW1]; (repeat rw [frozen?_alloc_cells]); simp [World.frozen?]
  have zW10 : w.heap.size < W1.heap.size := by rw [hW1]; simp <;> omega
  have yW11_0 : W1.cell? ⟨w.heap.size + 1, 0, none⟩ = some (.int .i64 0) := by rw [hW1]; go_simp
  have yW11_1 : W1.cell? ⟨w.heap.size + 1, 1, none⟩ = some (.int .i64 0) := by rw [hW1]; go_simp
  have fW11 : ∀ o, W1.frozen? ⟨w.heap.size + 1, o, none⟩ = false := by intro o; rw [hW1]; (repeat rw [frozen?_alloc_cells]); simp [World.frozen?]
  have zW11 : w.heap.size + 1 < W1.heap.size := by rw [hW1]; simp <;> omega
  have yW12_0 : W1.cell? ⟨w.heap.size + 2, 0, none⟩ = some (.int .i64 0) := by rw [hW1]; go_simp
  have yW12_1 : W1.cell? ⟨w.heap.size + 2, 1, none⟩ = some (.int .i64 0) := by rw [hW1]; go_simp
  have fW12 : ∀ o, W1.frozen? ⟨w.heap.size + 2, o, none⟩ = false := by intro o; rw [hW1]; (repeat rw [frozen?_alloc_cells]); simp [World.frozen?]
  have zW12 : w.heap.size + 2 < W1.heap.size := by rw [hW1]; simp <;> omega
  have BW1 : Below w.heap.size w W1 := by rw [hW1]; exact (Below.alloc (Below.alloc (Below.alloc (Below.refl _ _) (by simp <;> omega) _) (by simp <;> omega) _) (by simp <;> omega) _)
  have eW1 : Hid (W1.heap.size = w.heap.size + 3) := Lib.hid (by rw [hW1]; simp)
  clear hW1
  have S1 : TgS w W1 p1 p2 := ⟨BW1, zW12, yW10_0, yW10_1, yW11_0, yW11_1, yW12_0, yW12_1, fW11, fW12⟩
  clear yW10_0 yW10_1 fW10 zW10 yW11_0 yW11_1 fW11 zW11 yW12_0 yW12_1 fW12 zW12 eW1
  refine (K.out W1 BW1).mono ?_; rintro e w2 ⟨X, cX, rfl, q1, q2, hb2, q3⟩
  have S2 := S1.up hb2
  have HR2 := Lib.hid (rd_more (rw_rd q3) (Nat.le_refl _))
  unfold maxLen at q2
  clear q3
  have s2a := S2.c30
  have s2b := S2.c31
  have s2z : w.heap.size < w2.heap.size := by have := S2.size; omega
  go_wp2_with fail
  refine (KP.out _).mono ?_; rintro e w3 ⟨rfl, hb3⟩
  have S3 := S2.up hb3
  clear S1 BW1 hb2 hb3 K KP S2
  clear s2a s2b s2z
  have c40 := S3.c40
  have c41 := S3.c41
  have c50 := S3.c50
  have c51 := S3.c51
  have f4 := S3.f4
  have f5 := S3.f5
  have r2 := S3.size
  have r1 : w.heap.size + 1 < w3.heap.size := by omega
  have BB := S3.bel
  clear S3
  go_wp2_with fail
  refine bodyPost_ret (v := .tuple #[.agg #[.int .i64 0, .int .i64 0], .agg #[.int .i64 0, .int .i64 0], .bool false]) (by simp [results, Try.results48, go_sem, r1, r2, c40, c41, c50, c51]) rfl ⟨rfl, ?_⟩
  repeat (first | with_reducible assumption | with_reducible exact Below.refl _ _ | with_reducible apply Below.drew | ((with_reducible refine Below.setCell ?_ ?_ _); rotate_left; (first | exact Nat.le_refl _ | omega | (simp <;> omega))) | ((with_reducible refine Below.alloc ?_ ?_ _); rotate_left; (first | omega | (simp <;> omega))))
theorem implTangents_no3 (A : Option Addr) (c : Nat) (l : List (Int × Int)) (p1 p2 : Int) (w : World) (hn : l.length ≤ 1048576) (hcap : l.length ≤ c) (hc2 : c ≤ 9223372036854775807) (hg : Dif l) (hp : isPegB p1 p2 = true) (h3 : (band l).length < 3) (hR : Rd w w.heap.size A l) :
    Calls Try.prog 48 #[.slice A l.length c, .agg #[.int .i64 p1, .int .i64 p2]] w fun e w' => e = .returned (.tuple #[.agg #[.int .i64 0, .int .i64 0], .agg #[.int .i64 0, .int .i64 0], .bool false]) ∧ Below w.heap.size w w' := by
  have K0 := Lib.hid (fun W (hb : Below w.heap.size w W) => implBandOf_any A c l W hn hcap hc2 (rd_more (rd_below hR hb (Nat.le_refl _)) hb.size))
  rw [difB_true hg] at K0
  have K : Hid (∀ W, Below w.heap.size w W → Calls Try.prog 21 #[.slice A l.length c] W (RetL W (band l) true)) := Lib.hid K0.out
  clear K0
  have KP := Lib.hid (fun W => implIsPeg_any p1 p2 W)
  rw [hp] at KP
  clear hg hp hR
  generalize band l = m at *
  go_enter Try.func48, Try.ntmps48
  go_wp2_with fail
  obtain ⟨W1, hW1⟩ : ∃ W1, W1 = (((w.alloc (.cells #[.int .i64 p1, .int .i64 p2] 38)).alloc (.cells #[.int .i64 0, .int .i64 0] 38)).alloc (.cells #[.int .i64 0, .int .i64 0] 38)) := ⟨_, rfl⟩
  rw [← hW1]
  have yW10_0 : W1.cell? ⟨w.heap.size, 0, none⟩ = some (.int .i64 p1) := by rw [hW1]; go_simp
  have yW10_1 : W1.cell? ⟨w.heap.size, 1, none⟩ = some (.int .i64 p2) := by rw [hW1]; go_simp
  have fW10 : ∀ o, W1.frozen? ⟨w.heap.size, o, none⟩ = false := by intro o; rw [hW1]; (repeat rw [frozen?_alloc_cells]); simp [World.frozen?]
  have zW10 : w.heap.size < W1.heap.size := by rw [hW1]; simp <;> omega
  have yW11_0 : W1.cell? ⟨w.heap.size + 1, 0, none⟩ = some (.int .i64 0) := by rw [hW1]; go_simp
  have yW11_1 : W1.cell? ⟨w.heap.size + 1, 1, none⟩ = some (.int .i64 0) := by rw [hW1]; go_simp
  have fW11 : ∀ o, W1.frozen? ⟨w.heap.size + 1, o, none⟩ = false := by intro o; rw [hW1]; (repeat rw [frozen?_alloc_cells]); simp [World.frozen?]
  have zW11 : w.heap.size + 1 < W1.heap.size := by rw [hW1]; simp <;> omega
  have yW12_0 : W1.cell? ⟨w.heap.size + 2, 0, none⟩ = some (.int .i64 0) := by rw [hW1]; go_simp
  have yW12_1 : W1.cell? ⟨w.heap.size + 2, 1, none⟩ = some (.int .i64 0) := by rw [hW1]; go_simp
  have fW12 : ∀ o, W1.frozen? ⟨w.heap.size + 2, o, none⟩ = false := by intro o; rw [hW1]; (repeat rw [frozen?_alloc_cells]); simp [World.frozen?]
  have zW12 : w.heap.size + 2 < W1.heap.size := by rw [hW1]; simp <;> omega
  have BW1 : Below w.heap.size w W1 := by rw [hW1]; exact (Below.alloc (Below.alloc (Below.alloc (Below.refl _ _) (by simp <;> omega) _) (by simp <;> omega) _) (by simp <;> omega) _)
  have eW1 : Hid (W1.heap.size = w.heap.size + 3) := Lib.hid (by rw [hW1]; simp)
  clear hW1
  have S1 : TgS w W1 p1 p2 := ⟨BW1, zW12, yW10_0, yW10_1, yW11_0, yW11_1, yW12_0, yW12_1, fW11, fW12⟩
  clear yW10_0 yW10_1 fW10 zW10 yW11_0 yW11_1 fW11 zW11 yW12_0 yW12_1 fW12 zW12 eW1
  refine (K.out W1 BW1).mono ?_; rintro e w2 ⟨X, cX, rfl, q1, q2, hb2, q3⟩
  have S2 := S1.up hb2
  have HR2 := Lib.hid (rd_more (rw_rd q3) (Nat.le_refl _))
  unfold maxLen at q2
  clear q3
  have s2a := S2.c30
  have s2b := S2.c31
  have s2z : w.heap.size < w2.heap.size := by have := S2.size; omega
  go_wp2_with fail
  refine (KP.out _).mono ?_; rintro e w3 ⟨rfl, hb3⟩
  have S3 := S2.up hb3
  clear S1 BW1 hb2 hb3 K KP S2 HR2
  clear s2a s2b s2z
  generalize m.length = ml at *
  have c40 := S3.c40
  have c41 := S3.c41
  have c50 := S3.c50
  have c51 := S3.c51
  have f4 := S3.f4
  have f5 := S3.f5
  have r2 := S3.size
  have r1 : w.heap.size + 1 < w3.heap.size := by omega
  have BB := S3.bel
  clear S3
  go_wp2_with fail
  refine bodyPost_ret (v := .tuple #[.agg #[.int .i64 0, .int .i64 0], .agg #[.int .i64 0, .int .i64 0], .bool false]) (by simp [results, Try.results48, go_sem, r1, r2, c40, c41, c50, c51]) rfl ⟨rfl, ?_⟩
  repeat (first | with_reducible assumption | with_reducible exact Below.refl _ _ | with_reducible apply Below.drew | ((with_reducible refine Below.setCell ?_ ?_ _); rotate_left; (first | exact Nat.le_refl _ | omega | (simp <;> omega))) | ((with_reducible refine Below.alloc ?_ ?_ _); rotate_left; (first | omega | (simp <;> omega))))
theorem implTangents_no4 (A : Option Addr) (c : Nat) (l : List (Int × Int)) (p1 p2 : Int) (w : World) (hn : l.length ≤ 1048576) (hcap : l.length ≤ c) (hc2 : c ≤ 9223372036854775807) (hg : Dif l) (hp : isPegB p1 p2 = true) (h3 : 3 ≤ (band l).length) (hin : inHB (band l) (p1, p2) = true) (hR : Rd w w.heap.size A l) :
    Calls Try.prog 48 #[.slice A l.length c, .agg #[.int .i64 p1, .int .i64 p2]] w fun e w' => e = .returned (.tuple #[.agg #[.int .i64 0, .int .i64 0], .agg #[.int .i64 0, .int .i64 0], .bool false]) ∧ Below w.heap.size w w' := by
  have K0 := Lib.hid (fun W (hb : Below w.heap.size w W) => implBandOf_any A c l W hn hcap hc2 (rd_more (rd_below hR hb (Nat.le_refl _)) hb.size))
  rw [difB_true hg] at K0
  have K : Hid (∀ W, Below w.heap.size w W → Calls Try.prog 21 #[.slice A l.length c] W (RetL W (band l) true)) := Lib.hid K0.out
  clear K0
  have KP := Lib.hid (fun W => implIsPeg_any p1 p2 W)
  rw [hp] at KP
  have hpos := band_pos hg
  have hfew := band_few hg
  have KB := Lib.hid (fun X cap W (h : Rd W W.heap.size X (band l)) => placeIn_any X cap (band l) (p1, p2) W hpos hfew (band_pegs hg) hp h)
  have hpl := place_in hg (p1, p2)
  rw [hin] at hpl
  clear hg hp hR hin
  generalize placeI (band l) (p1, p2) = pl at *
  generalize band l = m at *
  have hpl2 : 0 ≤ pl := of_decide_eq_true hpl.symm
  clear hpl
  go_enter Try.func48, Try.ntmps48
  go_wp2_with fail
  obtain ⟨W1, hW1⟩ : ∃ W1, W1 = (((w.alloc (.cells #[.int .i64 p1, .int .i64 p2] 38)).alloc (.cells #[.int .i64 0, .int .i64 0] 38)).alloc (.cells #[.int .i64 0, .int .i64 0] 38)) := ⟨_, rfl⟩
  rw [← hW1]
  have yW10_0 : W1.cell? ⟨w.heap.size, 0, none⟩ = some (.int .i64 p1) := by rw [hW1]; go_simp
  have yW10_1 : W1.cell? ⟨w.heap.size, 1, none⟩ = some (.int .i64 p2) := by rw [hW1]; go_simp
  have fW10 : ∀ o, W1.frozen? ⟨w.heap.size, o, none⟩ = false := by intro o; rw [hW1]; (repeat rw [frozen?_alloc_cells]); simp [World.frozen?]
  have zW10 : w.heap.size < W1.heap.size := by rw [hW1]; simp <;> omega
  have yW11_0 : W1.cell? ⟨w.heap.size + 1, 0, none⟩ = some (.int .i64 0) := by rw [hW1]; go_simp
  have yW11_1 : W1.cell? ⟨w.heap.size + 1, 1, none⟩ = some (.int .i64 0) := by rw [hW1]; go_simp
  have fW11 : ∀ o, W1.frozen? ⟨w.heap.size + 1, o, none⟩ = false := by intro o; rw [hW1]; (repeat rw [frozen?_alloc_cells]); simp [World.frozen?]
  have zW11 : w.heap.size + 1 < W1.heap.size := by rw [hW1]; simp <;> omega
  have yW12_0 : W1.cell? ⟨w.heap.size + 2, 0, none⟩ = some (.int .i64 0) := by rw [hW1]; go_simp
  have yW12_1 : W1.cell? ⟨w.heap.size + 2, 1, none⟩ = some (.int .i64 0) := by rw [hW1]; go_simp
  have fW12 : ∀ o, W1.frozen? ⟨w.heap.size + 2, o, none⟩ = false := by intro o; rw [hW1]; (repeat rw [frozen?_alloc_cells]); simp [World.frozen?]
  have zW12 : w.heap.size + 2 < W1.heap.size := by rw [hW1]; simp <;> omega
  have BW1 : Below w.heap.size w W1 := by rw [hW1]; exact (Below.alloc (Below.alloc (Below.alloc (Below.refl _ _) (by simp <;> omega) _) (by simp <;> omega) _) (by simp <;> omega) _)
  have eW1 : Hid (W1.heap.size = w.heap.size + 3) := Lib.hid (by rw [hW1]; simp)
  clear hW1
  have S1 : TgS w W1 p1 p2 := ⟨BW1, zW12, yW10_0, yW10_1, yW11_0, yW11_1, yW12_0, yW12_1, fW11, fW12⟩
  clear yW10_0 yW10_1 fW10 zW10 yW11_0 yW11_1 fW11 zW11 yW12_0 yW12_1 fW12 zW12 eW1
  refine (K.out W1 BW1).mono ?_; rintro e w2 ⟨X, cX, rfl, q1, q2, hb2, q3⟩
  have S2 := S1.up hb2
  have HR2 := Lib.hid (rd_more (rw_rd q3) (Nat.le_refl _))
  unfold maxLen at q2
  clear q3
  have s2a := S2.c30
  have s2b := S2.c31
  have s2z : w.heap.size < w2.heap.size := by have := S2.size; omega
  go_wp2_with fail
  refine (KP.out _).mono ?_; rintro e w3 ⟨rfl, hb3⟩
  have S3 := S2.up hb3
  clear S1 BW1 hb2 K KP S2
  clear s2a s2b s2z
  have HR3 := Lib.hid (rd_more (rd_below HR2.out hb3 (Nat.le_refl _)) hb3.size)
  have s3a := S3.c30
  have s3b := S3.c31
  have s3z : w.heap.size < w3.heap.size := by have := S3.size; omega
  clear HR2 hb3
  generalize hml : m.length = ml at *
  go_wp2_with fail
  refine (KB.out _ _ _ HR3.out).mono ?_; rintro e w4 ⟨rfl, hb4⟩
  have S4 := S3.up hb4
  clear s3a s3b s3z
  clear S3 hb4 KB HR3
  have c40 := S4.c40
  have c41 := S4.c41
  have c50 := S4.c50
  have c51 := S4.c51
  have f4 := S4.f4
  have f5 := S4.f5
  have r2 := S4.size
  have r1 : w.heap.size + 1 < w4.heap.size := by omega
  have BB := S4.bel
  clear S4
  go_wp2_with fail
  refine bodyPost_ret (v := .tuple #[.agg #[.int .i64 0, .int .i64 0], .agg #[.int .i64 0, .int .i64 0], .bool false]) (by simp [results, Try.results48, go_sem, r1, r2, c40, c41, c50, c51]) rfl ⟨rfl, ?_⟩
  repeat (first | with_reducible assumption | with_reducible exact Below.refl _ _ | with_reducible apply Below.drew | ((with_reducible refine Below.setCell ?_ ?_ _); rotate_left; (first | exact Nat.le_refl _ | omega | (simp <;> omega))) | ((with_reducible refine Below.alloc ?_ ?_ _); rotate_left; (first | omega | (simp <;> omega))))
set_option maxHeartbeats 8000000 in
theorem specTangents_yes (A : Option Addr) (c : Nat) (l : List (Int × Int)) (p1 p2 : Int) (w : World) (hn : l.length ≤ 1048576) (hcap : l.length ≤ c) (hc2 : c ≤ 9223372036854775807) (hg : Dif l) (hp : isPegB p1 p2 = true) (h3 : 3 ≤ (band l).length) (hin : inHB (band l) (p1, p2) = false) (hR : Rd w w.heap.size A l) :
    Calls Try.prog 47 #[.slice A l.length c, .agg #[.int .i64 p1, .int .i64 p2]] w fun e w' => e = .returned (.tuple #[.agg #[.int .i64 (tanF (band l) (p1, p2) 1 ((band l).length - 1)).1, .int .i64 (tanF (band l) (p1, p2) 1 ((band l).length - 1)).2], .agg #[.int .i64 (tanF (band l) (p1, p2) (-1) ((band l).length - 1)).1, .int .i64 (tanF (band l) (p1, p2) (-1) ((band l).length - 1)).2], .bool true]) ∧ Below w.heap.size w w' := by
  have K := Lib.hid (fun W (hb : Below w.heap.size w W) => bdGood_any A c l W hn hcap hc2 (rd_more (rd_below hR hb (Nat.le_refl _)) hb.size))
  rw [difB_true hg] at K
  have KP := Lib.hid (fun W => pgIs_any p1 p2 W)
  rw [hp] at KP
  have K2 := Lib.hid (fun W (hb : Below w.heap.size w W) => bandS_any A c l.length l W rfl hg (rd_more (rd_below hR hb (Nat.le_refl _)) hb.size))
  have hpos := band_pos hg
  have hfew := band_few hg
  have KB := Lib.hid (fun X cap W (h : Rd W W.heap.size X (band l)) => bdIn_any X cap (band l) (p1, p2) W hpos hfew (band_pegs hg) hp h)
  rw [hin] at KB
  have hsep := sep_band hg h3 hin
  have hmem : ∀ x ∈ band l, isPg x = true := fun x hx => by
    obtain ⟨i, hi, e⟩ := List.mem_iff_getElem.1 hx
    have h1 := band_pegs hg i hi
    rw [vx_pt hi] at h1
    have h2 := pt_get hi
    rw [List.getElem?_eq_getElem hi] at h2
    injection h2 with h2
    rw [← e, h2]
    exact h1
  have KT := Lib.hid (fun X cap ml sd W (hml : (band l).length = ml) (hcc : ml ≤ cap) (hcm : cap ≤ 9223372036854775807) (hs : sd = 1 ∨ sd = -1) (h : Rd W W.heap.size X (band l)) => bdTangent_any X cap ml (band l) p1 p2 sd W hml (by omega) (by omega) hcc hcm hmem hp hs h)
  have H3 := Lib.hid h3
  clear hg hp hR hin hsep hmem
  generalize tanF (band l) (p1, p2) = TF at *
  generalize band l = m at *
  generalize hml : m.length = ml at *
  go_enter Try.func47, Try.ntmps47
  go_wp2_with fail
  obtain ⟨W1, hW1⟩ : ∃ W1, W1 = (((w.alloc (.cells #[.int .i64 p1, .int .i64 p2] 38)).alloc (.cells #[.int .i64 0, .int .i64 0] 38)).alloc (.cells #[.int .i64 0, .int .i64 0] 38)) := ⟨_, rfl⟩
  rw [← hW1]
  have yW10_0 : W1.cell? ⟨w.heap.size, 0, none⟩ = some (.int .i64 p1) := by rw [hW1]; go_simp
  have yW10_1 : W1.cell? ⟨w.heap.size, 1, none⟩ = some (.int .i64 p2) := by rw [hW1]; go_simp
  have fW10 : ∀ o, W1.frozen? ⟨w.heap.size, o, none⟩ = false := by intro o; rw [hW1]; (repeat rw [frozen?_alloc_cells]); simp [World.frozen?]
  have zW10 : w.heap.size < W1.heap.size := by rw [hW1]; simp <;> omega
  have yW11_0 : W1.cell? ⟨w.heap.size + 1, 0, none⟩ = some (.int .i64 0) := by rw [hW1]; go_simp
  have yW11_1 : W1.cell? ⟨w.heap.size + 1, 1, none⟩ = some (.int .i64 0) := by rw [hW1]; go_simp
  have fW11 : ∀ o, W1.frozen? ⟨w.heap.size + 1, o, none⟩ = false := by intro o; rw [hW1]; (repeat rw [frozen?_alloc_cells]); simp [World.frozen?]
  have zW11 : w.heap.size + 1 < W1.heap.size := by rw [hW1]; simp <;> omega
  have yW12_0 : W1.cell? ⟨w.heap.size + 2, 0, none⟩ = some (.int .i64 0) := by rw [hW1]; go_simp
  have yW12_1 : W1.cell? ⟨w.heap.size + 2, 1, none⟩ = some (.int .i64 0) := by rw [hW1]; go_simp
  have fW12 : ∀ o, W1.frozen? ⟨w.heap.size + 2, o, none⟩ = false := by intro o; rw [hW1]; (repeat rw [frozen?_alloc_cells]); simp [World.frozen?]
  have zW12 : w.heap.size + 2 < W1.heap.size := by rw [hW1]; simp <;> omega
  have BW1 : Below w.heap.size w W1 := by rw [hW1]; exact (Below.alloc (Below.alloc (Below.alloc (Below.refl _ _) (by simp <;> omega) _) (by simp <;> omega) _) (by simp <;> omega) _)
  have eW1 : Hid (W1.heap.size = w.heap.size + 3) := Lib.hid (by rw [hW1]; simp)
  clear hW1
  have S1 : TgS w W1 p1 p2 := ⟨BW1, zW12, yW10_0, yW10_1, yW11_0, yW11_1, yW12_0, yW12_1, fW11, fW12⟩
  clear yW10_0 yW10_1 fW10 zW10 yW11_0 yW11_1 fW11 zW11 yW12_0 yW12_1 fW12 zW12 eW1
  refine (K.out W1 BW1).mono ?_; rintro e w2 ⟨rfl, hb2⟩
  have S2 := S1.up hb2
  have s2a := S2.c30
  have s2b := S2.c31
  have s2z : w.heap.size < w2.heap.size := by have := S2.size; omega
  go_wp2_with fail
  refine (KP.out _).mono ?_; rintro e w3 ⟨rfl, hb3⟩
  have S3 := S2.up hb3
  clear S1 BW1 hb2 hb3 K KP S2
  clear s2a s2b s2z
  go_wp2_with fail
  refine (K2.out w3 S3.bel).mono ?_; rintro e w4 ⟨⟨v, rfl, ho⟩, hb4⟩
  have S4 := S3.up hb4
  obtain ⟨g, cap, rfl, q1, q2, hRR⟩ := rd_own (m := m) (by rw [hml]; exact ho) (by rw [hml]; exact hpos)
  have HR4 := Lib.hid hRR
  unfold maxLen at q2
  have s4a := S4.c30
  have s4b := S4.c31
  have s4z : w.heap.size < w4.heap.size := by have := S4.size; omega
  clear S3 ho hRR hb4 K2
  rw [hml] at q1
  try rw [hml]
  go_wp2_with fail
  refine (KB.out _ _ _ HR4.out).mono ?_; rintro e w5 ⟨rfl, hb5⟩
  have S5 := S4.up hb5
  have HR5 := Lib.hid (rd_more (rd_below HR4.out hb5 (Nat.le_refl _)) hb5.size)
  clear s4a s4b s4z
  have nml : ¬ ((ml : Int) < 3) := by omega
  have KT1 := Lib.hid (fun W (h : Rd W W.heap.size (some ⟨g, 0, none⟩) m) => KT.out (some ⟨g, 0, none⟩) cap ml 1 W rfl q1 (by omega) (Or.inl rfl) h)
  have KT2 := Lib.hid (fun W (h : Rd W W.heap.size (some ⟨g, 0, none⟩) m) => (show Calls Try.prog 76 #[.slice (some ⟨g, 0, none⟩) ml cap, .agg #[.int .i64 p1, .int .i64 p2], .int .i64 1] W fun e w' => e = .returned (.agg #[.int .i64 (TF (-1) (ml - 1)).1, .int .i64 (TF (-1) (ml - 1)).2]) ∧ Below W.heap.size W w' from KT.out (some ⟨g, 0, none⟩) cap ml (-1) W rfl q1 (by omega) (Or.inr rfl) h))
  obtain ⟨⟨t1, t2⟩, ht⟩ : ∃ t : Int × Int, TF 1 (ml - 1) = t := ⟨_, rfl⟩
  obtain ⟨⟨t3, t4⟩, ht'⟩ : ∃ t : Int × Int, TF (-1) (ml - 1) = t := ⟨_, rfl⟩
  rw [ht] at KT1
  rw [ht'] at KT2
  have HT1 := Lib.hid ht
  have HT2 := Lib.hid ht'
  clear S4 hb5 KB HR4 KT ht ht'
  have s5a := S5.c30
  have s5b := S5.c31
  have s5z : w.heap.size < w5.heap.size := by have := S5.size; omega
  have HS5 := Lib.hid S5
  clear S5
  go_upto_region 6 with fail
  go_cut [6] from 30 to 35 (fun p wx => p = .bool true ∧ Below w.heap.size w wx ∧ w.heap.size + 2 < wx.heap.size ∧ wx.cell? ⟨w.heap.size + 1, 0, none⟩ = some (.int .i64 t1) ∧ wx.cell? ⟨w.heap.size + 1, 1, none⟩ = some (.int .i64 t2) ∧ wx.cell? ⟨w.heap.size + 2, 0, none⟩ = some (.int .i64 t3) ∧ wx.cell? ⟨w.heap.size + 2, 1, none⟩ = some (.int .i64 t4))
  case first =>
    go_region_with
      (first
       | (go_at_call 76; with_reducible refine (KT1.out _ (rd_more (rd_below HR5.out (Below.refl _ _).drew (Nat.le_refl _)) (Nat.le_refl _))).mono ?_; rintro e w6 ⟨rfl, hb6⟩;
          have hb6' : Below w5.heap.size w5 w6 := (Below.refl w5.heap.size w5).drew.trans (hb6.mono (Nat.le_refl _));
          have S6 := HS5.out.up hb6';
          have HR6 := Lib.hid (rd_more (rd_below HR5.out hb6' (Nat.le_refl _)) hb6'.size);
          have s6a := S6.c30;
          have s6b := S6.c31;
          have s6z : w.heap.size < w6.heap.size := Nat.lt_of_lt_of_le s5z hb6'.size;
          have HS6 := Lib.hid S6;
          have x40 := S6.c40;
          have x41 := S6.c41;
          have xf4 := S6.f4;
          have xz1 : w.heap.size + 1 < w6.heap.size := Nat.lt_of_succ_lt S6.size;
          clear S6 hb6 hb6')
       | (go_at_call 76; go_must (with_reducible refine (KT2.out _ HR6.out).mono ?_); rintro e w7 ⟨rfl, hb7⟩;
          have S7 := HS6.out.up hb7;
          have y40 := S7.c40;
          have y41 := S7.c41;
          have y50 := S7.c50;
          have y51 := S7.c51;
          have yf4 := S7.f4;
          have yf5 := S7.f5;
          have yz2 := S7.size;
          have yz1 : w.heap.size + 1 < w7.heap.size := Nat.lt_of_succ_lt yz2;
          have yB := S7.bel;
          clear S7 hb7))
    all_goals
      go_wp2_with fail
      go_meet
      case rel => exact ⟨rfl, by repeat (first | with_reducible assumption | with_reducible exact Below.refl _ _ | with_reducible apply Below.drew | ((with_reducible refine Below.setCell ?_ ?_ _); rotate_left; (first | exact Nat.le_refl _ | omega | (simp <;> omega))) | ((with_reducible refine Below.alloc ?_ ?_ _); rotate_left; (first | omega | (simp <;> omega)))), by simp [World.setCell]; omega, by go_simp, by go_simp, by go_simp, by go_simp⟩
  case rest =>
    obtain ⟨rfl, BB, r2, c40, c41, c50, c51⟩ := hcut
    have r1 : w.heap.size + 1 < wc.heap.size := by omega
    go_wp2_with fail
    refine bodyPost_ret (v := .tuple #[.agg #[.int .i64 t1, .int .i64 t2], .agg #[.int .i64 t3, .int .i64 t4], .bool true]) (by simp [results, Try.results47, go_sem, r1, r2, c40, c41, c50, c51]) rfl ⟨by rw [HT1.out, HT2.out], BB⟩
theorem seenFromE_any (f1 f2 sd : Int) (w : World) :
    Calls Try.prog 78 #[.agg #[.int .i64 f1, .int .i64 f2], .int .i64 sd] w fun e w' => ∃ gs gf : Nat, e = .returned (.func (.func 95) #[] #[.pointer (some ⟨gs, 0, none⟩), .pointer (some ⟨gf, 0, none⟩)]) ∧ Below w.heap.size w w' ∧ gs < w'.heap.size ∧ gf < w'.heap.size ∧ w'.cell? ⟨gs, 0, none⟩ = some (.int .i64 sd) ∧ w'.cell? ⟨gf, 0, none⟩ = some (.int .i64 f1) ∧ w'.cell? ⟨gf, 1, none⟩ = some (.int .i64 f2) := by
  refine (seenFrom_any f1 f2 sd w).mono ?_
  rintro e w' ⟨rfl, h1, h2, h3, h4, h5⟩
  exact ⟨_, _, rfl, h1, h2, by omega, h3, h4, h5⟩
set_option maxHeartbeats 8000000 in
theorem implTangents_yes (A : Option Addr) (c : Nat) (l : List (Int × Int)) (p1 p2 : Int) (w : World) (hn : l.length ≤ 1048576) (hcap : l.length ≤ c) (hc2 : c ≤ 9223372036854775807) (hg : Dif l) (hp : isPegB p1 p2 = true) (h3 : 3 ≤ (band l).length) (hin : inHB (band l) (p1, p2) = false) (hR : Rd w w.heap.size A l) :
    Calls Try.prog 48 #[.slice A l.length c, .agg #[.int .i64 p1, .int .i64 p2]] w fun e w' => e = .returned (.tuple #[.agg #[.int .i64 (tanF (band l) (p1, p2) 1 ((band l).length - 1)).1, .int .i64 (tanF (band l) (p1, p2) 1 ((band l).length - 1)).2], .agg #[.int .i64 (tanF (band l) (p1, p2) (-1) ((band l).length - 1)).1, .int .i64 (tanF (band l) (p1, p2) (-1) ((band l).length - 1)).2], .bool true]) ∧ Below w.heap.size w w' := by
  have K0 := Lib.hid (fun W (hb : Below w.heap.size w W) => implBandOf_any A c l W hn hcap hc2 (rd_more (rd_below hR hb (Nat.le_refl _)) hb.size))
  rw [difB_true hg] at K0
  have K : Hid (∀ W, Below w.heap.size w W → Calls Try.prog 21 #[.slice A l.length c] W (RetL W (band l) true)) := Lib.hid K0.out
  clear K0
  have KP := Lib.hid (fun W => implIsPeg_any p1 p2 W)
  rw [hp] at KP
  have hpos := band_pos hg
  have hfew := band_few hg
  have KB := Lib.hid (fun X cap W (h : Rd W W.heap.size X (band l)) => placeIn_any X cap (band l) (p1, p2) W hpos hfew (band_pegs hg) hp h)
  have hpl := place_in hg (p1, p2)
  rw [hin] at hpl
  have hsep := sep_band hg h3 hin
  have hmem : ∀ x ∈ band l, isPg x = true := fun x hx => by
    obtain ⟨i, hi, e⟩ := List.mem_iff_getElem.1 hx
    have h1 := band_pegs hg i hi
    rw [vx_pt hi] at h1
    have h2 := pt_get hi
    rw [List.getElem?_eq_getElem hi] at h2
    injection h2 with h2
    rw [← e, h2]
    exact h1
  have KO := Lib.hid (fun sd (hs : sd = 1 ∨ sd = -1) X cX gs gf W c1 c2 c3 z1 z2 (h : Rd W W.heap.size X (band l)) => firstOf_any X cX (band l).length (band l) gs gf p1 p2 sd (tanF (band l) (p1, p2) sd ((band l).length - 1)).1 (tanF (band l) (p1, p2) sd ((band l).length - 1)).2 W rfl hpos hfew hmem hp hs c1 c2 c3 z1 z2 (tan_some hs hsep hpos) (fun i hi hno => tan_only hs hsep hpos hi hno) h)
  have KF := Lib.hid (fun sd W => seenFromE_any p1 p2 sd W)
  clear hg hp hR hin hsep hmem
  generalize placeI (band l) (p1, p2) = pl at *
  generalize tanF (band l) (p1, p2) = TF at *
  generalize band l = m at *
  have hpl2 : ¬ 0 ≤ pl := of_decide_eq_false hpl.symm
  clear hpl
  obtain ⟨⟨t1, t2⟩, ht⟩ : ∃ t : Int × Int, TF 1 (m.length - 1) = t := ⟨_, rfl⟩
  obtain ⟨⟨t3, t4⟩, ht'⟩ : ∃ t : Int × Int, TF (-1) (m.length - 1) = t := ⟨_, rfl⟩
  have KO1' := KO.out 1 (Or.inl rfl)
  have KO2' := KO.out (-1) (Or.inr rfl)
  rw [ht] at KO1'
  rw [ht'] at KO2'
  have HT1 := Lib.hid ht
  have HT2 := Lib.hid ht'
  clear ht ht' KO
  rw [show (fun e w' => e = Ending.returned (.tuple #[.agg #[.int .i64 (TF 1 (m.length - 1)).1, .int .i64 (TF 1 (m.length - 1)).2], .agg #[.int .i64 (TF (-1) (m.length - 1)).1, .int .i64 (TF (-1) (m.length - 1)).2], .bool true]) ∧ Below w.heap.size w w') = fun e w' => e = Ending.returned (.tuple #[.agg #[.int .i64 t1, .int .i64 t2], .agg #[.int .i64 t3, .int .i64 t4], .bool true]) ∧ Below w.heap.size w w' from by rw [HT1.out, HT2.out]]
  generalize hml : m.length = ml at *
  go_enter Try.func48, Try.ntmps48
  go_wp2_with fail
  obtain ⟨W1, hW1⟩ : ∃ W1, W1 = (((w.alloc (.cells #[.int .i64 p1, .int .i64 p2] 38)).alloc (.cells #[.int .i64 0, .int .i64 0] 38)).alloc (.cells #[.int .i64 0, .int .i64 0] 38)) := ⟨_, rfl⟩
  rw [← hW1]
  have yW10_0 : W1.cell? ⟨w.heap.size, 0, none⟩ = some (.int .i64 p1) := by rw [hW1]; go_simp
  have yW10_1 : W1.cell? ⟨w.heap.size, 1, none⟩ = some (.int .i64 p2) := by rw [hW1]; go_simp
  have fW10 : ∀ o, W1.frozen? ⟨w.heap.size, o, none⟩ = false := by intro o; rw [hW1]; (repeat rw [frozen?_alloc_cells]); simp [World.frozen?]
  have zW10 : w.heap.size < W1.heap.size := by rw [hW1]; simp <;> omega
  have yW11_0 : W1.cell? ⟨w.heap.size + 1, 0, none⟩ = some (.int .i64 0) := by rw [hW1]; go_simp
  have yW11_1 : W1.cell? ⟨w.heap.size + 1, 1, none⟩ = some (.int .i64 0) := by rw [hW1]; go_simp
  have fW11 : ∀ o, W1.frozen? ⟨w.heap.size + 1, o, none⟩ = false := by intro o; rw [hW1]; (repeat rw [frozen?_alloc_cells]); simp [World.frozen?]
  have zW11 : w.heap.size + 1 < W1.heap.size := by rw [hW1]; simp <;> omega
  have yW12_0 : W1.cell? ⟨w.heap.size + 2, 0, none⟩ = some (.int .i64 0) := by rw [hW1]; go_simp
  have yW12_1 : W1.cell? ⟨w.heap.size + 2, 1, none⟩ = some (.int .i64 0) := by rw [hW1]; go_simp
  have fW12 : ∀ o, W1.frozen? ⟨w.heap.size + 2, o, none⟩ = false := by intro o; rw [hW1]; (repeat rw [frozen?_alloc_cells]); simp [World.frozen?]
  have zW12 : w.heap.size + 2 < W1.heap.size := by rw [hW1]; simp <;> omega
  have BW1 : Below w.heap.size w W1 := by rw [hW1]; exact (Below.alloc (Below.alloc (Below.alloc (Below.refl _ _) (by simp <;> omega) _) (by simp <;> omega) _) (by simp <;> omega) _)
  have eW1 : Hid (W1.heap.size = w.heap.size + 3) := Lib.hid (by rw [hW1]; simp)
  clear hW1
  have S1 : TgS w W1 p1 p2 := ⟨BW1, zW12, yW10_0, yW10_1, yW11_0, yW11_1, yW12_0, yW12_1, fW11, fW12⟩
  clear yW10_0 yW10_1 fW10 zW10 yW11_0 yW11_1 fW11 zW11 yW12_0 yW12_1 fW12 zW12 eW1
  refine (K.out W1 BW1).mono ?_; rintro e w2 ⟨X, cX, rfl, q1, q2, hb2, q3⟩
  have S2 := S1.up hb2
  have HR2 := Lib.hid (rd_more (rw_rd q3) (Nat.le_refl _))
  unfold maxLen at q2
  clear q3
  have s2a := S2.c30
  have s2b := S2.c31
  have s2z : w.heap.size < w2.heap.size := by have := S2.size; omega
  go_wp2_with fail
  refine (KP.out _).mono ?_; rintro e w3 ⟨rfl, hb3⟩
  have S3 := S2.up hb3
  clear S1 BW1 hb2 K KP S2
  clear s2a s2b s2z
  have HR3 := Lib.hid (rd_more (rd_below HR2.out hb3 (Nat.le_refl _)) hb3.size)
  have s3a := S3.c30
  have s3b := S3.c31
  have s3z : w.heap.size < w3.heap.size := by have := S3.size; omega
  clear HR2 hb3
  go_wp2_with fail
  refine (KB.out _ _ _ HR3.out).mono ?_; rintro e w4 ⟨rfl, hb4⟩
  have S4 := S3.up hb4
  have HR4 := Lib.hid (rd_more (rd_below HR3.out hb4 (Nat.le_refl _)) hb4.size)
  clear s3a s3b s3z
  have KO1 := Lib.hid (KO1' X cX)
  have KO2 := Lib.hid (KO2' X cX)
  have s4a := S4.c30
  have s4b := S4.c31
  have s4z : w.heap.size < w4.heap.size := by have := S4.size; omega
  have HS4 := Lib.hid S4
  clear S3 hb4 KB HR3 S4 KO1' KO2'
  have hml3 : ¬ ((ml : Int) < 3) := by omega
  go_upto_region 4 with fail
  go_cut [6] from 34 to 41 (fun p wx => p = .bool true ∧ Below w.heap.size w wx ∧ w.heap.size + 2 < wx.heap.size ∧ wx.cell? ⟨w.heap.size + 1, 0, none⟩ = some (.int .i64 t1) ∧ wx.cell? ⟨w.heap.size + 1, 1, none⟩ = some (.int .i64 t2) ∧ wx.cell? ⟨w.heap.size + 2, 0, none⟩ = some (.int .i64 t3) ∧ wx.cell? ⟨w.heap.size + 2, 1, none⟩ = some (.int .i64 t4))
  case first =>
    go_region_with
      (first
       | (go_at_call 77; with_reducible refine (KO2.out _ _ _ aC1 aC2 aC3 aC4 aC5 HRC.out).mono ?_; rintro e wD ⟨rfl, hbD⟩;
          have SD := HSC.out.up hbD;
          have y40 := SD.c40;
          have y41 := SD.c41;
          have y50 := SD.c50;
          have y51 := SD.c51;
          have yf4 := SD.f4;
          have yf5 := SD.f5;
          have yz2 := SD.size;
          have yz1 : w.heap.size + 1 < wD.heap.size := Nat.lt_of_succ_lt yz2;
          have yB := SD.bel;
          clear SD hbD)
       | (go_at_call 78; have hpast := HSB; with_reducible refine (KF.out _ _).mono ?_; rintro e wC ⟨gsC, gfC, rfl, hbC, aC4, aC5, aC1, aC2, aC3⟩;
          have SC := HSB.out.up hbC;
          have HRC := Lib.hid (rd_more (rd_below HRB.out hbC (Nat.le_refl _)) (Below.size hbC));
          have sCa := SC.c30;
          have sCb := SC.c31;
          have sCz : w.heap.size < wC.heap.size := Nat.lt_of_succ_lt (Nat.lt_of_succ_lt SC.size);
          have HSC := Lib.hid SC;
          
          clear SC hbC hpast)
       | (go_at_call 77; with_reducible refine (KO1.out _ _ _ aA1 aA2 aA3 aA4 aA5 HRA.out).mono ?_; rintro e wB ⟨rfl, hbB⟩;
          have SB := HSA.out.up hbB;
          have HRB := Lib.hid (rd_more (rd_below HRA.out hbB (Nat.le_refl _)) (Below.size hbB));
          have sBa := SB.c30;
          have sBb := SB.c31;
          have sBz : w.heap.size < wB.heap.size := Nat.lt_of_succ_lt (Nat.lt_of_succ_lt SB.size);
          have HSB := Lib.hid SB;
          
          have x40 := SB.c40;
          have x41 := SB.c41;
          have xf4 := SB.f4;
          have xz1 : w.heap.size + 1 < wB.heap.size := Nat.lt_of_succ_lt SB.size;
          clear SB hbB)
       | (go_at_call 78; with_reducible refine (KF.out _ _).mono ?_; rintro e wA ⟨gsA, gfA, rfl, hbA, aA4, aA5, aA1, aA2, aA3⟩;
          have hbA' : Below w4.heap.size w4 wA := (Below.refl w4.heap.size w4).drew.trans (hbA.mono (Nat.le_refl _));
          have SA := HS4.out.up hbA';
          have HRA := Lib.hid (rd_more (rd_below HR4.out hbA' (Nat.le_refl _)) (Below.size hbA'));
          have sAa := SA.c30;
          have sAb := SA.c31;
          have sAz : w.heap.size < wA.heap.size := Nat.lt_of_succ_lt (Nat.lt_of_succ_lt SA.size);
          have HSA := Lib.hid SA;
          
          clear SA hbA hbA'))
    all_goals
      go_wp2_with fail
      go_meet
      case rel => exact ⟨rfl, by repeat (first | with_reducible assumption | with_reducible exact Below.refl _ _ | with_reducible apply Below.drew | ((with_reducible refine Below.setCell ?_ ?_ _); rotate_left; (first | exact Nat.le_refl _ | omega | (simp <;> omega))) | ((with_reducible refine Below.alloc ?_ ?_ _); rotate_left; (first | omega | (simp <;> omega)))), by simp [World.setCell]; omega, by go_simp, by go_simp, by go_simp, by go_simp⟩
  case rest =>
    obtain ⟨rfl, BB, r2, c40, c41, c50, c51⟩ := hcut
    have r1 : w.heap.size + 1 < wc.heap.size := by omega
    go_wp2_with fail
    refine bodyPost_ret (v := .tuple #[.agg #[.int .i64 t1, .int .i64 t2], .agg #[.int .i64 t3, .int .i64 t4], .bool true]) (by simp [results, Try.results48, go_sem, r1, r2, c40, c41, c50, c51]) rfl ⟨rfl, BB⟩
noncomputable def tzS (l : List (Int × Int)) (p1 p2 : Int) (i : Nat) : Int := if i = 0 then (tzV l (p1, p2) 1).1 else if i = 1 then (tzV l (p1, p2) 1).2 else if i = 2 then (tzV l (p1, p2) (-1)).1 else (tzV l (p1, p2) (-1)).2
noncomputable def tzO (l : List (Int × Int)) (p1 p2 : Int) : Bool := tzB l (p1, p2)
theorem specTangentsFrom_any (A : Option Addr) (c : Nat) (l : List (Int × Int)) (p1 p2 : Int) (w : World) (hn : l.length ≤ 1048576) (hcap : l.length ≤ c) (hc2 : c ≤ 9223372036854775807) (hR : Rd w w.heap.size A l) :
    Calls Try.prog 47 #[.slice A l.length c, .agg #[.int .i64 p1, .int .i64 p2]] w fun e w' => e = .returned (.tuple #[.agg #[.int .i64 (tzS l p1 p2 0), .int .i64 (tzS l p1 p2 1)], .agg #[.int .i64 (tzS l p1 p2 2), .int .i64 (tzS l p1 p2 3)], .bool (tzO l p1 p2)]) ∧ Below w.heap.size w w' := by
  by_cases hd : Dif l
  · by_cases hp : isPegB p1 p2 = true
    · by_cases h3 : 3 ≤ (band l).length
      · by_cases hin : inHB (band l) (p1, p2) = true
        · have hB : tzB l (p1, p2) = false := by unfold tzB; rw [hin]; simp
          have := specTangents_no4 A c l p1 p2 w hn hcap hc2 hd hp h3 hin hR
          unfold tzS tzO tzV
          rw [hB]
          exact this
        · have hin' : inHB (band l) (p1, p2) = false := by simpa using hin
          have hB : tzB l (p1, p2) = true := by unfold tzB; rw [hin', difB_true hd, show isPg (p1, p2) = true from hp]; simpa using h3
          have := specTangents_yes A c l p1 p2 w hn hcap hc2 hd hp h3 hin' hR
          unfold tzS tzO tzV
          rw [hB]
          exact this
      · have hB : tzB l (p1, p2) = false := by unfold tzB; rw [decide_eq_false h3]; simp
        have := specTangents_no3 A c l p1 p2 w hn hcap hc2 hd hp (by omega) hR
        unfold tzS tzO tzV
        rw [hB]
        exact this
    · have hp' : isPegB p1 p2 = false := by simpa using hp
      have hB : tzB l (p1, p2) = false := by unfold tzB; rw [show isPg (p1, p2) = false from hp']; simp
      have := specTangents_no2 A c l p1 p2 w hn hcap hc2 hd hp' hR
      unfold tzS tzO tzV
      rw [hB]
      exact this
  · have hB : tzB l (p1, p2) = false := by unfold tzB; rw [difB_false hd]; rfl
    have := specTangents_no1 A c l p1 p2 w hn hcap hc2 hd hR
    unfold tzS tzO tzV
    rw [hB]
    exact this
theorem implTangentsFrom_any (A : Option Addr) (c : Nat) (l : List (Int × Int)) (p1 p2 : Int) (w : World) (hn : l.length ≤ 1048576) (hcap : l.length ≤ c) (hc2 : c ≤ 9223372036854775807) (hR : Rd w w.heap.size A l) :
    Calls Try.prog 48 #[.slice A l.length c, .agg #[.int .i64 p1, .int .i64 p2]] w fun e w' => e = .returned (.tuple #[.agg #[.int .i64 (tzS l p1 p2 0), .int .i64 (tzS l p1 p2 1)], .agg #[.int .i64 (tzS l p1 p2 2), .int .i64 (tzS l p1 p2 3)], .bool (tzO l p1 p2)]) ∧ Below w.heap.size w w' := by
  by_cases hd : Dif l
  · by_cases hp : isPegB p1 p2 = true
    · by_cases h3 : 3 ≤ (band l).length
      · by_cases hin : inHB (band l) (p1, p2) = true
        · have hB : tzB l (p1, p2) = false := by unfold tzB; rw [hin]; simp
          have := implTangents_no4 A c l p1 p2 w hn hcap hc2 hd hp h3 hin hR
          unfold tzS tzO tzV
          rw [hB]
          exact this
        · have hin' : inHB (band l) (p1, p2) = false := by simpa using hin
          have hB : tzB l (p1, p2) = true := by unfold tzB; rw [hin', difB_true hd, show isPg (p1, p2) = true from hp]; simpa using h3
          have := implTangents_yes A c l p1 p2 w hn hcap hc2 hd hp h3 hin' hR
          unfold tzS tzO tzV
          rw [hB]
          exact this
      · have hB : tzB l (p1, p2) = false := by unfold tzB; rw [decide_eq_false h3]; simp
        have := implTangents_no3 A c l p1 p2 w hn hcap hc2 hd hp (by omega) hR
        unfold tzS tzO tzV
        rw [hB]
        exact this
    · have hp' : isPegB p1 p2 = false := by simpa using hp
      have hB : tzB l (p1, p2) = false := by unfold tzB; rw [show isPg (p1, p2) = false from hp']; simp
      have := implTangents_no2 A c l p1 p2 w hn hcap hc2 hd hp' hR
      unfold tzS tzO tzV
      rw [hB]
      exact this
  · have hB : tzB l (p1, p2) = false := by unfold tzB; rw [difB_false hd]; rfl
    have := implTangents_no1 A c l p1 p2 w hn hcap hc2 hd hR
    unfold tzS tzO tzV
    rw [hB]
    exact this
end Go.Proofs.Ytnhfellgihmdaaa
/- what each law needs: lists marked, held against each other and against marks; arguments opened -/
namespace Go.Proofs.Ytnhfellgihmdaaa
open Go.ChangeShapes Go.WideShapes Go.ChangeAt Go.RowKit Go.Joins
set_option linter.unusedVariables false
set_option linter.unusedSimpArgs false
set_option maxRecDepth 4000
/-- what marks write: number after number -/
def mk (k : Int) (i : Nat) : Int × Int := (k + 2 * (i : Int), k + 2 * (i : Int) + 1)
def mix (k : Int) (i : Nat) (f : Nat → Int × Int) (j : Nat) : Int × Int := if j < i then mk k j else f j
theorem mix_step (k : Int) (i : Nat) (f : Nat → Int × Int) : (fun j => if j = i then mk k i else mix k i f j) = mix k (i + 1) f := by
  funext j
  unfold mix
  by_cases h : j = i
  · subst h; rw [if_pos rfl, if_pos (by omega)]
  · rw [if_neg h]
    by_cases h2 : j < i
    · rw [if_pos h2, if_pos (by omega)]
    · rw [if_neg h2, if_neg (by omega)]
/-- behind a mark -/
structure Marked (w w' : World) (lo B : Nat) (A : Option Addr) (n : Nat) (k : Int) (i : Nat) (f : Nat → Int × Int) : Prop where
  only : Only lo B w w'
  row : Rw w' lo B A n (mix k i f)
theorem marked_step {w w' : World} {lo B b off n i : Nat} {k : Int} {f : Nat → Int × Int} (h : Marked w w' lo B (some ⟨b, off, none⟩) n k i f) (hi : i < n) (hb : lo ≤ b) (hB : b < B) :
    Marked w ((w'.setCell ⟨b, off + i * 2, none⟩ (.int .i64 (k + 2 * (i : Int)))).setCell ⟨b, off + i * 2 + 1, none⟩ (.int .i64 (k + 2 * (i : Int) + 1))) lo B (some ⟨b, off, none⟩) n k (i + 1) f :=
  ⟨(h.only.set hb hB _).set hb hB _, by
    have := rw_store h.row hi (k + 2 * (i : Int)) (k + 2 * (i : Int) + 1)
    rw [show (fun j => if j = i then (k + 2 * (i : Int), k + 2 * (i : Int) + 1) else mix k i f j) = mix k (i + 1) f from mix_step k i f] at this
    exact this⟩
set_option maxHeartbeats 1000000 in
theorem markPegS_any (A : Option Addr) (c n : Nat) (k : Int) (lo B : Nat) (f : Nat → Int × Int) (w : World) (hn : n ≤ 1048576) (hk1 : 1 ≤ k) (hk2 : k ≤ 1000000000) (hR : Rw w lo B A n f) :
    Calls Try.prog 22 #[.slice A n c, .int .i64 k] w fun e w' => e = .returned (.int .i64 (k + 2 * (n : Int))) ∧ Only lo B w w' ∧ Rw w' lo B A n (mk k) := by
  have HM := Lib.hid (show Marked w w lo B A n k 0 f from ⟨Only.refl _ _ _, rw_same hR fun i hi => by unfold mix; rw [if_neg (by omega)]⟩)
  clear hR
  go_enter Try.func22, Try.ntmps22
  go_wp2_with fail
  go_loopg [1, 5] n (fun g u i wr => ∃ j : Nat, j ≤ n ∧ g = n - j ∧ i = .int .i64 j ∧ u = .int .i64 (k + 2 * (j : Int)) ∧ Hid (Marked w wr lo B A n k j f))
  case atStart => exact ⟨0, Nat.zero_le _, rfl, rfl, by simp, HM⟩
  case round =>
    obtain ⟨j, hj, hg, rfl, rfl, hM⟩ := hrel
    rename World => wo
    have HGK := Lib.hid hg
    clear hg HM
    by_cases hlt : j < n
    · obtain ⟨b, off, hA, hb1, hb2, hc⟩ := hM.out.row (by omega)
      subst hA
      obtain ⟨⟨c1, c2⟩, z1, z2⟩ := hc j hlt
      have M2 := Lib.hid (marked_step hM.out hlt hb1 hb2)
      clear hc hM
      have e1 : IntKind.i64.wrap (k + 2 * (j : Int) + 1) = k + 2 * (j : Int) + 1 := IntWalk.i64_in _ (by omega)
      go_wp2_with fail
      go_roundg (n - (j + 1))
      case measure => have := HGK.out; omega
      case rel => exact ⟨j + 1, by omega, rfl, by go_num, by go_num, M2⟩
    · have hjn : n = j := by omega
      subst hjn
      go_wp2_with fail
      go_ret
      exact ⟨rfl, hM.out.only, rw_same hM.out.row fun i hi => by unfold mix; rw [if_pos hi]⟩
set_option maxHeartbeats 1000000 in
theorem heldPegS_any (A : Option Addr) (c n : Nat) (k : Int) (lo B : Nat) (w : World) (hn : n ≤ 1048576) (hk1 : 1 ≤ k) (hk2 : k ≤ 1000000000) (hR : Rw w lo B A n (mk k)) :
    Calls Try.prog 23 #[.slice A n c, .int .i64 k] w fun e w' => e = .returned (.int .i64 (k + 2 * (n : Int))) ∧ w = w' := by
  have HR := Lib.hid hR
  clear hR
  go_enter Try.func23, Try.ntmps23
  go_wp2_with fail
  go_loopg [1, 5] n (fun g u i wr => ∃ j : Nat, j ≤ n ∧ g = n - j ∧ i = .int .i64 j ∧ u = .int .i64 (k + 2 * (j : Int)) ∧ w = wr)
  case atStart => exact ⟨0, Nat.zero_le _, rfl, rfl, by simp, rfl⟩
  case round =>
    obtain ⟨j, hj, hg, rfl, rfl, rfl⟩ := hrel
    have HGK := Lib.hid hg
    clear hg
    by_cases hlt : j < n
    · obtain ⟨b, off, hA, hb1, hb2, hc⟩ := HR.out (by omega)
      subst hA
      obtain ⟨⟨c1, c2⟩, z1, z2⟩ := hc j hlt
      have c1' : w.cell? ⟨b, off + j * 2, none⟩ = some (.int .i64 (k + 2 * (j : Int))) := c1
      have c2' : w.cell? ⟨b, off + j * 2 + 1, none⟩ = some (.int .i64 (k + 2 * (j : Int) + 1)) := c2
      clear hc c1 c2
      go_wp2_with fail
      go_roundg (n - (j + 1))
      case measure => have := HGK.out; omega
      case rel => exact ⟨j + 1, by omega, rfl, by go_num, by go_num, rfl⟩
    · have hjn : n = j := by omega
      subst hjn
      go_wp2_with fail
      go_ret
      exact ⟨rfl, rfl⟩
theorem law_eqX (l : List (Int × Int)) (hl : l.length ≤ 1048576) (W : World) (g g' c c' : Nat) (h : Set W g l.length l.length l) (h' : Set W g' l.length l.length l) :
    Calls Try.prog 19 #[.slice (some ⟨g, 0, none⟩) l.length c, .slice (some ⟨g', 0, none⟩) l.length c'] W fun e w' => e = .returned (.bool true) ∧ Below W.heap.size W w' :=
  (eqPegS_any _ _ c c' l l W hl hl (rd_of_set h) (rd_of_set h')).mono fun e w' hh => ⟨hh.1.trans (ret_bool (by simp)), hh.2⟩
theorem law_mark (l : List (Int × Int)) (hl : l.length ≤ 1048576) (W : World) (g c : Nat) (h : Set W g l.length l.length l) :
    Calls Try.prog 22 #[.slice (some ⟨g, 0, none⟩) l.length c, .int .i64 1] W fun e w' => e = .returned (.int .i64 (1 + 2 * (l.length : Int))) ∧ Only g (g + 1) W w' :=
  (markPegS_any _ c l.length 1 g (g + 1) (pt l) W hl (by omega) (by omega) (rw_of_set h)).mono fun e w' hh => ⟨hh.1, hh.2.1⟩
theorem only_grow {w W W' : World} {lo B : Nat} (h : Below w.heap.size w W) (ho : Only lo B W W') (hl : w.heap.size ≤ lo) : Below w.heap.size w W' := h.trans (ho.below.mono hl)
theorem below_grow {w W W' : World} (h : Below w.heap.size w W) (hb : Below W.heap.size W W') : Below w.heap.size w W' := h.trans (hb.mono h.size)
/-- a call that gives p points F and says whether there are such -/
def RetN (w : World) (p : Nat) (F : Nat → Int × Int) (b : Bool) (e : Ending) (w' : World) : Prop :=
  ∃ A c, e = .returned (.tuple #[.slice A p c, .bool b]) ∧ Below w.heap.size w w' ∧ Rw w' w.heap.size w'.heap.size A p F
theorem retN_of_L {w w' : World} {m : List (Int × Int)} {b : Bool} {e : Ending} (h : RetL w m b e w') : RetN w m.length (pt m) b e w' := by
  obtain ⟨A, c, h1, _, _, h4, h5⟩ := h
  exact ⟨A, c, h1, h4, h5⟩
theorem law_eq (m : List (Int × Int)) (hm : m.length ≤ 1048576) (W : World) (lo B lo' B' c c' : Nat) (A A' : Option Addr) (h : Rw W lo B A m.length (pt m)) (hB : B ≤ W.heap.size) (h' : Rw W lo' B' A' m.length (pt m)) (hB' : B' ≤ W.heap.size) :
    Calls Try.prog 19 #[.slice A m.length c, .slice A' m.length c'] W fun e w' => e = .returned (.bool true) ∧ Below W.heap.size W w' :=
  (eqPegS_any A A' c c' m m W hm hm (rd_more (rw_rd h) hB) (rd_more (rw_rd h') hB')).mono fun e w' hh => ⟨hh.1.trans (ret_bool (by simp)), hh.2⟩
open Go.Deep
theorem lt_of_cell {w : World} {a : Addr} {u : Value} (h : w.cell? a = some u) : a.block < w.heap.size := by
  rcases Nat.lt_or_ge a.block w.heap.size with h1 | h1
  · exact h1
  · unfold World.cell? at h
    rw [Array.getElem?_eq_none h1] at h
    simp at h
section
variable {H : Type} {enc : TypeId × Value → H}
/-- a point of the laws' package, read from two cells -/
theorem read_peg {w : World} {base : Nat} {spare : Nat → Bool} {held : Bool} {fuel : Nat} {c0 c1 : Value} {x : DataW H × List MemPlace}
    (h : DataW.trod enc Try.prog w base spare held fuel 35 [c0, c1] = some x) : ∃ a b : Int, c0 = .int .i64 a ∧ c1 = .int .i64 b := by
  obtain ⟨xs, n, _, _, _, hlen, hg⟩ := DataW.trod_struct Try.underlying35 h
  have g0 : DataW.trod enc Try.prog w base spare held n 3 ((List.drop 0 [c0, c1]).take (Try.prog.cellsOf 3)) = xs[0]? := hg 0 _ rfl
  have g1 : DataW.trod enc Try.prog w base spare held n 3 ((List.drop 1 [c0, c1]).take (Try.prog.cellsOf 3)) = xs[1]? := hg 1 _ rfl
  have k3 : Try.prog.cellsOf 3 = 1 := by kernel_rfl
  rw [k3] at g0 g1
  match xs, hlen with
  | [y0, y1], _ =>
    simp only [List.drop_zero, List.drop_succ_cons, List.take_succ_cons, List.take_zero, List.getElem?_cons_zero, List.getElem?_cons_succ] at g0 g1
    obtain ⟨a, e0, _, _⟩ := DataW.trod_int Try.underlying3 g0
    obtain ⟨b, e1, _, _⟩ := DataW.trod_int Try.underlying3 g1
    simp only [List.cons.injEq, and_true] at e0 e1
    exact ⟨a, b, e0, e1⟩
/-- an argument that is a list of points -/
theorem open_pegs {w : World} {r : Reach} {b0 base : Nat} {spare : Nat → Bool} {v : Value} {d : DataW H} {p : List MemPlace} (hv : Value.okWide Try.prog w r b0 22 v)
    (h : DataW.Trod enc Try.prog w base spare true 22 v d p) : ∃ (A : Option Addr) (c : Nat) (l : List (Int × Int)), v = .slice A l.length c ∧ l.length ≤ c ∧ c ≤ maxLen ∧ Rd w w.heap.size A l := by
  obtain ⟨a0, len, cap, rfl⟩ := okWide_slice Try.underlying22 hv
  obtain ⟨fuel, hf⟩ := h
  rcases open_slice Try.underlying22 hf with ⟨hcs, _⟩ | ⟨a, len', cap', m, n, D, Pl, hcs, _, hl, hm, hmm, _, hi⟩
  · simp [Value.cells] at hcs
    obtain ⟨rfl, rfl, rfl⟩ := hcs
    exact ⟨none, 0, [], rfl, by simp, by simp, fun h => absurd h (by simp)⟩
  · simp [Value.cells] at hcs
    obtain ⟨rfl, rfl, rfl⟩ := hcs
    have hml : len ≤ m := by rw [hmm]; split <;> omega
    have hC : Try.prog.cellsOf 35 = 2 := cells35
    have key : ∀ i, ∃ q : Int × Int, i < len → w.cell? (a.add (i * 2)) = some (.int .i64 q.1) ∧ w.cell? ((a.add (i * 2)).add 1) = some (.int .i64 q.2) := fun i => by
      by_cases hlt : i < len
      · obtain ⟨cs', hc, ht⟩ := hi i (by omega)
        rw [hC] at hc
        obtain ⟨_, hcl, hat⟩ := World.cells?_some hc
        match cs', hcl with
        | [c0, c1], _ =>
          obtain ⟨x, y, rfl, rfl⟩ := read_peg ht
          have h0 := hat 0 (by omega)
          have h1 := hat 1 (by omega)
          refine ⟨(x, y), fun _ => ⟨?_, h1⟩⟩
          have : (a.add (i * 2)).add 0 = a.add (i * 2) := by unfold Addr.add; simp
          rw [this] at h0
          exact h0
      · exact ⟨(0, 0), fun h => absurd h hlt⟩
    refine ⟨some a, cap, (List.range len).map fun i => Classical.choose (key i), by simp, by simpa using hl, hm, fun hpos => ?_⟩
    have hpos' : 0 < len := by simpa using hpos
    have k0 := (Classical.choose_spec (key 0) hpos').1
    obtain ⟨b, off, spot⟩ := a
    have hspot : spot = none := by simpa [Addr.add] using World.cell?_spot k0
    subst hspot
    refine ⟨b, off, rfl, ?_, fun i q hq => ?_⟩
    · have := lt_of_cell k0
      rw [add_plain] at this
      exact this
    · have hlt : i < len := by
        have := (List.getElem?_eq_some_iff.1 hq).1
        simpa using this
      have e : q = Classical.choose (key i) := by
        rw [List.getElem?_map, List.getElem?_range hlt] at hq
        simpa using hq.symm
      have hs := Classical.choose_spec (key i) hlt
      rw [← e] at hs
      rw [add_plain, add_plain] at hs
      exact hs
end
end Go.Proofs.Ytnhfellgihmdaaa
