/- contracts: the points that numbers make, the model -/
import Derived.Test.YtchdpcndhgjkpaaRi5
import Derived.Deep.QuietTactic
import Derived.BigQuiet
namespace Go.Proofs.Ytchdpcndhgjkpaa
open Go.ChangeShapes Go.WideShapes Go.ChangeAt Go.RowKit Go.Joins
set_option linter.unusedVariables false
set_option linter.unusedSimpArgs false
set_option maxRecDepth 4000
theorem two_boxes (wi : World) (x1 x2 y1 y2 : Int) : ∃ W, W = ((wi.alloc (.cells #[.int .i64 x1, .int .i64 x2] 49)).alloc (.cells #[.int .i64 y1, .int .i64 y2] 49)).drew ∧ Below wi.heap.size wi W ∧ wi.heap.size + 1 < W.heap.size ∧ W.cell? ⟨wi.heap.size, 0, none⟩ = some (.int .i64 x1) ∧ W.cell? ⟨wi.heap.size, 1, none⟩ = some (.int .i64 x2) ∧ W.cell? ⟨wi.heap.size + 1, 0, none⟩ = some (.int .i64 y1) ∧ W.cell? ⟨wi.heap.size + 1, 1, none⟩ = some (.int .i64 y2) := by
  refine ⟨_, rfl, Below.drew (Below.alloc (Below.alloc (Below.refl _ _) (Nat.le_refl _) _) (by simp) _), ?_, ?_, ?_, ?_, ?_⟩
  · show _ < (World.alloc _ _).heap.size
    simp
  all_goals go_simp
set_option maxHeartbeats 4000000 in
theorem duMake_any (A : Option Addr) (cc c : Nat) (F : Nat → Int) (w : World) (h3 : 3 ≤ c) (hc : c ≤ 9) (h6 : Six F c) (hR : RdI w w.heap.size A c F) :
    Calls Try.prog 67 #[.slice A c cc] w fun e w' => ∃ v, e = .returned v ∧ Below w.heap.size w w' ∧ Row w' w.heap.size v (dmk F c) (c + 2) := by
  have HR := Lib.hid (fun W (hb : Below w.heap.size w W) => rdi_below hR hb (Nat.le_refl _))
  have HR2 := Lib.hid (row_two w w.heap.size F c (Nat.le_refl _))
  have HD := Lib.hid (fun i hi => dmk_bd h6 (by omega) i hi)
  have H6 := Lib.hid h6
  have HS := Lib.hid (dmk_succ F c)
  obtain ⟨i0, hi0, hz0, hz1, hz2⟩ := info_parts peg_info
  have HI := Lib.hid (And.intro hi0 (And.intro hz0 (And.intro hz1 hz2)))
  have hB2 := Lib.hid (Below.alloc (Below.refl w.heap.size w) (Nat.le_refl _) (.cells #[.int .i64 1, .int .i64 0, .int .i64 0, .int .i64 1] 49))
  clear hi0 hz0 hz1 hz2 h6 hR
  go_enter Try.func67, Try.ntmps67
  go_wp2_with fail
  go_loopg [3, 13] c (fun gg s x wr => ∃ (j : Nat) (v : Value), v = s ∧ j ≤ c ∧ gg = c - j ∧ x = .int .i64 (j : Int) ∧ Below w.heap.size w wr ∧ Hid (Row wr w.heap.size v (dmk F c) (j + 2)))
  case atStart => exact ⟨0, _, rfl, Nat.zero_le _, rfl, rfl, hB2.out, HR2⟩
  case round =>
    clear hB2 HR2
    obtain ⟨j, v, rfl, hj, hgg, rfl, hB, hr⟩ := hrel
    rename World => wi
    have HGK := Lib.hid hgg
    clear hgg
    by_cases hlt : j < c
    · obtain ⟨gv, cap, rfl, hgv, hcell⟩ := row_cells hr.out (by omega)
      obtain ⟨ba, off, rfl, hb, hcl⟩ := HR.out wi hB (by omega)
      have m1 : (j + 1) % c < c := Nat.mod_lt _ (by omega)
      have x0 := hcl ((j + 1) % c) m1
      obtain ⟨y0, y1⟩ := hcell j (by omega)
      obtain ⟨y2, y3⟩ := hcell (j + 1) (by omega)
      have b0 := HD.out j (by omega)
      have b1 := HD.out (j + 1) (by omega)
      have b6 := H6.out ((j + 1) % c) m1
      have hS := HS.out j
      obtain ⟨p1, p2, hp⟩ : ∃ p1 p2, dmk F c j = (p1, p2) := ⟨_, _, rfl⟩
      obtain ⟨q1, q2, hq⟩ : ∃ q1 q2, dmk F c (j + 1) = (q1, q2) := ⟨_, _, rfl⟩
      rw [hp] at y0 y1 b0 hS
      rw [hq] at y2 y3 b1 hS
      simp only [] at y0 y1 y2 y3 b0 b1 hS
      generalize F ((j + 1) % c) = k at x0 b6 hS
      have k1 := six_mul b6 b1.1 (by omega)
      have k2 := six_mul b6 b1.2 (by omega)
      have hS' : dmk F c (j + 2) = (k * q1 - p1, k * q2 - p2) := by rw [hS, Int.mul_comm k q1, Int.mul_comm k q2]
      have HSK := Lib.hid hS'
      obtain ⟨t1, ht1⟩ : ∃ t, k * q1 = t := ⟨_, rfl⟩
      obtain ⟨t2, ht2⟩ : ∃ t, k * q2 = t := ⟨_, rfl⟩
      rw [ht1] at k1 HSK
      rw [ht2] at k2 HSK
      have w1 : IntKind.i64.wrap (k * q1) = t1 := by rw [ht1]; exact IntWalk.i64_in _ (by omega)
      have w2 : IntKind.i64.wrap (k * q2) = t2 := by rw [ht2]; exact IntWalk.i64_in _ (by omega)
      have w3 : IntKind.i64.wrap (t1 - p1) = t1 - p1 := IntWalk.i64_in _ (by omega)
      have w4 : IntKind.i64.wrap (t2 - p2) = t2 - p2 := IntWalk.i64_in _ (by omega)
      have i2 : ¬ c = 0 := by omega
      have i3 : (0 : Int) ≤ ((j : Int) + 1) % (c : Int) := Int.emod_nonneg _ (by omega)
      have i4 : ((j : Int) + 1) % (c : Int) < (c : Int) := Int.emod_lt_of_pos _ (by omega)
      have i5 : ((j : Int) + 1).tmod (c : Int) = ((j : Int) + 1) % (c : Int) := Int.tmod_eq_emod_of_nonneg (by omega)
      have i6 : (((j : Int) + 1) % (c : Int)).toNat = (j + 1) % c := by rw [show ((j : Int) + 1) % (c : Int) = (((j + 1) % c : Nat) : Int) by simp]; exact Int.toNat_natCast _
      have i7 : ((j : Int) + 2 - 1) = (j : Int) + 1 := by omega
      have i7' : ((j : Int) + 2 - 2) = (j : Int) := by omega
      have i8 : ((j : Int) + 1).toNat = j + 1 := by omega
      have i9 : IntKind.i64.wrap (j : Int) = (j : Int) := IntWalk.i64_in _ (by omega)
      have i10 : IntKind.i64.wrap ((j : Int) + 1) = (j : Int) + 1 := IntWalk.i64_in _ (by omega)
      have j1 : (j : Int) < (j : Int) + 2 := by omega
      have j2 : (j : Int) + 1 < (j : Int) + 2 := by omega
      have j3 : (0 : Int) ≤ (j : Int) + 1 := by omega
      clear hcell hcl hp hq hS hS' ht1 ht2 k1 k2 b0 b1 b6
      go_wp2_with fail
      go_region
      · obtain ⟨Wb, hW, BB, zW, c0, c1, c2, c3⟩ := two_boxes wi p1 p2 q1 q2
        rw [← hW]
        clear hW y0 y1 y2 y3 x0
        have B0 := hB.trans (BB.mono hB.size)
        have R0 := row_below hr.out BB (Nat.le_refl _)
        have RA := Lib.hid (row_alloc R0 (.cells #[.int .i64 (t1 - p1), .int .i64 (t2 - p2)] 49))
        have BA := Lib.hid (Below.alloc B0 B0.size (.cells #[.int .i64 (t1 - p1), .int .i64 (t2 - p2)] 49))
        have hz1 := B0.size
        clear R0 B0 BB hr hB hgv hb
        generalize wi.heap.size = g at *
        go_wp2_with (at_builtin; go_loud (refine wpList_append_own_at _ rfl (.tmp 36) (.tmp 52) 26 rfl w.heap.size 49 i0 (.agg #[.int .i64 0, .int .i64 0]) 2 16 Try.underlying26 HI.out.1 HI.out.2.1 HI.out.2.2.1 HI.out.2.2.2 rfl (by decide) _ (j + 2) (flat (firsts (dmk F c) (j + 2))) rfl RA.out ⟨Wb.heap.size, 0, none⟩ 1 1 [.int .i64 (t1 - p1), .int .i64 (t2 - p2)] rfl rfl (two_cells (by go_simp) (by go_simp)) (two_one _ _) (by unfold maxLen; omega) (by omega) (by simp; omega) ?_))
        intro v' w9 hown hgr _ hat
        have RB := row_push (f := dmk F c) (k := j + 2) BA.out RA.out (by rw [HSK.out]; exact hown) hgr
        have R9 := Lib.hid RB.1
        have B9 := RB.2
        clear RB hown hgr hat BA RA HSK c0 c1 c2 c3
        go_wp2_with fail
        go_roundg (c - (j + 1))
        case measure => have := HGK.out; omega
        case rel => exact ⟨j + 1, _, rfl, by omega, rfl, by go_num, B9, R9⟩
      · obtain ⟨Wb, hW, BB, zW, c0, c1, c2, c3⟩ := two_boxes wi q1 q2 p1 p2
        rw [← hW]
        clear hW y0 y1 y2 y3 x0
        have B0 := hB.trans (BB.mono hB.size)
        have R0 := row_below hr.out BB (Nat.le_refl _)
        have RA := Lib.hid (row_alloc R0 (.cells #[.int .i64 (t1 - p1), .int .i64 (t2 - p2)] 49))
        have BA := Lib.hid (Below.alloc B0 B0.size (.cells #[.int .i64 (t1 - p1), .int .i64 (t2 - p2)] 49))
        have hz1 := B0.size
        clear R0 B0 BB hr hB hgv hb
        generalize wi.heap.size = g at *
        go_wp2_with (at_builtin; go_loud (refine wpList_append_own_at _ rfl (.tmp 36) (.tmp 52) 26 rfl w.heap.size 49 i0 (.agg #[.int .i64 0, .int .i64 0]) 2 16 Try.underlying26 HI.out.1 HI.out.2.1 HI.out.2.2.1 HI.out.2.2.2 rfl (by decide) _ (j + 2) (flat (firsts (dmk F c) (j + 2))) rfl RA.out ⟨Wb.heap.size, 0, none⟩ 1 1 [.int .i64 (t1 - p1), .int .i64 (t2 - p2)] rfl rfl (two_cells (by go_simp) (by go_simp)) (two_one _ _) (by unfold maxLen; omega) (by omega) (by simp; omega) ?_))
        intro v' w9 hown hgr _ hat
        have RB := row_push (f := dmk F c) (k := j + 2) BA.out RA.out (by rw [HSK.out]; exact hown) hgr
        have R9 := Lib.hid RB.1
        have B9 := RB.2
        clear RB hown hgr hat BA RA HSK c0 c1 c2 c3
        go_wp2_with fail
        go_roundg (c - (j + 1))
        case measure => have := HGK.out; omega
        case rel => exact ⟨j + 1, _, rfl, by omega, rfl, by go_num, B9, R9⟩
    · obtain rfl : j = c := by omega
      have R9 := Lib.hid hr.out
      clear hr HR
      go_wp2_with fail
      go_ret
      exact ⟨v, rfl, hB, R9.out⟩
end Go.Proofs.Ytchdpcndhgjkpaa
