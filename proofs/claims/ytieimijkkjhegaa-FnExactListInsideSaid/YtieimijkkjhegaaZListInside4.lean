/- joined: Zq Gm Qg Zs Km Lx Kh Lw Z -/
import Derived.Test.YtieimijkkjhegaaZListInside3
import Derived.LoopTactic
import Derived.Deep.Slices
import Derived.Deep.Fields
/- contract: the points inside, the model -/
namespace Go.Proofs.Ytieimijkkjhegaa
open Go.ChangeShapes Go.WideShapes Go.ChangeAt Go.RowKit Go.Joins
set_option linter.unusedVariables false
set_option linter.unusedSimpArgs false
set_option maxRecDepth 4000
set_option maxHeartbeats 1000000 in
theorem pgList_any (A : Option Addr) (c : Nat) (l : List (Int × Int)) (w : World) (hg : Good l) (hR : Rd w w.heap.size A l) :
    Calls Try.prog 74 #[.slice A l.length c] w (RetP w (insL l)) := by
  obtain ⟨i0, hi0, hz0, hz1, hz2⟩ := info_parts peg_info
  have HI := Lib.hid (And.intro hi0 (And.intro hz0 (And.intro hz1 hz2)))
  clear hi0 hz0 hz1 hz2
  have KW := Lib.hid (fun x y W (hp : Sz x y) (hb : Below w.heap.size w W) => pgWhere_any A c l x y W hg hp (rd_more (rd_below hR hb (Nat.le_refl _)) hb.size))
  have HW := Lib.hid (fun p => whN_3 l p)
  have HNo := Lib.hid (fun x m (h : whN l (x, -40 + ((m : Nat) : Int)) ≠ 1) => colR_no h)
  have HYes := Lib.hid (fun x m (h : whN l (x, -40 + ((m : Nat) : Int)) = 1) => colR_yes h)
  have H0 : Hid (∀ x, colR l x (-40) 0 = []) := Lib.hid (fun _ => rfl)
  have HS : Hid (∀ i : Nat, gridR l (-40) (-40) 81 (i + 1) = gridR l (-40) (-40) 81 i ++ colR l (-40 + i) (-40) 81) := Lib.hid (fun _ => rfl)
  have HL : Hid (∀ (i j : Nat), i ≤ 81 → j ≤ 81 → (gridR l (-40) (-40) 81 i ++ colR l (-40 + i) (-40) j).length ≤ 7000) := Lib.hid (fun i j hi hj => by
    rw [List.length_append]
    have := gridR_len l (-40) (-40) 81 i
    have := colR_len l (-40 + i) (-40) j
    omega)
  have HN : Hid (∀ v W, RowL W w.heap.size v (insL l) → Below w.heap.size w W → RetP w (insL l) (.returned v) W) := Lib.hid (fun v W h hb => retP_rowL h hb)
  have HE : Hid (insL l = gridR l (-40) (-40) 81 81) := Lib.hid rfl
  have HA : Hid (∀ i, gridR l (-40) (-40) 81 i ++ [] = gridR l (-40) (-40) 81 i) := Lib.hid (fun i => List.append_nil _)
  clear hg hR
  go_enter Try.func74, Try.ntmps74
  go_wp2_with fail
  go_loopg [3, 4] 81 (fun g s x wr => ∃ (i : Nat) (v : Value), v = s ∧ i ≤ 81 ∧ g = 81 - i ∧ x = .int .i64 (-40 + (i : Int)) ∧ Below w.heap.size w wr ∧ Hid (RowL wr w.heap.size v (gridR l (-40) (-40) 81 i)))
  case atStart => exact ⟨0, _, rfl, Nat.zero_le _, rfl, rfl, Below.refl _ _, Lib.hid (rowL_nil _ _)⟩
  case round =>
    obtain ⟨i, v, rfl, hi, hg, rfl, hB, hr⟩ := hrel
    rename World => wo
    have HGK := Lib.hid hg
    clear hg
    by_cases hlt : i < 81
    · have d1 : (-40 : Int) + (i : Int) ≤ 40 := by omega
      go_wp2_with fail
      go_loopg [3, 5] 81 (fun g s y wr => ∃ (j : Nat) (v : Value), v = s ∧ j ≤ 81 ∧ g = 81 - j ∧ y = .int .i64 (-40 + (j : Int)) ∧ Below w.heap.size w wr ∧ Hid (RowL wr w.heap.size v (gridR l (-40) (-40) 81 i ++ colR l (-40 + i) (-40) j)))
      case atStart => exact ⟨0, _, rfl, Nat.zero_le _, rfl, rfl, hB, Lib.hid (by rw [H0.out, HA.out]; exact hr.out)⟩
      case round =>
        clear hB hr
        rename Value => v0
        obtain ⟨j, v, rfl, hj, hg, rfl, hB, hr⟩ := hrel
        rename World => wi
        have HGJ := Lib.hid hg
        clear hg
        by_cases hlj : j < 81
        · have d2 : (-40 : Int) + (j : Int) ≤ 40 := by omega
          have hzB := hB.size
          have hm := HL.out i j (by omega) (by omega)
          have KP := Lib.hid (fun W hb => KW.out (-40 + (i : Int)) (-40 + (j : Int)) W (by unfold Sz; omega) hb)
          have HW1 := HW.out (-40 + (i : Int), -40 + (j : Int))
          have HNo1 := Lib.hid (HNo.out (-40 + (i : Int)) j)
          have HYes1 := Lib.hid (HYes.out (-40 + (i : Int)) j)
          have e1 : IntKind.i64.wrap (-40 + (j : Int) + 1) = -40 + ((j + 1 : Nat) : Int) := by rw [IntWalk.i64_in _ (by omega)]; omega
          generalize whN l (-40 + (i : Int), -40 + (j : Int)) = t at *
          go_wp2_with fail
          obtain ⟨Wb, hWb⟩ : ∃ Wb, Wb = (wi.alloc (.cells #[.int .i64 (-40 + (i : Int)), .int .i64 (-40 + (j : Int))] 42)) := ⟨_, rfl⟩
          rw [← hWb]
          have yWb0_0 : Wb.cell? ⟨wi.heap.size, 0, none⟩ = some (.int .i64 (-40 + (i : Int))) := by rw [hWb]; go_simp
          have yWb0_1 : Wb.cell? ⟨wi.heap.size, 1, none⟩ = some (.int .i64 (-40 + (j : Int))) := by rw [hWb]; go_simp
          have fWb0 : ∀ o, Wb.frozen? ⟨wi.heap.size, o, none⟩ = false := by intro o; rw [hWb]; (repeat rw [frozen?_alloc_cells]); simp [World.frozen?]
          have zWb0 : wi.heap.size < Wb.heap.size := by rw [hWb]; simp <;> omega
          have BWb : Below wi.heap.size wi Wb := by rw [hWb]; exact (Below.alloc (Below.refl _ _) (by simp <;> omega) _)
          have eWb : Hid (Wb.heap.size = wi.heap.size + 1) := Lib.hid (by rw [hWb]; simp)
          clear hWb
          have RA := Lib.hid (rowL_below hr.out BWb (Nat.le_refl _))
          have BA := hB.trans (BWb.mono hzB)
          have hzA := BA.size
          clear hr fWb0 eWb hB BWb
          refine (KP.out Wb BA).mono ?_; rintro e w1 ⟨rfl, hb1⟩
          have B1 := BA.trans (hb1.mono hzA)
          have R1 := Lib.hid (rowL_below RA.out hb1 (Nat.le_refl _))
          have y0 := ((bcell hb1).1 _ _ zWb0).trans yWb0_0
          have y1 := ((bcell hb1).1 _ _ zWb0).trans yWb0_1
          have z1 : wi.heap.size < w1.heap.size := Nat.lt_of_lt_of_le zWb0 hb1.size
          have hz1 := B1.size
          clear hb1 BA RA yWb0_0 yWb0_1 zWb0 KP
          by_cases ht : t = 1
          · subst ht
            have HY := Lib.hid (HYes1.out rfl)
            clear HNo1 HYes1 HW1
            have HMM : Hid (gridR l (-40) (-40) 81 i ++ colR l (-40 + i) (-40) (j + 1) = (gridR l (-40) (-40) 81 i ++ colR l (-40 + i) (-40) j) ++ [(-40 + (i : Int), -40 + (j : Int))]) := Lib.hid (by rw [HY.out, List.append_assoc])
            generalize gridR l (-40) (-40) 81 i ++ colR l (-40 + i) (-40) j = m at *
            go_wp2_with (at_builtin; go_loud (refine wpList_append_own _ rfl (.tmp 22) (.tmp 24) 26 rfl w.heap.size 42 i0 (.agg #[.int .i64 0, .int .i64 0]) 2 16 Try.underlying26 HI.out.1 HI.out.2.1 HI.out.2.2.1 HI.out.2.2.2 rfl (by decide) _ m.length (flat m) rfl (rowL_alloc R1.out _) ⟨w1.heap.size, 0, none⟩ 1 1 [.int .i64 (-40 + (i : Int)), .int .i64 (-40 + (j : Int))] rfl rfl (two_cells (by go_simp) (by go_simp)) (two_one _ _) (by unfold maxLen; omega) (by omega) (by simp; omega) ?_))
            intro v' w2 hown hgr _
            have RB := rowL_push (Below.alloc B1 hz1 _) (rowL_alloc R1.out _) hown hgr
            have R2 := Lib.hid (show RowL w2 w.heap.size v' (gridR l (-40) (-40) 81 i ++ colR l (-40 + i) (-40) (j + 1)) from by rw [HMM.out]; exact RB.1)
            have B2 := RB.2
            clear RB hown hgr B1 R1
            go_wp2_with fail
            go_roundg (81 - (j + 1))
            case measure => have := HGJ.out; omega
            case rel => exact ⟨j + 1, _, rfl, by omega, rfl, by go_num, B2, R2⟩
          · have ht' : t = 0 ∨ t = -1 := by omega
            clear HW1
            rcases ht' with rfl | rfl
            · have hR2 := Lib.hid (show RowL w1 w.heap.size v (gridR l (-40) (-40) 81 i ++ colR l (-40 + i) (-40) (j + 1)) from by rw [HNo1.out ht]; exact R1.out)
              clear HNo1 HYes1 R1 ht hm y0 y1
              generalize hgg : gridR l (-40) (-40) 81 i ++ colR l (-40 + i) (-40) (j + 1) = m at hR2
              have HGG := Lib.hid hgg
              clear hgg
              go_wp2_with fail
              go_roundg (81 - (j + 1))
              case measure => have := HGJ.out; omega
              case rel => exact ⟨j + 1, _, rfl, by omega, rfl, by go_num, B1, Lib.hid (by rw [HGG.out]; exact hR2.out)⟩
            · have hR2 := Lib.hid (show RowL w1 w.heap.size v (gridR l (-40) (-40) 81 i ++ colR l (-40 + i) (-40) (j + 1)) from by rw [HNo1.out ht]; exact R1.out)
              clear HNo1 HYes1 R1 ht hm y0 y1
              generalize hgg : gridR l (-40) (-40) 81 i ++ colR l (-40 + i) (-40) (j + 1) = m at hR2
              have HGG := Lib.hid hgg
              clear hgg
              go_wp2_with fail
              go_roundg (81 - (j + 1))
              case measure => have := HGJ.out; omega
              case rel => exact ⟨j + 1, _, rfl, by omega, rfl, by go_num, B1, Lib.hid (by rw [HGG.out]; exact hR2.out)⟩
        · obtain rfl : j = 81 := by omega
          have hr2 := Lib.hid (show RowL wi w.heap.size v (gridR l (-40) (-40) 81 (i + 1)) from by rw [HS.out]; exact hr.out)
          have e1 : IntKind.i64.wrap (-40 + (i : Int) + 1) = -40 + ((i + 1 : Nat) : Int) := by rw [IntWalk.i64_in _ (by omega)]; omega
          clear hr
          go_wp2_with fail
          go_roundg (81 - (i + 1))
          case measure => have := HGK.out; omega
          case rel => exact ⟨i + 1, _, rfl, by omega, rfl, by go_num, hB, hr2⟩
    · obtain rfl : i = 81 := by omega
      have hr2 := Lib.hid (show RowL wo w.heap.size v (insL l) from by rw [HE.out]; exact hr.out)
      go_wp2_with fail
      go_ret
      exact HN.out _ _ hr2.out hB
end Go.Proofs.Ytieimijkkjhegaa
/- contract: do two lines meet, the model -/
namespace Go.Proofs.Ytieimijkkjhegaa
open Go.ChangeShapes Go.WideShapes Go.ChangeAt Go.RowKit Go.Joins
set_option linter.unusedVariables false
set_option linter.unusedSimpArgs false
set_option maxRecDepth 4000
set_option maxHeartbeats 2000000 in
theorem pgMeet_any (a1 a2 b1 b2 c1 c2 d1 d2 : Int) (w : World) (ha : Sz a1 a2) (hb : Sz b1 b2) (hc : Sz c1 c2) (hd : Sz d1 d2) :
    Calls Try.prog 106 #[.agg #[.int .i64 a1, .int .i64 a2], .agg #[.int .i64 b1, .int .i64 b2], .agg #[.int .i64 c1, .int .i64 c2], .agg #[.int .i64 d1, .int .i64 d2]] w fun e w' => e = .returned (.bool (meetB a1 a2 b1 b2 c1 c2 d1 d2)) ∧ Below w.heap.size w w' := by
  have K1 := Lib.hid (fun W => pgOn_any a1 a2 b1 b2 c1 c2 W ha hb hc)
  have K2 := Lib.hid (fun W => pgOn_any a1 a2 b1 b2 d1 d2 W ha hb hd)
  have K3 := Lib.hid (fun W => pgOn_any c1 c2 d1 d2 a1 a2 W hc hd ha)
  have K4 := Lib.hid (fun W => pgOn_any c1 c2 d1 d2 b1 b2 W hc hd hb)
  have T1 := Lib.hid (fun W => pgTurn_any a1 a2 b1 b2 c1 c2 W ha hb hc)
  have T2 := Lib.hid (fun W => pgTurn_any a1 a2 b1 b2 d1 d2 W ha hb hd)
  have T3 := Lib.hid (fun W => pgTurn_any c1 c2 d1 d2 a1 a2 W hc hd ha)
  have T4 := Lib.hid (fun W => pgTurn_any c1 c2 d1 d2 b1 b2 W hc hd hb)
  clear ha hb hc hd
  have eq : meetB a1 a2 b1 b2 c1 c2 d1 d2 = (onB a1 a2 b1 b2 c1 c2 || onB a1 a2 b1 b2 d1 d2 || onB c1 c2 d1 d2 a1 a2 || onB c1 c2 d1 d2 b1 b2 ||
      (decide (sgn (twI a1 a2 b1 b2 c1 c2) * sgn (twI a1 a2 b1 b2 d1 d2) < 0) && decide (sgn (twI c1 c2 d1 d2 a1 a2) * sgn (twI c1 c2 d1 d2 b1 b2) < 0))) := by
    unfold meetB; simp only [sgn_mul, Bool.decide_and]
  rw [eq]
  clear eq
  obtain ⟨p1, p2⟩ := sgn_pr (twI a1 a2 b1 b2 c1 c2) (twI a1 a2 b1 b2 d1 d2)
  obtain ⟨p3, p4⟩ := sgn_pr (twI c1 c2 d1 d2 a1 a2) (twI c1 c2 d1 d2 b1 b2)
  generalize twI a1 a2 b1 b2 c1 c2 = t1 at *
  generalize twI a1 a2 b1 b2 d1 d2 = t2 at *
  generalize twI c1 c2 d1 d2 a1 a2 = t3 at *
  generalize twI c1 c2 d1 d2 b1 b2 = t4 at *
  generalize onB a1 a2 b1 b2 c1 c2 = o1 at *
  generalize onB a1 a2 b1 b2 d1 d2 = o2 at *
  generalize onB c1 c2 d1 d2 a1 a2 = o3 at *
  generalize onB c1 c2 d1 d2 b1 b2 = o4 at *
  cases o1
  · go_enter Try.func106, Try.ntmps106
    go_wp2_with fail
    refine (K1.out _).mono ?_; rintro e w1 ⟨rfl, hb1⟩
    obtain ⟨hc1, hf1⟩ := bcell hb1
    have z1_0 : w.heap.size < w1.heap.size := by (have := hb1.size; simp at this; omega)
    have z1_1 : w.heap.size + 1 < w1.heap.size := by (have := hb1.size; simp at this; omega)
    have z1_2 : w.heap.size + 2 < w1.heap.size := by (have := hb1.size; simp at this; omega)
    have z1_3 : w.heap.size + 3 < w1.heap.size := by (have := hb1.size; simp at this; omega)
    have B1 : Below w.heap.size w w1 := (Below.alloc (Below.alloc (Below.alloc (Below.alloc (Below.refl _ _) (by simp <;> omega) _) (by simp <;> omega) _) (by simp <;> omega) _) (by simp <;> omega) _).trans (hb1.mono (by simp <;> omega))
    go_wp2_with fail
    cases o2
    · refine (K2.out _).mono ?_; rintro e w2 ⟨rfl, hb2⟩
      obtain ⟨hc2, hf2⟩ := bcell hb2
      have z2_0 : w.heap.size < w2.heap.size := by (have := hb2.size; omega)
      have z2_1 : w.heap.size + 1 < w2.heap.size := by (have := hb2.size; omega)
      have z2_2 : w.heap.size + 2 < w2.heap.size := by (have := hb2.size; omega)
      have z2_3 : w.heap.size + 3 < w2.heap.size := by (have := hb2.size; omega)
      have B2 : Below w.heap.size w w2 := B1.trans (hb2.mono (by have := B1.size; omega))
      go_wp2_with fail
      cases o3
      · refine (K3.out _).mono ?_; rintro e w3 ⟨rfl, hb3⟩
        obtain ⟨hc3, hf3⟩ := bcell hb3
        have z3_0 : w.heap.size < w3.heap.size := by (have := hb3.size; omega)
        have z3_1 : w.heap.size + 1 < w3.heap.size := by (have := hb3.size; omega)
        have z3_2 : w.heap.size + 2 < w3.heap.size := by (have := hb3.size; omega)
        have z3_3 : w.heap.size + 3 < w3.heap.size := by (have := hb3.size; omega)
        have B3 : Below w.heap.size w w3 := B2.trans (hb3.mono (by have := B2.size; omega))
        go_wp2_with fail
        cases o4
        · refine (K4.out _).mono ?_; rintro e w4 ⟨rfl, hb4⟩
          obtain ⟨hc4, hf4⟩ := bcell hb4
          have z4_0 : w.heap.size < w4.heap.size := by (have := hb4.size; omega)
          have z4_1 : w.heap.size + 1 < w4.heap.size := by (have := hb4.size; omega)
          have z4_2 : w.heap.size + 2 < w4.heap.size := by (have := hb4.size; omega)
          have z4_3 : w.heap.size + 3 < w4.heap.size := by (have := hb4.size; omega)
          have B4 : Below w.heap.size w w4 := B3.trans (hb4.mono (by have := B3.size; omega))
          go_wp2_with fail
          have hS : Below w.heap.size w w4 ∧ w.heap.size + 3 < w4.heap.size ∧ w4.cell? ⟨w.heap.size, 0, none⟩ = some (.int .i64 a1) ∧ w4.cell? ⟨w.heap.size, 1, none⟩ = some (.int .i64 a2) ∧ w4.cell? ⟨w.heap.size + 1, 0, none⟩ = some (.int .i64 b1) ∧ w4.cell? ⟨w.heap.size + 1, 1, none⟩ = some (.int .i64 b2) ∧ w4.cell? ⟨w.heap.size + 2, 0, none⟩ = some (.int .i64 c1) ∧ w4.cell? ⟨w.heap.size + 2, 1, none⟩ = some (.int .i64 c2) ∧ w4.cell? ⟨w.heap.size + 3, 0, none⟩ = some (.int .i64 d1) ∧ w4.cell? ⟨w.heap.size + 3, 1, none⟩ = some (.int .i64 d2) := ⟨B4, z4_3, by rw [hc4 _ _ (by omega), hc3 _ _ (by omega), hc2 _ _ (by omega), hc1 _ _ (by simp <;> omega)]; go_simp, by rw [hc4 _ _ (by omega), hc3 _ _ (by omega), hc2 _ _ (by omega), hc1 _ _ (by simp <;> omega)]; go_simp, by rw [hc4 _ _ (by omega), hc3 _ _ (by omega), hc2 _ _ (by omega), hc1 _ _ (by simp <;> omega)]; go_simp, by rw [hc4 _ _ (by omega), hc3 _ _ (by omega), hc2 _ _ (by omega), hc1 _ _ (by simp <;> omega)]; go_simp, by rw [hc4 _ _ (by omega), hc3 _ _ (by omega), hc2 _ _ (by omega), hc1 _ _ (by simp <;> omega)]; go_simp, by rw [hc4 _ _ (by omega), hc3 _ _ (by omega), hc2 _ _ (by omega), hc1 _ _ (by simp <;> omega)]; go_simp, by rw [hc4 _ _ (by omega), hc3 _ _ (by omega), hc2 _ _ (by omega), hc1 _ _ (by simp <;> omega)]; go_simp, by rw [hc4 _ _ (by omega), hc3 _ _ (by omega), hc2 _ _ (by omega), hc1 _ _ (by simp <;> omega)]; go_simp⟩
          clear hc1 hf1 hc2 hf2 hc3 hf3 hc4 hf4 hb1 hb2 hb3 hb4 B1 B2 B3 B4
          clear z1_0 z1_1 z1_2 z1_3 z2_0 z2_1 z2_2 z2_3 z3_0 z3_1 z3_2 z3_3 z4_0 z4_1 z4_2 z4_3
          have e1 : IntKind.i64.wrap (sgn t1 * sgn t2) = sgn t1 * sgn t2 := IntWalk.i64_in _ (by omega)
          have e2 : IntKind.i64.wrap (sgn t3 * sgn t4) = sgn t3 * sgn t4 := IntWalk.i64_in _ (by omega)
          by_cases hm : sgn t1 * sgn t2 < 0
          · have hd := decide_eq_true hm
            refine wp_region_B (fun W => Below w.heap.size w W ∧ w.heap.size + 3 < W.heap.size ∧ W.cell? ⟨w.heap.size, 0, none⟩ = some (.int .i64 a1) ∧ W.cell? ⟨w.heap.size, 1, none⟩ = some (.int .i64 a2) ∧ W.cell? ⟨w.heap.size + 1, 0, none⟩ = some (.int .i64 b1) ∧ W.cell? ⟨w.heap.size + 1, 1, none⟩ = some (.int .i64 b2) ∧ W.cell? ⟨w.heap.size + 2, 0, none⟩ = some (.int .i64 c1) ∧ W.cell? ⟨w.heap.size + 2, 1, none⟩ = some (.int .i64 c2) ∧ W.cell? ⟨w.heap.size + 3, 0, none⟩ = some (.int .i64 d1) ∧ W.cell? ⟨w.heap.size + 3, 1, none⟩ = some (.int .i64 d2)) (by kernel_rfl) (held4 hS ((Below.refl _ _).drew)) ?_
            first | refine wpB_skip 0 rfl (by kernel_rfl) (by kernel_rfl) (by kernel_rfl) (by rfl) ?_ | (refine wpB_text 0 (v := ?_) rfl (by kernel_rfl) (by kernel_rfl) (by kernel_rfl) (by rfl) (fun W hW => ?_) ?_; rotate_left; (obtain ⟨k1, k2, k3, k4, k5, k6, k7, k8, k9, k10⟩ := hW;  go_simp; refine comes_v ?_; exact ⟨k1, k2, k3, k4, k5, k6, k7, k8, k9, k10⟩))
            (try simp only [Act.put, List.setIfInBounds_toArray, List.set_cons_zero, List.set_cons_succ])
            first | refine wpB_skip 1 rfl (by kernel_rfl) (by kernel_rfl) (by kernel_rfl) (by rfl) ?_ | (refine wpB_text 1 (v := ?_) rfl (by kernel_rfl) (by kernel_rfl) (by kernel_rfl) (by rfl) (fun W hW => ?_) ?_; rotate_left; (obtain ⟨k1, k2, k3, k4, k5, k6, k7, k8, k9, k10⟩ := hW;  go_simp; refine comes_v ?_; exact ⟨k1, k2, k3, k4, k5, k6, k7, k8, k9, k10⟩))
            (try simp only [Act.put, List.setIfInBounds_toArray, List.set_cons_zero, List.set_cons_succ])
            first | refine wpB_skip 2 rfl (by kernel_rfl) (by kernel_rfl) (by kernel_rfl) (by rfl) ?_ | (refine wpB_text 2 (v := ?_) rfl (by kernel_rfl) (by kernel_rfl) (by kernel_rfl) (by rfl) (fun W hW => ?_) ?_; rotate_left; (obtain ⟨k1, k2, k3, k4, k5, k6, k7, k8, k9, k10⟩ := hW;  go_simp; refine comes_v ?_; exact ⟨k1, k2, k3, k4, k5, k6, k7, k8, k9, k10⟩))
            (try simp only [Act.put, List.setIfInBounds_toArray, List.set_cons_zero, List.set_cons_succ])
            first | refine wpB_skip 3 rfl (by kernel_rfl) (by kernel_rfl) (by kernel_rfl) (by rfl) ?_ | (refine wpB_text 3 (v := .int .i64 t1) rfl (by kernel_rfl) (by kernel_rfl) (by kernel_rfl) (by rfl) (fun W hW => ?_) ?_; (obtain ⟨k1, k2, k3, k4, k5, k6, k7, k8, k9, k10⟩ := hW;  go_simp; exact comes_c ( T1.out _) (fun wn hbn => held4 ⟨k1, k2, k3, k4, k5, k6, k7, k8, k9, k10⟩ hbn)))
            (try simp only [Act.put, List.setIfInBounds_toArray, List.set_cons_zero, List.set_cons_succ])
            first | refine wpB_skip 4 rfl (by kernel_rfl) (by kernel_rfl) (by kernel_rfl) (by rfl) ?_ | (refine wpB_text 4 (v := .int .i64 (sgn t1)) rfl (by kernel_rfl) (by kernel_rfl) (by kernel_rfl) (by rfl) (fun W hW => ?_) ?_; (obtain ⟨k1, k2, k3, k4, k5, k6, k7, k8, k9, k10⟩ := hW;  go_simp; exact comes_q ( l1Sign_any _ _) ⟨k1, k2, k3, k4, k5, k6, k7, k8, k9, k10⟩))
            (try simp only [Act.put, List.setIfInBounds_toArray, List.set_cons_zero, List.set_cons_succ])
            first | refine wpB_skip 5 rfl (by kernel_rfl) (by kernel_rfl) (by kernel_rfl) (by rfl) ?_ | (refine wpB_text 5 (v := ?_) rfl (by kernel_rfl) (by kernel_rfl) (by kernel_rfl) (by rfl) (fun W hW => ?_) ?_; rotate_left; (obtain ⟨k1, k2, k3, k4, k5, k6, k7, k8, k9, k10⟩ := hW;  go_simp; refine comes_v ?_; exact ⟨k1, k2, k3, k4, k5, k6, k7, k8, k9, k10⟩))
            (try simp only [Act.put, List.setIfInBounds_toArray, List.set_cons_zero, List.set_cons_succ])
            first | refine wpB_skip 6 rfl (by kernel_rfl) (by kernel_rfl) (by kernel_rfl) (by rfl) ?_ | (refine wpB_text 6 (v := ?_) rfl (by kernel_rfl) (by kernel_rfl) (by kernel_rfl) (by rfl) (fun W hW => ?_) ?_; rotate_left; (obtain ⟨k1, k2, k3, k4, k5, k6, k7, k8, k9, k10⟩ := hW;  go_simp; refine comes_v ?_; exact ⟨k1, k2, k3, k4, k5, k6, k7, k8, k9, k10⟩))
            (try simp only [Act.put, List.setIfInBounds_toArray, List.set_cons_zero, List.set_cons_succ])
            first | refine wpB_skip 7 rfl (by kernel_rfl) (by kernel_rfl) (by kernel_rfl) (by rfl) ?_ | (refine wpB_text 7 (v := ?_) rfl (by kernel_rfl) (by kernel_rfl) (by kernel_rfl) (by rfl) (fun W hW => ?_) ?_; rotate_left; (obtain ⟨k1, k2, k3, k4, k5, k6, k7, k8, k9, k10⟩ := hW;  go_simp; refine comes_v ?_; exact ⟨k1, k2, k3, k4, k5, k6, k7, k8, k9, k10⟩))
            (try simp only [Act.put, List.setIfInBounds_toArray, List.set_cons_zero, List.set_cons_succ])
            first | refine wpB_skip 8 rfl (by kernel_rfl) (by kernel_rfl) (by kernel_rfl) (by rfl) ?_ | (refine wpB_text 8 (v := .int .i64 t2) rfl (by kernel_rfl) (by kernel_rfl) (by kernel_rfl) (by rfl) (fun W hW => ?_) ?_; (obtain ⟨k1, k2, k3, k4, k5, k6, k7, k8, k9, k10⟩ := hW;  go_simp; exact comes_c ( T2.out _) (fun wn hbn => held4 ⟨k1, k2, k3, k4, k5, k6, k7, k8, k9, k10⟩ hbn)))
            (try simp only [Act.put, List.setIfInBounds_toArray, List.set_cons_zero, List.set_cons_succ])
            first | refine wpB_skip 9 rfl (by kernel_rfl) (by kernel_rfl) (by kernel_rfl) (by rfl) ?_ | (refine wpB_text 9 (v := .int .i64 (sgn t2)) rfl (by kernel_rfl) (by kernel_rfl) (by kernel_rfl) (by rfl) (fun W hW => ?_) ?_; (obtain ⟨k1, k2, k3, k4, k5, k6, k7, k8, k9, k10⟩ := hW;  go_simp; exact comes_q ( l1Sign_any _ _) ⟨k1, k2, k3, k4, k5, k6, k7, k8, k9, k10⟩))
            (try simp only [Act.put, List.setIfInBounds_toArray, List.set_cons_zero, List.set_cons_succ])
            first | refine wpB_skip 10 rfl (by kernel_rfl) (by kernel_rfl) (by kernel_rfl) (by rfl) ?_ | (refine wpB_text 10 (v := ?_) rfl (by kernel_rfl) (by kernel_rfl) (by kernel_rfl) (by rfl) (fun W hW => ?_) ?_; rotate_left; (obtain ⟨k1, k2, k3, k4, k5, k6, k7, k8, k9, k10⟩ := hW;  go_simp; refine comes_v ?_; exact ⟨k1, k2, k3, k4, k5, k6, k7, k8, k9, k10⟩))
            (try simp only [Act.put, List.setIfInBounds_toArray, List.set_cons_zero, List.set_cons_succ])
            first | refine wpB_skip 11 rfl (by kernel_rfl) (by kernel_rfl) (by kernel_rfl) (by rfl) ?_ | (refine wpB_text 11 (v := ?_) rfl (by kernel_rfl) (by kernel_rfl) (by kernel_rfl) (by rfl) (fun W hW => ?_) ?_; rotate_left; (obtain ⟨k1, k2, k3, k4, k5, k6, k7, k8, k9, k10⟩ := hW;  go_simp; refine comes_v ?_; exact ⟨k1, k2, k3, k4, k5, k6, k7, k8, k9, k10⟩))
            (try simp only [Act.put, List.setIfInBounds_toArray, List.set_cons_zero, List.set_cons_succ])
            first | refine wpB_skip 12 rfl (by kernel_rfl) (by kernel_rfl) (by kernel_rfl) (by rfl) ?_ | (refine wpB_text 12 (v := ?_) rfl (by kernel_rfl) (by kernel_rfl) (by kernel_rfl) (by rfl) (fun W hW => ?_) ?_; rotate_left; (obtain ⟨k1, k2, k3, k4, k5, k6, k7, k8, k9, k10⟩ := hW;  go_simp; refine comes_v ?_; exact ⟨k1, k2, k3, k4, k5, k6, k7, k8, k9, k10⟩))
            (try simp only [Act.put, List.setIfInBounds_toArray, List.set_cons_zero, List.set_cons_succ])
            first | refine wpB_skip 13 rfl (by kernel_rfl) (by kernel_rfl) (by kernel_rfl) (by rfl) ?_ | (refine wpB_text 13 (v := ?_) rfl (by kernel_rfl) (by kernel_rfl) (by kernel_rfl) (by rfl) (fun W hW => ?_) ?_; rotate_left; (obtain ⟨k1, k2, k3, k4, k5, k6, k7, k8, k9, k10⟩ := hW;  go_simp; refine comes_v ?_; exact ⟨k1, k2, k3, k4, k5, k6, k7, k8, k9, k10⟩))
            (try simp only [Act.put, List.setIfInBounds_toArray, List.set_cons_zero, List.set_cons_succ])
            first | refine wpB_skip 14 rfl (by kernel_rfl) (by kernel_rfl) (by kernel_rfl) (by rfl) ?_ | (refine wpB_text 14 (v := ?_) rfl (by kernel_rfl) (by kernel_rfl) (by kernel_rfl) (by rfl) (fun W hW => ?_) ?_; rotate_left; (obtain ⟨k1, k2, k3, k4, k5, k6, k7, k8, k9, k10⟩ := hW;  go_simp; refine comes_v ?_; exact ⟨k1, k2, k3, k4, k5, k6, k7, k8, k9, k10⟩))
            (try simp only [Act.put, List.setIfInBounds_toArray, List.set_cons_zero, List.set_cons_succ])
            first | refine wpB_skip 15 rfl (by kernel_rfl) (by kernel_rfl) (by kernel_rfl) (by rfl) ?_ | (refine wpB_text 15 (v := ?_) rfl (by kernel_rfl) (by kernel_rfl) (by kernel_rfl) (by rfl) (fun W hW => ?_) ?_; rotate_left; (obtain ⟨k1, k2, k3, k4, k5, k6, k7, k8, k9, k10⟩ := hW;  go_simp; refine comes_v ?_; exact ⟨k1, k2, k3, k4, k5, k6, k7, k8, k9, k10⟩))
            (try simp only [Act.put, List.setIfInBounds_toArray, List.set_cons_zero, List.set_cons_succ])
            first | refine wpB_skip 16 rfl (by kernel_rfl) (by kernel_rfl) (by kernel_rfl) (by rfl) ?_ | (refine wpB_text 16 (v := .int .i64 t3) rfl (by kernel_rfl) (by kernel_rfl) (by kernel_rfl) (by rfl) (fun W hW => ?_) ?_; (obtain ⟨k1, k2, k3, k4, k5, k6, k7, k8, k9, k10⟩ := hW;  go_simp; exact comes_c ( T3.out _) (fun wn hbn => held4 ⟨k1, k2, k3, k4, k5, k6, k7, k8, k9, k10⟩ hbn)))
            (try simp only [Act.put, List.setIfInBounds_toArray, List.set_cons_zero, List.set_cons_succ])
            first | refine wpB_skip 17 rfl (by kernel_rfl) (by kernel_rfl) (by kernel_rfl) (by rfl) ?_ | (refine wpB_text 17 (v := .int .i64 (sgn t3)) rfl (by kernel_rfl) (by kernel_rfl) (by kernel_rfl) (by rfl) (fun W hW => ?_) ?_; (obtain ⟨k1, k2, k3, k4, k5, k6, k7, k8, k9, k10⟩ := hW;  go_simp; exact comes_q ( l1Sign_any _ _) ⟨k1, k2, k3, k4, k5, k6, k7, k8, k9, k10⟩))
            (try simp only [Act.put, List.setIfInBounds_toArray, List.set_cons_zero, List.set_cons_succ])
            first | refine wpB_skip 18 rfl (by kernel_rfl) (by kernel_rfl) (by kernel_rfl) (by rfl) ?_ | (refine wpB_text 18 (v := ?_) rfl (by kernel_rfl) (by kernel_rfl) (by kernel_rfl) (by rfl) (fun W hW => ?_) ?_; rotate_left; (obtain ⟨k1, k2, k3, k4, k5, k6, k7, k8, k9, k10⟩ := hW;  go_simp; refine comes_v ?_; exact ⟨k1, k2, k3, k4, k5, k6, k7, k8, k9, k10⟩))
            (try simp only [Act.put, List.setIfInBounds_toArray, List.set_cons_zero, List.set_cons_succ])
            first | refine wpB_skip 19 rfl (by kernel_rfl) (by kernel_rfl) (by kernel_rfl) (by rfl) ?_ | (refine wpB_text 19 (v := ?_) rfl (by kernel_rfl) (by kernel_rfl) (by kernel_rfl) (by rfl) (fun W hW => ?_) ?_; rotate_left; (obtain ⟨k1, k2, k3, k4, k5, k6, k7, k8, k9, k10⟩ := hW;  go_simp; refine comes_v ?_; exact ⟨k1, k2, k3, k4, k5, k6, k7, k8, k9, k10⟩))
            (try simp only [Act.put, List.setIfInBounds_toArray, List.set_cons_zero, List.set_cons_succ])
            first | refine wpB_skip 20 rfl (by kernel_rfl) (by kernel_rfl) (by kernel_rfl) (by rfl) ?_ | (refine wpB_text 20 (v := ?_) rfl (by kernel_rfl) (by kernel_rfl) (by kernel_rfl) (by rfl) (fun W hW => ?_) ?_; rotate_left; (obtain ⟨k1, k2, k3, k4, k5, k6, k7, k8, k9, k10⟩ := hW;  go_simp; refine comes_v ?_; exact ⟨k1, k2, k3, k4, k5, k6, k7, k8, k9, k10⟩))
            (try simp only [Act.put, List.setIfInBounds_toArray, List.set_cons_zero, List.set_cons_succ])
            first | refine wpB_skip 21 rfl (by kernel_rfl) (by kernel_rfl) (by kernel_rfl) (by rfl) ?_ | (refine wpB_text 21 (v := .int .i64 t4) rfl (by kernel_rfl) (by kernel_rfl) (by kernel_rfl) (by rfl) (fun W hW => ?_) ?_; (obtain ⟨k1, k2, k3, k4, k5, k6, k7, k8, k9, k10⟩ := hW;  go_simp; exact comes_c ( T4.out _) (fun wn hbn => held4 ⟨k1, k2, k3, k4, k5, k6, k7, k8, k9, k10⟩ hbn)))
            (try simp only [Act.put, List.setIfInBounds_toArray, List.set_cons_zero, List.set_cons_succ])
            first | refine wpB_skip 22 rfl (by kernel_rfl) (by kernel_rfl) (by kernel_rfl) (by rfl) ?_ | (refine wpB_text 22 (v := .int .i64 (sgn t4)) rfl (by kernel_rfl) (by kernel_rfl) (by kernel_rfl) (by rfl) (fun W hW => ?_) ?_; (obtain ⟨k1, k2, k3, k4, k5, k6, k7, k8, k9, k10⟩ := hW;  go_simp; exact comes_q ( l1Sign_any _ _) ⟨k1, k2, k3, k4, k5, k6, k7, k8, k9, k10⟩))
            (try simp only [Act.put, List.setIfInBounds_toArray, List.set_cons_zero, List.set_cons_succ])
            first | refine wpB_skip 23 rfl (by kernel_rfl) (by kernel_rfl) (by kernel_rfl) (by rfl) ?_ | (refine wpB_text 23 (v := ?_) rfl (by kernel_rfl) (by kernel_rfl) (by kernel_rfl) (by rfl) (fun W hW => ?_) ?_; rotate_left; (obtain ⟨k1, k2, k3, k4, k5, k6, k7, k8, k9, k10⟩ := hW;  go_simp; refine comes_v ?_; exact ⟨k1, k2, k3, k4, k5, k6, k7, k8, k9, k10⟩))
            (try simp only [Act.put, List.setIfInBounds_toArray, List.set_cons_zero, List.set_cons_succ])
            first | refine wpB_skip 24 rfl (by kernel_rfl) (by kernel_rfl) (by kernel_rfl) (by rfl) ?_ | (refine wpB_text 24 (v := ?_) rfl (by kernel_rfl) (by kernel_rfl) (by kernel_rfl) (by rfl) (fun W hW => ?_) ?_; rotate_left; (obtain ⟨k1, k2, k3, k4, k5, k6, k7, k8, k9, k10⟩ := hW;  go_simp; refine comes_v ?_; exact ⟨k1, k2, k3, k4, k5, k6, k7, k8, k9, k10⟩))
            (try simp only [Act.put, List.setIfInBounds_toArray, List.set_cons_zero, List.set_cons_succ])
            first | refine wpB_skip 25 rfl (by kernel_rfl) (by kernel_rfl) (by kernel_rfl) (by rfl) ?_ | (refine wpB_text 25 (v := ?_) rfl (by kernel_rfl) (by kernel_rfl) (by kernel_rfl) (by rfl) (fun W hW => ?_) ?_; rotate_left; (obtain ⟨k1, k2, k3, k4, k5, k6, k7, k8, k9, k10⟩ := hW;  go_simp; refine comes_v ?_; exact ⟨k1, k2, k3, k4, k5, k6, k7, k8, k9, k10⟩))
            (try simp only [Act.put, List.setIfInBounds_toArray, List.set_cons_zero, List.set_cons_succ])
            first | refine wpB_skip 26 rfl (by kernel_rfl) (by kernel_rfl) (by kernel_rfl) (by rfl) ?_ | (refine wpB_text 26 (v := ?_) rfl (by kernel_rfl) (by kernel_rfl) (by kernel_rfl) (by rfl) (fun W hW => ?_) ?_; rotate_left; (obtain ⟨k1, k2, k3, k4, k5, k6, k7, k8, k9, k10⟩ := hW;  go_simp; refine comes_v ?_; exact ⟨k1, k2, k3, k4, k5, k6, k7, k8, k9, k10⟩))
            (try simp only [Act.put, List.setIfInBounds_toArray, List.set_cons_zero, List.set_cons_succ])
            refine wpB_done (by kernel_rfl) ?_ _
            intro W hW; obtain ⟨k1, k2, k3, k4, k5, k6, k7, k8, k9, k10⟩ := hW
            clear e1 e2
            go_wp2_with fail
            go_ret
            exact ⟨ret_bool (by simp [hm]), k1⟩
          · have hd := decide_eq_false hm
            refine wp_region_B (fun W => Below w.heap.size w W ∧ w.heap.size + 3 < W.heap.size ∧ W.cell? ⟨w.heap.size, 0, none⟩ = some (.int .i64 a1) ∧ W.cell? ⟨w.heap.size, 1, none⟩ = some (.int .i64 a2) ∧ W.cell? ⟨w.heap.size + 1, 0, none⟩ = some (.int .i64 b1) ∧ W.cell? ⟨w.heap.size + 1, 1, none⟩ = some (.int .i64 b2) ∧ W.cell? ⟨w.heap.size + 2, 0, none⟩ = some (.int .i64 c1) ∧ W.cell? ⟨w.heap.size + 2, 1, none⟩ = some (.int .i64 c2) ∧ W.cell? ⟨w.heap.size + 3, 0, none⟩ = some (.int .i64 d1) ∧ W.cell? ⟨w.heap.size + 3, 1, none⟩ = some (.int .i64 d2)) (by kernel_rfl) (held4 hS ((Below.refl _ _).drew)) ?_
            first | refine wpB_skip 0 rfl (by kernel_rfl) (by kernel_rfl) (by kernel_rfl) (by rfl) ?_ | (refine wpB_text 0 (v := ?_) rfl (by kernel_rfl) (by kernel_rfl) (by kernel_rfl) (by rfl) (fun W hW => ?_) ?_; rotate_left; (obtain ⟨k1, k2, k3, k4, k5, k6, k7, k8, k9, k10⟩ := hW;  go_simp; refine comes_v ?_; exact ⟨k1, k2, k3, k4, k5, k6, k7, k8, k9, k10⟩))
            (try simp only [Act.put, List.setIfInBounds_toArray, List.set_cons_zero, List.set_cons_succ])
            first | refine wpB_skip 1 rfl (by kernel_rfl) (by kernel_rfl) (by kernel_rfl) (by rfl) ?_ | (refine wpB_text 1 (v := ?_) rfl (by kernel_rfl) (by kernel_rfl) (by kernel_rfl) (by rfl) (fun W hW => ?_) ?_; rotate_left; (obtain ⟨k1, k2, k3, k4, k5, k6, k7, k8, k9, k10⟩ := hW;  go_simp; refine comes_v ?_; exact ⟨k1, k2, k3, k4, k5, k6, k7, k8, k9, k10⟩))
            (try simp only [Act.put, List.setIfInBounds_toArray, List.set_cons_zero, List.set_cons_succ])
            first | refine wpB_skip 2 rfl (by kernel_rfl) (by kernel_rfl) (by kernel_rfl) (by rfl) ?_ | (refine wpB_text 2 (v := ?_) rfl (by kernel_rfl) (by kernel_rfl) (by kernel_rfl) (by rfl) (fun W hW => ?_) ?_; rotate_left; (obtain ⟨k1, k2, k3, k4, k5, k6, k7, k8, k9, k10⟩ := hW;  go_simp; refine comes_v ?_; exact ⟨k1, k2, k3, k4, k5, k6, k7, k8, k9, k10⟩))
            (try simp only [Act.put, List.setIfInBounds_toArray, List.set_cons_zero, List.set_cons_succ])
            first | refine wpB_skip 3 rfl (by kernel_rfl) (by kernel_rfl) (by kernel_rfl) (by rfl) ?_ | (refine wpB_text 3 (v := .int .i64 t1) rfl (by kernel_rfl) (by kernel_rfl) (by kernel_rfl) (by rfl) (fun W hW => ?_) ?_; (obtain ⟨k1, k2, k3, k4, k5, k6, k7, k8, k9, k10⟩ := hW;  go_simp; exact comes_c ( T1.out _) (fun wn hbn => held4 ⟨k1, k2, k3, k4, k5, k6, k7, k8, k9, k10⟩ hbn)))
            (try simp only [Act.put, List.setIfInBounds_toArray, List.set_cons_zero, List.set_cons_succ])
            first | refine wpB_skip 4 rfl (by kernel_rfl) (by kernel_rfl) (by kernel_rfl) (by rfl) ?_ | (refine wpB_text 4 (v := .int .i64 (sgn t1)) rfl (by kernel_rfl) (by kernel_rfl) (by kernel_rfl) (by rfl) (fun W hW => ?_) ?_; (obtain ⟨k1, k2, k3, k4, k5, k6, k7, k8, k9, k10⟩ := hW;  go_simp; exact comes_q ( l1Sign_any _ _) ⟨k1, k2, k3, k4, k5, k6, k7, k8, k9, k10⟩))
            (try simp only [Act.put, List.setIfInBounds_toArray, List.set_cons_zero, List.set_cons_succ])
            first | refine wpB_skip 5 rfl (by kernel_rfl) (by kernel_rfl) (by kernel_rfl) (by rfl) ?_ | (refine wpB_text 5 (v := ?_) rfl (by kernel_rfl) (by kernel_rfl) (by kernel_rfl) (by rfl) (fun W hW => ?_) ?_; rotate_left; (obtain ⟨k1, k2, k3, k4, k5, k6, k7, k8, k9, k10⟩ := hW;  go_simp; refine comes_v ?_; exact ⟨k1, k2, k3, k4, k5, k6, k7, k8, k9, k10⟩))
            (try simp only [Act.put, List.setIfInBounds_toArray, List.set_cons_zero, List.set_cons_succ])
            first | refine wpB_skip 6 rfl (by kernel_rfl) (by kernel_rfl) (by kernel_rfl) (by rfl) ?_ | (refine wpB_text 6 (v := ?_) rfl (by kernel_rfl) (by kernel_rfl) (by kernel_rfl) (by rfl) (fun W hW => ?_) ?_; rotate_left; (obtain ⟨k1, k2, k3, k4, k5, k6, k7, k8, k9, k10⟩ := hW;  go_simp; refine comes_v ?_; exact ⟨k1, k2, k3, k4, k5, k6, k7, k8, k9, k10⟩))
            (try simp only [Act.put, List.setIfInBounds_toArray, List.set_cons_zero, List.set_cons_succ])
            first | refine wpB_skip 7 rfl (by kernel_rfl) (by kernel_rfl) (by kernel_rfl) (by rfl) ?_ | (refine wpB_text 7 (v := ?_) rfl (by kernel_rfl) (by kernel_rfl) (by kernel_rfl) (by rfl) (fun W hW => ?_) ?_; rotate_left; (obtain ⟨k1, k2, k3, k4, k5, k6, k7, k8, k9, k10⟩ := hW;  go_simp; refine comes_v ?_; exact ⟨k1, k2, k3, k4, k5, k6, k7, k8, k9, k10⟩))
            (try simp only [Act.put, List.setIfInBounds_toArray, List.set_cons_zero, List.set_cons_succ])
            first | refine wpB_skip 8 rfl (by kernel_rfl) (by kernel_rfl) (by kernel_rfl) (by rfl) ?_ | (refine wpB_text 8 (v := .int .i64 t2) rfl (by kernel_rfl) (by kernel_rfl) (by kernel_rfl) (by rfl) (fun W hW => ?_) ?_; (obtain ⟨k1, k2, k3, k4, k5, k6, k7, k8, k9, k10⟩ := hW;  go_simp; exact comes_c ( T2.out _) (fun wn hbn => held4 ⟨k1, k2, k3, k4, k5, k6, k7, k8, k9, k10⟩ hbn)))
            (try simp only [Act.put, List.setIfInBounds_toArray, List.set_cons_zero, List.set_cons_succ])
            first | refine wpB_skip 9 rfl (by kernel_rfl) (by kernel_rfl) (by kernel_rfl) (by rfl) ?_ | (refine wpB_text 9 (v := .int .i64 (sgn t2)) rfl (by kernel_rfl) (by kernel_rfl) (by kernel_rfl) (by rfl) (fun W hW => ?_) ?_; (obtain ⟨k1, k2, k3, k4, k5, k6, k7, k8, k9, k10⟩ := hW;  go_simp; exact comes_q ( l1Sign_any _ _) ⟨k1, k2, k3, k4, k5, k6, k7, k8, k9, k10⟩))
            (try simp only [Act.put, List.setIfInBounds_toArray, List.set_cons_zero, List.set_cons_succ])
            first | refine wpB_skip 10 rfl (by kernel_rfl) (by kernel_rfl) (by kernel_rfl) (by rfl) ?_ | (refine wpB_text 10 (v := ?_) rfl (by kernel_rfl) (by kernel_rfl) (by kernel_rfl) (by rfl) (fun W hW => ?_) ?_; rotate_left; (obtain ⟨k1, k2, k3, k4, k5, k6, k7, k8, k9, k10⟩ := hW;  go_simp; refine comes_v ?_; exact ⟨k1, k2, k3, k4, k5, k6, k7, k8, k9, k10⟩))
            (try simp only [Act.put, List.setIfInBounds_toArray, List.set_cons_zero, List.set_cons_succ])
            first | refine wpB_skip 11 rfl (by kernel_rfl) (by kernel_rfl) (by kernel_rfl) (by rfl) ?_ | (refine wpB_text 11 (v := ?_) rfl (by kernel_rfl) (by kernel_rfl) (by kernel_rfl) (by rfl) (fun W hW => ?_) ?_; rotate_left; (obtain ⟨k1, k2, k3, k4, k5, k6, k7, k8, k9, k10⟩ := hW;  go_simp; refine comes_v ?_; exact ⟨k1, k2, k3, k4, k5, k6, k7, k8, k9, k10⟩))
            (try simp only [Act.put, List.setIfInBounds_toArray, List.set_cons_zero, List.set_cons_succ])
            first | refine wpB_skip 12 rfl (by kernel_rfl) (by kernel_rfl) (by kernel_rfl) (by rfl) ?_ | (refine wpB_text 12 (v := ?_) rfl (by kernel_rfl) (by kernel_rfl) (by kernel_rfl) (by rfl) (fun W hW => ?_) ?_; rotate_left; (obtain ⟨k1, k2, k3, k4, k5, k6, k7, k8, k9, k10⟩ := hW;  go_simp; refine comes_v ?_; exact ⟨k1, k2, k3, k4, k5, k6, k7, k8, k9, k10⟩))
            (try simp only [Act.put, List.setIfInBounds_toArray, List.set_cons_zero, List.set_cons_succ])
            first | refine wpB_skip 13 rfl (by kernel_rfl) (by kernel_rfl) (by kernel_rfl) (by rfl) ?_ | (refine wpB_text 13 (v := ?_) rfl (by kernel_rfl) (by kernel_rfl) (by kernel_rfl) (by rfl) (fun W hW => ?_) ?_; rotate_left; (obtain ⟨k1, k2, k3, k4, k5, k6, k7, k8, k9, k10⟩ := hW;  go_simp; refine comes_v ?_; exact ⟨k1, k2, k3, k4, k5, k6, k7, k8, k9, k10⟩))
            (try simp only [Act.put, List.setIfInBounds_toArray, List.set_cons_zero, List.set_cons_succ])
            first | refine wpB_skip 14 rfl (by kernel_rfl) (by kernel_rfl) (by kernel_rfl) (by rfl) ?_ | (refine wpB_text 14 (v := ?_) rfl (by kernel_rfl) (by kernel_rfl) (by kernel_rfl) (by rfl) (fun W hW => ?_) ?_; rotate_left; (obtain ⟨k1, k2, k3, k4, k5, k6, k7, k8, k9, k10⟩ := hW;  go_simp; refine comes_v ?_; exact ⟨k1, k2, k3, k4, k5, k6, k7, k8, k9, k10⟩))
            (try simp only [Act.put, List.setIfInBounds_toArray, List.set_cons_zero, List.set_cons_succ])
            first | refine wpB_skip 15 rfl (by kernel_rfl) (by kernel_rfl) (by kernel_rfl) (by rfl) ?_ | (refine wpB_text 15 (v := ?_) rfl (by kernel_rfl) (by kernel_rfl) (by kernel_rfl) (by rfl) (fun W hW => ?_) ?_; rotate_left; (obtain ⟨k1, k2, k3, k4, k5, k6, k7, k8, k9, k10⟩ := hW;  go_simp; refine comes_v ?_; exact ⟨k1, k2, k3, k4, k5, k6, k7, k8, k9, k10⟩))
            (try simp only [Act.put, List.setIfInBounds_toArray, List.set_cons_zero, List.set_cons_succ])
            first | refine wpB_skip 16 rfl (by kernel_rfl) (by kernel_rfl) (by kernel_rfl) (by rfl) ?_ | (refine wpB_text 16 (v := .int .i64 t3) rfl (by kernel_rfl) (by kernel_rfl) (by kernel_rfl) (by rfl) (fun W hW => ?_) ?_; (obtain ⟨k1, k2, k3, k4, k5, k6, k7, k8, k9, k10⟩ := hW;  go_simp; exact comes_c ( T3.out _) (fun wn hbn => held4 ⟨k1, k2, k3, k4, k5, k6, k7, k8, k9, k10⟩ hbn)))
            (try simp only [Act.put, List.setIfInBounds_toArray, List.set_cons_zero, List.set_cons_succ])
            first | refine wpB_skip 17 rfl (by kernel_rfl) (by kernel_rfl) (by kernel_rfl) (by rfl) ?_ | (refine wpB_text 17 (v := .int .i64 (sgn t3)) rfl (by kernel_rfl) (by kernel_rfl) (by kernel_rfl) (by rfl) (fun W hW => ?_) ?_; (obtain ⟨k1, k2, k3, k4, k5, k6, k7, k8, k9, k10⟩ := hW;  go_simp; exact comes_q ( l1Sign_any _ _) ⟨k1, k2, k3, k4, k5, k6, k7, k8, k9, k10⟩))
            (try simp only [Act.put, List.setIfInBounds_toArray, List.set_cons_zero, List.set_cons_succ])
            first | refine wpB_skip 18 rfl (by kernel_rfl) (by kernel_rfl) (by kernel_rfl) (by rfl) ?_ | (refine wpB_text 18 (v := ?_) rfl (by kernel_rfl) (by kernel_rfl) (by kernel_rfl) (by rfl) (fun W hW => ?_) ?_; rotate_left; (obtain ⟨k1, k2, k3, k4, k5, k6, k7, k8, k9, k10⟩ := hW;  go_simp; refine comes_v ?_; exact ⟨k1, k2, k3, k4, k5, k6, k7, k8, k9, k10⟩))
            (try simp only [Act.put, List.setIfInBounds_toArray, List.set_cons_zero, List.set_cons_succ])
            first | refine wpB_skip 19 rfl (by kernel_rfl) (by kernel_rfl) (by kernel_rfl) (by rfl) ?_ | (refine wpB_text 19 (v := ?_) rfl (by kernel_rfl) (by kernel_rfl) (by kernel_rfl) (by rfl) (fun W hW => ?_) ?_; rotate_left; (obtain ⟨k1, k2, k3, k4, k5, k6, k7, k8, k9, k10⟩ := hW;  go_simp; refine comes_v ?_; exact ⟨k1, k2, k3, k4, k5, k6, k7, k8, k9, k10⟩))
            (try simp only [Act.put, List.setIfInBounds_toArray, List.set_cons_zero, List.set_cons_succ])
            first | refine wpB_skip 20 rfl (by kernel_rfl) (by kernel_rfl) (by kernel_rfl) (by rfl) ?_ | (refine wpB_text 20 (v := ?_) rfl (by kernel_rfl) (by kernel_rfl) (by kernel_rfl) (by rfl) (fun W hW => ?_) ?_; rotate_left; (obtain ⟨k1, k2, k3, k4, k5, k6, k7, k8, k9, k10⟩ := hW;  go_simp; refine comes_v ?_; exact ⟨k1, k2, k3, k4, k5, k6, k7, k8, k9, k10⟩))
            (try simp only [Act.put, List.setIfInBounds_toArray, List.set_cons_zero, List.set_cons_succ])
            first | refine wpB_skip 21 rfl (by kernel_rfl) (by kernel_rfl) (by kernel_rfl) (by rfl) ?_ | (refine wpB_text 21 (v := .int .i64 t4) rfl (by kernel_rfl) (by kernel_rfl) (by kernel_rfl) (by rfl) (fun W hW => ?_) ?_; (obtain ⟨k1, k2, k3, k4, k5, k6, k7, k8, k9, k10⟩ := hW;  go_simp; exact comes_c ( T4.out _) (fun wn hbn => held4 ⟨k1, k2, k3, k4, k5, k6, k7, k8, k9, k10⟩ hbn)))
            (try simp only [Act.put, List.setIfInBounds_toArray, List.set_cons_zero, List.set_cons_succ])
            first | refine wpB_skip 22 rfl (by kernel_rfl) (by kernel_rfl) (by kernel_rfl) (by rfl) ?_ | (refine wpB_text 22 (v := .int .i64 (sgn t4)) rfl (by kernel_rfl) (by kernel_rfl) (by kernel_rfl) (by rfl) (fun W hW => ?_) ?_; (obtain ⟨k1, k2, k3, k4, k5, k6, k7, k8, k9, k10⟩ := hW;  go_simp; exact comes_q ( l1Sign_any _ _) ⟨k1, k2, k3, k4, k5, k6, k7, k8, k9, k10⟩))
            (try simp only [Act.put, List.setIfInBounds_toArray, List.set_cons_zero, List.set_cons_succ])
            first | refine wpB_skip 23 rfl (by kernel_rfl) (by kernel_rfl) (by kernel_rfl) (by rfl) ?_ | (refine wpB_text 23 (v := ?_) rfl (by kernel_rfl) (by kernel_rfl) (by kernel_rfl) (by rfl) (fun W hW => ?_) ?_; rotate_left; (obtain ⟨k1, k2, k3, k4, k5, k6, k7, k8, k9, k10⟩ := hW;  go_simp; refine comes_v ?_; exact ⟨k1, k2, k3, k4, k5, k6, k7, k8, k9, k10⟩))
            (try simp only [Act.put, List.setIfInBounds_toArray, List.set_cons_zero, List.set_cons_succ])
            first | refine wpB_skip 24 rfl (by kernel_rfl) (by kernel_rfl) (by kernel_rfl) (by rfl) ?_ | (refine wpB_text 24 (v := ?_) rfl (by kernel_rfl) (by kernel_rfl) (by kernel_rfl) (by rfl) (fun W hW => ?_) ?_; rotate_left; (obtain ⟨k1, k2, k3, k4, k5, k6, k7, k8, k9, k10⟩ := hW;  go_simp; refine comes_v ?_; exact ⟨k1, k2, k3, k4, k5, k6, k7, k8, k9, k10⟩))
            (try simp only [Act.put, List.setIfInBounds_toArray, List.set_cons_zero, List.set_cons_succ])
            first | refine wpB_skip 25 rfl (by kernel_rfl) (by kernel_rfl) (by kernel_rfl) (by rfl) ?_ | (refine wpB_text 25 (v := ?_) rfl (by kernel_rfl) (by kernel_rfl) (by kernel_rfl) (by rfl) (fun W hW => ?_) ?_; rotate_left; (obtain ⟨k1, k2, k3, k4, k5, k6, k7, k8, k9, k10⟩ := hW;  go_simp; refine comes_v ?_; exact ⟨k1, k2, k3, k4, k5, k6, k7, k8, k9, k10⟩))
            (try simp only [Act.put, List.setIfInBounds_toArray, List.set_cons_zero, List.set_cons_succ])
            first | refine wpB_skip 26 rfl (by kernel_rfl) (by kernel_rfl) (by kernel_rfl) (by rfl) ?_ | (refine wpB_text 26 (v := ?_) rfl (by kernel_rfl) (by kernel_rfl) (by kernel_rfl) (by rfl) (fun W hW => ?_) ?_; rotate_left; (obtain ⟨k1, k2, k3, k4, k5, k6, k7, k8, k9, k10⟩ := hW;  go_simp; refine comes_v ?_; exact ⟨k1, k2, k3, k4, k5, k6, k7, k8, k9, k10⟩))
            (try simp only [Act.put, List.setIfInBounds_toArray, List.set_cons_zero, List.set_cons_succ])
            refine wpB_done (by kernel_rfl) ?_ _
            intro W hW; obtain ⟨k1, k2, k3, k4, k5, k6, k7, k8, k9, k10⟩ := hW
            clear e1 e2
            go_wp2_with fail
            go_ret
            exact ⟨ret_bool (by simp [hm]), k1⟩
        · refine (K4.out _).mono ?_; rintro e w4 ⟨rfl, hb4⟩
          obtain ⟨hc4, hf4⟩ := bcell hb4
          have z4_0 : w.heap.size < w4.heap.size := by (have := hb4.size; omega)
          have z4_1 : w.heap.size + 1 < w4.heap.size := by (have := hb4.size; omega)
          have z4_2 : w.heap.size + 2 < w4.heap.size := by (have := hb4.size; omega)
          have z4_3 : w.heap.size + 3 < w4.heap.size := by (have := hb4.size; omega)
          have B4 : Below w.heap.size w w4 := B3.trans (hb4.mono (by have := B3.size; omega))
          go_wp2_with fail
          go_ret
          exact ⟨rfl, B4⟩
      · refine (K3.out _).mono ?_; rintro e w3 ⟨rfl, hb3⟩
        obtain ⟨hc3, hf3⟩ := bcell hb3
        have z3_0 : w.heap.size < w3.heap.size := by (have := hb3.size; omega)
        have z3_1 : w.heap.size + 1 < w3.heap.size := by (have := hb3.size; omega)
        have z3_2 : w.heap.size + 2 < w3.heap.size := by (have := hb3.size; omega)
        have z3_3 : w.heap.size + 3 < w3.heap.size := by (have := hb3.size; omega)
        have B3 : Below w.heap.size w w3 := B2.trans (hb3.mono (by have := B2.size; omega))
        go_wp2_with fail
        go_ret
        exact ⟨rfl, B3⟩
    · refine (K2.out _).mono ?_; rintro e w2 ⟨rfl, hb2⟩
      obtain ⟨hc2, hf2⟩ := bcell hb2
      have z2_0 : w.heap.size < w2.heap.size := by (have := hb2.size; omega)
      have z2_1 : w.heap.size + 1 < w2.heap.size := by (have := hb2.size; omega)
      have z2_2 : w.heap.size + 2 < w2.heap.size := by (have := hb2.size; omega)
      have z2_3 : w.heap.size + 3 < w2.heap.size := by (have := hb2.size; omega)
      have B2 : Below w.heap.size w w2 := B1.trans (hb2.mono (by have := B1.size; omega))
      go_wp2_with fail
      go_ret
      exact ⟨rfl, B2⟩
  · go_enter Try.func106, Try.ntmps106
    go_wp2_with fail
    refine (K1.out _).mono ?_; rintro e w1 ⟨rfl, hb1⟩
    obtain ⟨hc1, hf1⟩ := bcell hb1
    have z1_0 : w.heap.size < w1.heap.size := by (have := hb1.size; simp at this; omega)
    have z1_1 : w.heap.size + 1 < w1.heap.size := by (have := hb1.size; simp at this; omega)
    have z1_2 : w.heap.size + 2 < w1.heap.size := by (have := hb1.size; simp at this; omega)
    have z1_3 : w.heap.size + 3 < w1.heap.size := by (have := hb1.size; simp at this; omega)
    have B1 : Below w.heap.size w w1 := (Below.alloc (Below.alloc (Below.alloc (Below.alloc (Below.refl _ _) (by simp <;> omega) _) (by simp <;> omega) _) (by simp <;> omega) _) (by simp <;> omega) _).trans (hb1.mono (by simp <;> omega))
    go_wp2_with fail
    go_ret
    exact ⟨rfl, B1⟩
end Go.Proofs.Ytieimijkkjhegaa
/- contract: the model's test of a polygon -/
namespace Go.Proofs.Ytieimijkkjhegaa
open Go.ChangeShapes Go.WideShapes Go.ChangeAt Go.RowKit Go.Joins
set_option linter.unusedVariables false
set_option linter.unusedSimpArgs false
set_option maxRecDepth 4000
set_option maxRecDepth 100000 in
set_option maxHeartbeats 4000000 in
theorem pgGood_any (A : Option Addr) (c : Nat) (l : List (Int × Int)) (w : World) (hn : l.length ≤ 1048576) (hcap : l.length ≤ c) (hc2 : c ≤ 9223372036854775807) (hR : Rd w w.heap.size A l) :
    Calls Try.prog 68 #[.slice A l.length c] w fun e w' => e = .returned (.bool (goodB l)) ∧ Below w.heap.size w w' := by
  by_cases hfew : 3 ≤ l.length ∧ l.length ≤ 10
  · have HR := Lib.hid hR
    clear hR
    have hL1 : ((3 : Int) ≤ (l.length : Int)) := by omega
    have hL2 : ((l.length : Int) ≤ 10) := by omega
    have HG := Lib.hid (fun h => goodB_false (l := l) h)
    have HT := Lib.hid (fun h => goodB_true (l := l) h)
    clear hfew
    have hrd : ∀ i, i < l.length → ∃ b off, A = some ⟨b, off, none⟩ ∧ b < w.heap.size ∧ ∀ i, i < l.length → w.cell? ⟨b, off + i * 2, none⟩ = some (.int .i64 (vx l i).1) ∧ w.cell? ⟨b, off + i * 2 + 1, none⟩ = some (.int .i64 (vx l i).2) := fun i hi => by
      obtain ⟨b, off, e, hb, hc⟩ := HR.out (by omega)
      exact ⟨b, off, e, hb, fun i hi => hc i _ (vx_get hi)⟩
    obtain ⟨b, off, rfl, hb, hcell⟩ := hrd 0 (by omega)
    have HC := Lib.hid hcell
    clear hrd hcell HR
    generalize hN : l.length = n at *
    have HN := Lib.hid hN
    clear hN
    go_enter Try.func68, Try.ntmps68
    go_wp2_with fail
    refine (l1In_any _ _ _ _).mono ?_; rintro e _ ⟨rfl, rfl⟩
    go_wp2_with fail
    go_loopg [19] n (fun g i wr => ∃ k : Nat, k ≤ n ∧ g = n - k ∧ i = .int .i64 k ∧ Below w.heap.size w wr ∧ Hid (Fine l k))
    case atStart => exact ⟨0, Nat.zero_le _, rfl, rfl, Below.refl _ _, Lib.hid (fun i h => absurd h (Nat.not_lt_zero _))⟩
    case round =>
      obtain ⟨k, hk, hg, rfl, hB, hF⟩ := hrel
      rename World => wo
      have HGK := Lib.hid hg
      clear hg
      by_cases hlt : k < n
      · have hq1 : wo.cell? ⟨b, off + k * 2, none⟩ = some (.int .i64 (vx l k).1) := (hB.cell (p := ⟨b, off + k * 2, none⟩) hb).trans (HC.out k hlt).1
        have hq2 : wo.cell? ⟨b, off + k * 2 + 1, none⟩ = some (.int .i64 (vx l k).2) := (hB.cell (p := ⟨b, off + k * 2 + 1, none⟩) hb).trans (HC.out k hlt).2
        have K1 := Lib.hid (fun W => pgIs_any (vx l k).1 (vx l k).2 W)
        have hzB := hB.size
        by_cases hpg : isPegB (vx l k).1 (vx l k).2 = true
        · rw [hpg] at K1
          have HPG := Lib.hid hpg
          clear hpg
          go_wp2_with fail
          refine (K1.out _).mono ?_; rintro e w1 ⟨rfl, hb1⟩
          have B1 := (Below.alloc hB hzB (.cells #[.int .i64 (vx l k).1, .int .i64 (vx l k).2] 42)).trans (hb1.mono (by simp; omega))
          have hz1 : wo.heap.size < w1.heap.size := by (have := hb1.size; simp at this; omega)
          have x1 : w1.cell? ⟨wo.heap.size, 0, none⟩ = some (.int .i64 (vx l k).1) := ((bcell hb1).1 _ _ (by simp)).trans (by go_simp)
          have x2 : w1.cell? ⟨wo.heap.size, 1, none⟩ = some (.int .i64 (vx l k).2) := ((bcell hb1).1 _ _ (by simp)).trans (by go_simp)
          clear hq1 hq2 K1 hb1
          go_wp2_with fail
          go_loopg [31] k (fun g2 j wi => ∃ m : Nat, m ≤ k ∧ g2 = k - m ∧ j = .int .i64 m ∧ Below w.heap.size w wi ∧ wo.heap.size < wi.heap.size ∧ wi.cell? ⟨wo.heap.size, 0, none⟩ = some (.int .i64 (vx l k).1) ∧ wi.cell? ⟨wo.heap.size, 1, none⟩ = some (.int .i64 (vx l k).2) ∧ Hid (∀ j, j < m → vx l k ≠ vx l j))
          case atStart => exact ⟨0, Nat.zero_le _, rfl, rfl, B1, hz1, x1, x2, Lib.hid (fun j h => absurd h (Nat.not_lt_zero _))⟩
          case round =>
            obtain ⟨m, hm, hg2, rfl, hBi, hzi, y1, y2, hD⟩ := hrel
            have HGM := Lib.hid hg2
            clear hg2 x1 x2 B1 hz1
            by_cases hlm : m < k
            · obtain ⟨q1, q2, hqe, hq1, hq2⟩ : ∃ q1 q2, vx l m = (q1, q2) ∧ wr.cell? ⟨b, off + m * 2, none⟩ = some (.int .i64 q1) ∧ wr.cell? ⟨b, off + m * 2 + 1, none⟩ = some (.int .i64 q2) :=
                ⟨(vx l m).1, (vx l m).2, rfl, (hBi.cell (p := ⟨b, off + m * 2, none⟩) hb).trans (HC.out m (by omega)).1, (hBi.cell (p := ⟨b, off + m * 2 + 1, none⟩) hb).trans (HC.out m (by omega)).2⟩
              have HQE := Lib.hid hqe
              clear hqe
              by_cases heq : (vx l k).1 = q1 ∧ (vx l k).2 = q2
              · have hng : Hid (goodB l = false) := Lib.hid (HG.out (fun h => h.diff k m hlm (by have := HN.out; omega) (by rw [HQE.out]; exact Prod.ext heq.1 heq.2)))
                obtain ⟨rfl, rfl⟩ := heq
                have B2 := Below.alloc hBi hBi.size (.cells #[.int .i64 (vx l k).1, .int .i64 (vx l k).2] 42)
                go_wp2_with fail
                go_ret
                exact ⟨ret_bool hng.out.symm, B2⟩
              · have hD2 : Hid (∀ j, j < m + 1 → vx l k ≠ vx l j) := Lib.hid (fun j hj => by
                  by_cases hjm : j = m
                  · subst hjm; intro e; rw [HQE.out] at e; exact heq ⟨by rw [e], by rw [e]⟩
                  · exact hD.out j (by omega))
                have B2 := Below.alloc hBi hBi.size (.cells #[.int .i64 q1, .int .i64 q2] 42)
                have z2 : wo.heap.size < (wr.alloc (.cells #[.int .i64 q1, .int .i64 q2] 42)).heap.size := by simp; omega
                have Y3 := Lib.hid ((World.cell?_alloc_lt wr (.cells #[.int .i64 q1, .int .i64 q2] 42) ⟨wo.heap.size, 0, none⟩ hzi).trans y1)
                have Y4 := Lib.hid ((World.cell?_alloc_lt wr (.cells #[.int .i64 q1, .int .i64 q2] 42) ⟨wo.heap.size, 1, none⟩ hzi).trans y2)
                clear hD
                by_cases h1 : (vx l k).1 = q1
                · have h2 : ¬ (vx l k).2 = q2 := fun h => heq ⟨h1, h⟩
                  clear heq
                  subst h1
                  go_wp2_with fail
                  go_roundg (k - (m + 1))
                  case measure => have := HGM.out; omega
                  case rel => exact ⟨m + 1, by omega, rfl, by go_num, B2, z2, Y3.out, Y4.out, hD2⟩
                · clear heq
                  go_wp2_with fail
                  go_roundg (k - (m + 1))
                  case measure => have := HGM.out; omega
                  case rel => exact ⟨m + 1, by omega, rfl, by go_num, B2, z2, Y3.out, Y4.out, hD2⟩
            · have hmk : m = k := by omega
              have hF2 : Hid (Fine l (k + 1)) := Lib.hid (fun i hi => by
                by_cases hik : i = k
                · subst hik; exact ⟨HPG.out, fun j hj => hD.out j (by omega)⟩
                · exact hF.out i (by omega))
              clear hD hF
              go_wp2_with fail
              go_roundg (n - (k + 1))
              case measure => have := HGK.out; omega
              case rel => exact ⟨k + 1, by omega, rfl, by go_num, hBi, hF2⟩
        · have hpf : isPegB (vx l k).1 (vx l k).2 = false := by simpa using hpg
          rw [hpf] at K1
          have hng : Hid (goodB l = false) := Lib.hid (HG.out (fun h => hpg (h.pegs k (by have := HN.out; omega))))
          clear hpg hpf
          go_wp2_with fail
          refine (K1.out _).mono ?_; rintro e w1 ⟨rfl, hb1⟩
          have B1 := (Below.alloc hB hzB (.cells #[.int .i64 (vx l k).1, .int .i64 (vx l k).2] 42)).trans (hb1.mono (by simp; omega))
          go_wp2_with fail
          go_ret
          exact ⟨ret_bool hng.out.symm, B1⟩
      · have hkn : n = k := by omega
        subst hkn
        have HF := hF
        clear hF HGK hlt hk HG
        have HG := Lib.hid (fun h => goodB_false (l := l) h)
        go_wp2_with fail
        go_loopg [42] n (fun g i wr => ∃ k : Nat, k ≤ n ∧ g = n - k ∧ i = .int .i64 k ∧ Below w.heap.size w wr ∧ Hid (Apart l k))
        case atStart => exact ⟨0, Nat.zero_le _, rfl, rfl, hB, Lib.hid (fun i h => absurd h (Nat.not_lt_zero _))⟩
        case round =>
          clear hB
          obtain ⟨k, hk, hg, rfl, hB, hA⟩ := hrel
          rename World => wo
          have HGK := Lib.hid hg
          clear hg
          by_cases hlt : k < n
          · have m1 : (k + 1) % n < n := Nat.mod_lt _ (by omega)
            have m2 : (k + 2) % n < n := Nat.mod_lt _ (by omega)
            have p1 : wo.cell? ⟨b, off + k * 2, none⟩ = some (.int .i64 (vx l k).1) := (hB.cell (p := ⟨b, off + k * 2, none⟩) hb).trans (HC.out k hlt).1
            have p2 : wo.cell? ⟨b, off + k * 2 + 1, none⟩ = some (.int .i64 (vx l k).2) := (hB.cell (p := ⟨b, off + k * 2 + 1, none⟩) hb).trans (HC.out k hlt).2
            have p3 : wo.cell? ⟨b, off + (k + 1) % n * 2, none⟩ = some (.int .i64 (vx l ((k + 1) % n)).1) := (hB.cell (p := ⟨b, off + (k + 1) % n * 2, none⟩) hb).trans (HC.out _ m1).1
            have p4 : wo.cell? ⟨b, off + (k + 1) % n * 2 + 1, none⟩ = some (.int .i64 (vx l ((k + 1) % n)).2) := (hB.cell (p := ⟨b, off + (k + 1) % n * 2 + 1, none⟩) hb).trans (HC.out _ m1).2
            have hzB := hB.size
            have hbo : b < wo.heap.size := by omega
            have i1 : (0 : Int) ≤ ((k : Int) + 1) % (n : Int) := Int.emod_nonneg _ (by omega)
            have i2 : ((k : Int) + 1) % (n : Int) < (n : Int) := Int.emod_lt_of_pos _ (by omega)
            have kp : ∀ W W', (Below w.heap.size w W ∧ wo.heap.size + 1 < W.heap.size ∧ W.cell? ⟨wo.heap.size, 0, none⟩ = some (.int .i64 (vx l k).1) ∧ W.cell? ⟨wo.heap.size, 1, none⟩ = some (.int .i64 (vx l k).2) ∧ W.cell? ⟨wo.heap.size + 1, 0, none⟩ = some (.int .i64 (vx l ((k + 1) % n)).1) ∧ W.cell? ⟨wo.heap.size + 1, 1, none⟩ = some (.int .i64 (vx l ((k + 1) % n)).2)) → Below W.heap.size W W' → (Below w.heap.size w W' ∧ wo.heap.size + 1 < W'.heap.size ∧ W'.cell? ⟨wo.heap.size, 0, none⟩ = some (.int .i64 (vx l k).1) ∧ W'.cell? ⟨wo.heap.size, 1, none⟩ = some (.int .i64 (vx l k).2) ∧ W'.cell? ⟨wo.heap.size + 1, 0, none⟩ = some (.int .i64 (vx l ((k + 1) % n)).1) ∧ W'.cell? ⟨wo.heap.size + 1, 1, none⟩ = some (.int .i64 (vx l ((k + 1) % n)).2)) := fun W W' h hb => by
              obtain ⟨h1, h2, h3, h4, h5, h6⟩ := h
              have hc := (bcell hb).1
              have hz := hb.size
              exact ⟨h1.trans (hb.mono h1.size), by omega, by rw [hc _ _ (by omega), h3], by rw [hc _ _ (by omega), h4], by rw [hc _ _ (by omega), h5], by rw [hc _ _ (by omega), h6]⟩
            have KP := Lib.hid kp
            clear kp
            have bx : (Below w.heap.size w ((wo.alloc (.cells #[.int .i64 (vx l k).1, .int .i64 (vx l k).2] 42)).alloc (.cells #[.int .i64 (vx l ((k + 1) % n)).1, .int .i64 (vx l ((k + 1) % n)).2] 42)) ∧ wo.heap.size + 1 < ((wo.alloc (.cells #[.int .i64 (vx l k).1, .int .i64 (vx l k).2] 42)).alloc (.cells #[.int .i64 (vx l ((k + 1) % n)).1, .int .i64 (vx l ((k + 1) % n)).2] 42)).heap.size ∧ ((wo.alloc (.cells #[.int .i64 (vx l k).1, .int .i64 (vx l k).2] 42)).alloc (.cells #[.int .i64 (vx l ((k + 1) % n)).1, .int .i64 (vx l ((k + 1) % n)).2] 42)).cell? ⟨wo.heap.size, 0, none⟩ = some (.int .i64 (vx l k).1) ∧ ((wo.alloc (.cells #[.int .i64 (vx l k).1, .int .i64 (vx l k).2] 42)).alloc (.cells #[.int .i64 (vx l ((k + 1) % n)).1, .int .i64 (vx l ((k + 1) % n)).2] 42)).cell? ⟨wo.heap.size, 1, none⟩ = some (.int .i64 (vx l k).2) ∧ ((wo.alloc (.cells #[.int .i64 (vx l k).1, .int .i64 (vx l k).2] 42)).alloc (.cells #[.int .i64 (vx l ((k + 1) % n)).1, .int .i64 (vx l ((k + 1) % n)).2] 42)).cell? ⟨wo.heap.size + 1, 0, none⟩ = some (.int .i64 (vx l ((k + 1) % n)).1) ∧ ((wo.alloc (.cells #[.int .i64 (vx l k).1, .int .i64 (vx l k).2] 42)).alloc (.cells #[.int .i64 (vx l ((k + 1) % n)).1, .int .i64 (vx l ((k + 1) % n)).2] 42)).cell? ⟨wo.heap.size + 1, 1, none⟩ = some (.int .i64 (vx l ((k + 1) % n)).2)) :=
              ⟨Below.alloc (Below.alloc hB hzB _) (by simp; omega) _, by simp, by go_simp, by go_simp, by go_simp, by go_simp⟩
            have BX := Lib.hid bx
            clear bx
            have c3 : ∀ W, Below w.heap.size w W → W.cell? ⟨b, off + (k + 2) % n * 2, none⟩ = some (.int .i64 (vx l ((k + 2) % n)).1) ∧ W.cell? ⟨b, off + (k + 2) % n * 2 + 1, none⟩ = some (.int .i64 (vx l ((k + 2) % n)).2) := fun W hW =>
              ⟨(hW.cell (p := ⟨b, off + (k + 2) % n * 2, none⟩) hb).trans (HC.out _ m2).1, (hW.cell (p := ⟨b, off + (k + 2) % n * 2 + 1, none⟩) hb).trans (HC.out _ m2).2⟩
            have C3 := Lib.hid c3
            clear c3
            go_wp2_with fail
            clear p1 p2 p3 p4 i1 i2
            have e1 : IntKind.i64.wrap ((k : Int) + 2) = (k : Int) + 2 := IntWalk.i64_in _ (by omega)
            have e2 : ¬ n = 0 := by omega
            have e3 : (0 : Int) ≤ ((k : Int) + 2) % (n : Int) := Int.emod_nonneg _ (by omega)
            have e4 : ((k : Int) + 2) % (n : Int) < (n : Int) := Int.emod_lt_of_pos _ (by omega)
            have e5 : ((k : Int) + 2).tmod (n : Int) = ((k : Int) + 2) % (n : Int) := Int.tmod_eq_emod_of_nonneg (by omega)
            have e6 : (((k : Int) + 2) % (n : Int)).toNat = (k + 2) % n := by rw [show ((k : Int) + 2) % (n : Int) = (((k + 2) % n : Nat) : Int) by simp]; exact Int.toNat_natCast _
            have z1 := sz_of (x := (vx l k).1) (y := (vx l k).2) (HF.out k hlt).1
            have z2 := sz_of (x := (vx l ((k + 1) % n)).1) (y := (vx l ((k + 1) % n)).2) (HF.out _ m1).1
            have z3 := sz_of (x := (vx l ((k + 2) % n)).1) (y := (vx l ((k + 2) % n)).2) (HF.out _ m2).1
            have T := Lib.hid (fun W => pgTurn_any (vx l k).1 (vx l k).2 (vx l ((k + 1) % n)).1 (vx l ((k + 1) % n)).2 (vx l ((k + 2) % n)).1 (vx l ((k + 2) % n)).2 W z1 z2 z3)
            have ht : twI (vx l k).1 (vx l k).2 (vx l ((k + 1) % n)).1 (vx l ((k + 1) % n)).2 (vx l ((k + 2) % n)).1 (vx l ((k + 2) % n)).2 = twP (vx l k) (vx l (k + 1)) (vx l (k + 2)) := by
              unfold twP; rw [← HN.out, vx_per, vx_per]
            rw [ht] at T
            clear z1 z2 z3 ht
            by_cases hz : twP (vx l k) (vx l (k + 1)) (vx l (k + 2)) = 0
            · rw [hz] at T
              have hng : Hid (goodB l = false) := Lib.hid (HG.out (fun h => h.turn k (by have := HN.out; omega) hz))
              clear hz
              refine wp_region_B (fun W => (Below w.heap.size w W ∧ wo.heap.size + 1 < W.heap.size ∧ W.cell? ⟨wo.heap.size, 0, none⟩ = some (.int .i64 (vx l k).1) ∧ W.cell? ⟨wo.heap.size, 1, none⟩ = some (.int .i64 (vx l k).2) ∧ W.cell? ⟨wo.heap.size + 1, 0, none⟩ = some (.int .i64 (vx l ((k + 1) % n)).1) ∧ W.cell? ⟨wo.heap.size + 1, 1, none⟩ = some (.int .i64 (vx l ((k + 1) % n)).2))) (by kernel_rfl) (KP.out _ _ BX.out ((Below.refl _ _).drew)) ?_
              first | refine wpB_skip 0 rfl (by kernel_rfl) (by kernel_rfl) (by kernel_rfl) (by rfl) ?_ | (refine wpB_text 0 (v := ?_) rfl (by kernel_rfl) (by kernel_rfl) (by kernel_rfl) (by rfl) (fun W hW => ?_) ?_; rotate_left; (obtain ⟨k1, k2, k3, k4, k5, k6⟩ := hW; have c4 := C3.out W k1; go_simp; refine comes_v ?_; exact ⟨k1, k2, k3, k4, k5, k6⟩))
              (try simp only [Act.put, List.setIfInBounds_toArray, List.set_cons_zero, List.set_cons_succ])
              first | refine wpB_skip 1 rfl (by kernel_rfl) (by kernel_rfl) (by kernel_rfl) (by rfl) ?_ | (refine wpB_text 1 (v := ?_) rfl (by kernel_rfl) (by kernel_rfl) (by kernel_rfl) (by rfl) (fun W hW => ?_) ?_; rotate_left; (obtain ⟨k1, k2, k3, k4, k5, k6⟩ := hW; have c4 := C3.out W k1; go_simp; refine comes_v ?_; exact ⟨k1, k2, k3, k4, k5, k6⟩))
              (try simp only [Act.put, List.setIfInBounds_toArray, List.set_cons_zero, List.set_cons_succ])
              first | refine wpB_skip 2 rfl (by kernel_rfl) (by kernel_rfl) (by kernel_rfl) (by rfl) ?_ | (refine wpB_text 2 (v := ?_) rfl (by kernel_rfl) (by kernel_rfl) (by kernel_rfl) (by rfl) (fun W hW => ?_) ?_; rotate_left; (obtain ⟨k1, k2, k3, k4, k5, k6⟩ := hW; have c4 := C3.out W k1; go_simp; refine comes_v ?_; exact ⟨k1, k2, k3, k4, k5, k6⟩))
              (try simp only [Act.put, List.setIfInBounds_toArray, List.set_cons_zero, List.set_cons_succ])
              first | refine wpB_skip 3 rfl (by kernel_rfl) (by kernel_rfl) (by kernel_rfl) (by rfl) ?_ | (refine wpB_text 3 (v := ?_) rfl (by kernel_rfl) (by kernel_rfl) (by kernel_rfl) (by rfl) (fun W hW => ?_) ?_; rotate_left; (obtain ⟨k1, k2, k3, k4, k5, k6⟩ := hW; have c4 := C3.out W k1; go_simp; refine comes_v ?_; exact ⟨k1, k2, k3, k4, k5, k6⟩))
              (try simp only [Act.put, List.setIfInBounds_toArray, List.set_cons_zero, List.set_cons_succ])
              first | refine wpB_skip 4 rfl (by kernel_rfl) (by kernel_rfl) (by kernel_rfl) (by rfl) ?_ | (refine wpB_text 4 (v := ?_) rfl (by kernel_rfl) (by kernel_rfl) (by kernel_rfl) (by rfl) (fun W hW => ?_) ?_; rotate_left; (obtain ⟨k1, k2, k3, k4, k5, k6⟩ := hW; have c4 := C3.out W k1; go_simp; refine comes_v ?_; exact ⟨k1, k2, k3, k4, k5, k6⟩))
              (try simp only [Act.put, List.setIfInBounds_toArray, List.set_cons_zero, List.set_cons_succ])
              first | refine wpB_skip 5 rfl (by kernel_rfl) (by kernel_rfl) (by kernel_rfl) (by rfl) ?_ | (refine wpB_text 5 (v := ?_) rfl (by kernel_rfl) (by kernel_rfl) (by kernel_rfl) (by rfl) (fun W hW => ?_) ?_; rotate_left; (obtain ⟨k1, k2, k3, k4, k5, k6⟩ := hW; have c4 := C3.out W k1; go_simp; refine comes_v ?_; exact ⟨k1, k2, k3, k4, k5, k6⟩))
              (try simp only [Act.put, List.setIfInBounds_toArray, List.set_cons_zero, List.set_cons_succ])
              first | refine wpB_skip 6 rfl (by kernel_rfl) (by kernel_rfl) (by kernel_rfl) (by rfl) ?_ | (refine wpB_text 6 (v := ?_) rfl (by kernel_rfl) (by kernel_rfl) (by kernel_rfl) (by rfl) (fun W hW => ?_) ?_; rotate_left; (obtain ⟨k1, k2, k3, k4, k5, k6⟩ := hW; have c4 := C3.out W k1; go_simp; refine comes_v ?_; exact ⟨k1, k2, k3, k4, k5, k6⟩))
              (try simp only [Act.put, List.setIfInBounds_toArray, List.set_cons_zero, List.set_cons_succ])
              first | refine wpB_skip 7 rfl (by kernel_rfl) (by kernel_rfl) (by kernel_rfl) (by rfl) ?_ | (refine wpB_text 7 (v := ?_) rfl (by kernel_rfl) (by kernel_rfl) (by kernel_rfl) (by rfl) (fun W hW => ?_) ?_; rotate_left; (obtain ⟨k1, k2, k3, k4, k5, k6⟩ := hW; have c4 := C3.out W k1; go_simp; refine comes_v ?_; exact ⟨k1, k2, k3, k4, k5, k6⟩))
              (try simp only [Act.put, List.setIfInBounds_toArray, List.set_cons_zero, List.set_cons_succ])
              first | refine wpB_skip 8 rfl (by kernel_rfl) (by kernel_rfl) (by kernel_rfl) (by rfl) ?_ | (refine wpB_text 8 (v := ?_) rfl (by kernel_rfl) (by kernel_rfl) (by kernel_rfl) (by rfl) (fun W hW => ?_) ?_; rotate_left; (obtain ⟨k1, k2, k3, k4, k5, k6⟩ := hW; have c4 := C3.out W k1; go_simp; refine comes_v ?_; exact ⟨k1, k2, k3, k4, k5, k6⟩))
              (try simp only [Act.put, List.setIfInBounds_toArray, List.set_cons_zero, List.set_cons_succ])
              first | refine wpB_skip 9 rfl (by kernel_rfl) (by kernel_rfl) (by kernel_rfl) (by rfl) ?_ | (refine wpB_text 9 (v := .int .i64 0) rfl (by kernel_rfl) (by kernel_rfl) (by kernel_rfl) (by rfl) (fun W hW => ?_) ?_; (obtain ⟨k1, k2, k3, k4, k5, k6⟩ := hW; have c4 := C3.out W k1; go_simp; exact comes_c ( T.out _) (fun wn hbn => KP.out _ _ ⟨k1, k2, k3, k4, k5, k6⟩ hbn)))
              (try simp only [Act.put, List.setIfInBounds_toArray, List.set_cons_zero, List.set_cons_succ])
              first | refine wpB_skip 10 rfl (by kernel_rfl) (by kernel_rfl) (by kernel_rfl) (by rfl) ?_ | (refine wpB_text 10 (v := ?_) rfl (by kernel_rfl) (by kernel_rfl) (by kernel_rfl) (by rfl) (fun W hW => ?_) ?_; rotate_left; (obtain ⟨k1, k2, k3, k4, k5, k6⟩ := hW; have c4 := C3.out W k1; go_simp; refine comes_v ?_; exact ⟨k1, k2, k3, k4, k5, k6⟩))
              (try simp only [Act.put, List.setIfInBounds_toArray, List.set_cons_zero, List.set_cons_succ])
              refine wpB_done (by kernel_rfl) ?_ _
              intro W hW; obtain ⟨k1, k2, k3, k4, k5, k6⟩ := hW
              go_wp2_with fail
              go_ret
              exact ⟨ret_bool hng.out.symm, k1⟩
            · have HTW : Hid (Turns l k) := Lib.hid hz
              have hzb : (twP (vx l k) (vx l (k + 1)) (vx l (k + 2)) == 0) = false := by simpa using hz
              generalize twP (vx l k) (vx l (k + 1)) (vx l (k + 2)) = t at *
              refine wp_region_B (fun W => (Below w.heap.size w W ∧ wo.heap.size + 1 < W.heap.size ∧ W.cell? ⟨wo.heap.size, 0, none⟩ = some (.int .i64 (vx l k).1) ∧ W.cell? ⟨wo.heap.size, 1, none⟩ = some (.int .i64 (vx l k).2) ∧ W.cell? ⟨wo.heap.size + 1, 0, none⟩ = some (.int .i64 (vx l ((k + 1) % n)).1) ∧ W.cell? ⟨wo.heap.size + 1, 1, none⟩ = some (.int .i64 (vx l ((k + 1) % n)).2))) (by kernel_rfl) (KP.out _ _ BX.out ((Below.refl _ _).drew)) ?_
              first | refine wpB_skip 0 rfl (by kernel_rfl) (by kernel_rfl) (by kernel_rfl) (by rfl) ?_ | (refine wpB_text 0 (v := ?_) rfl (by kernel_rfl) (by kernel_rfl) (by kernel_rfl) (by rfl) (fun W hW => ?_) ?_; rotate_left; (obtain ⟨k1, k2, k3, k4, k5, k6⟩ := hW; have c4 := C3.out W k1; go_simp; refine comes_v ?_; exact ⟨k1, k2, k3, k4, k5, k6⟩))
              (try simp only [Act.put, List.setIfInBounds_toArray, List.set_cons_zero, List.set_cons_succ])
              first | refine wpB_skip 1 rfl (by kernel_rfl) (by kernel_rfl) (by kernel_rfl) (by rfl) ?_ | (refine wpB_text 1 (v := ?_) rfl (by kernel_rfl) (by kernel_rfl) (by kernel_rfl) (by rfl) (fun W hW => ?_) ?_; rotate_left; (obtain ⟨k1, k2, k3, k4, k5, k6⟩ := hW; have c4 := C3.out W k1; go_simp; refine comes_v ?_; exact ⟨k1, k2, k3, k4, k5, k6⟩))
              (try simp only [Act.put, List.setIfInBounds_toArray, List.set_cons_zero, List.set_cons_succ])
              first | refine wpB_skip 2 rfl (by kernel_rfl) (by kernel_rfl) (by kernel_rfl) (by rfl) ?_ | (refine wpB_text 2 (v := ?_) rfl (by kernel_rfl) (by kernel_rfl) (by kernel_rfl) (by rfl) (fun W hW => ?_) ?_; rotate_left; (obtain ⟨k1, k2, k3, k4, k5, k6⟩ := hW; have c4 := C3.out W k1; go_simp; refine comes_v ?_; exact ⟨k1, k2, k3, k4, k5, k6⟩))
              (try simp only [Act.put, List.setIfInBounds_toArray, List.set_cons_zero, List.set_cons_succ])
              first | refine wpB_skip 3 rfl (by kernel_rfl) (by kernel_rfl) (by kernel_rfl) (by rfl) ?_ | (refine wpB_text 3 (v := ?_) rfl (by kernel_rfl) (by kernel_rfl) (by kernel_rfl) (by rfl) (fun W hW => ?_) ?_; rotate_left; (obtain ⟨k1, k2, k3, k4, k5, k6⟩ := hW; have c4 := C3.out W k1; go_simp; refine comes_v ?_; exact ⟨k1, k2, k3, k4, k5, k6⟩))
              (try simp only [Act.put, List.setIfInBounds_toArray, List.set_cons_zero, List.set_cons_succ])
              first | refine wpB_skip 4 rfl (by kernel_rfl) (by kernel_rfl) (by kernel_rfl) (by rfl) ?_ | (refine wpB_text 4 (v := ?_) rfl (by kernel_rfl) (by kernel_rfl) (by kernel_rfl) (by rfl) (fun W hW => ?_) ?_; rotate_left; (obtain ⟨k1, k2, k3, k4, k5, k6⟩ := hW; have c4 := C3.out W k1; go_simp; refine comes_v ?_; exact ⟨k1, k2, k3, k4, k5, k6⟩))
              (try simp only [Act.put, List.setIfInBounds_toArray, List.set_cons_zero, List.set_cons_succ])
              first | refine wpB_skip 5 rfl (by kernel_rfl) (by kernel_rfl) (by kernel_rfl) (by rfl) ?_ | (refine wpB_text 5 (v := ?_) rfl (by kernel_rfl) (by kernel_rfl) (by kernel_rfl) (by rfl) (fun W hW => ?_) ?_; rotate_left; (obtain ⟨k1, k2, k3, k4, k5, k6⟩ := hW; have c4 := C3.out W k1; go_simp; refine comes_v ?_; exact ⟨k1, k2, k3, k4, k5, k6⟩))
              (try simp only [Act.put, List.setIfInBounds_toArray, List.set_cons_zero, List.set_cons_succ])
              first | refine wpB_skip 6 rfl (by kernel_rfl) (by kernel_rfl) (by kernel_rfl) (by rfl) ?_ | (refine wpB_text 6 (v := ?_) rfl (by kernel_rfl) (by kernel_rfl) (by kernel_rfl) (by rfl) (fun W hW => ?_) ?_; rotate_left; (obtain ⟨k1, k2, k3, k4, k5, k6⟩ := hW; have c4 := C3.out W k1; go_simp; refine comes_v ?_; exact ⟨k1, k2, k3, k4, k5, k6⟩))
              (try simp only [Act.put, List.setIfInBounds_toArray, List.set_cons_zero, List.set_cons_succ])
              first | refine wpB_skip 7 rfl (by kernel_rfl) (by kernel_rfl) (by kernel_rfl) (by rfl) ?_ | (refine wpB_text 7 (v := ?_) rfl (by kernel_rfl) (by kernel_rfl) (by kernel_rfl) (by rfl) (fun W hW => ?_) ?_; rotate_left; (obtain ⟨k1, k2, k3, k4, k5, k6⟩ := hW; have c4 := C3.out W k1; go_simp; refine comes_v ?_; exact ⟨k1, k2, k3, k4, k5, k6⟩))
              (try simp only [Act.put, List.setIfInBounds_toArray, List.set_cons_zero, List.set_cons_succ])
              first | refine wpB_skip 8 rfl (by kernel_rfl) (by kernel_rfl) (by kernel_rfl) (by rfl) ?_ | (refine wpB_text 8 (v := ?_) rfl (by kernel_rfl) (by kernel_rfl) (by kernel_rfl) (by rfl) (fun W hW => ?_) ?_; rotate_left; (obtain ⟨k1, k2, k3, k4, k5, k6⟩ := hW; have c4 := C3.out W k1; go_simp; refine comes_v ?_; exact ⟨k1, k2, k3, k4, k5, k6⟩))
              (try simp only [Act.put, List.setIfInBounds_toArray, List.set_cons_zero, List.set_cons_succ])
              first | refine wpB_skip 9 rfl (by kernel_rfl) (by kernel_rfl) (by kernel_rfl) (by rfl) ?_ | (refine wpB_text 9 (v := .int .i64 t) rfl (by kernel_rfl) (by kernel_rfl) (by kernel_rfl) (by rfl) (fun W hW => ?_) ?_; (obtain ⟨k1, k2, k3, k4, k5, k6⟩ := hW; have c4 := C3.out W k1; go_simp; exact comes_c ( T.out _) (fun wn hbn => KP.out _ _ ⟨k1, k2, k3, k4, k5, k6⟩ hbn)))
              (try simp only [Act.put, List.setIfInBounds_toArray, List.set_cons_zero, List.set_cons_succ])
              first | refine wpB_skip 10 rfl (by kernel_rfl) (by kernel_rfl) (by kernel_rfl) (by rfl) ?_ | (refine wpB_text 10 (v := ?_) rfl (by kernel_rfl) (by kernel_rfl) (by kernel_rfl) (by rfl) (fun W hW => ?_) ?_; rotate_left; (obtain ⟨k1, k2, k3, k4, k5, k6⟩ := hW; have c4 := C3.out W k1; go_simp; refine comes_v ?_; exact ⟨k1, k2, k3, k4, k5, k6⟩))
              (try simp only [Act.put, List.setIfInBounds_toArray, List.set_cons_zero, List.set_cons_succ])
              refine wpB_done (by kernel_rfl) ?_ _
              intro W hW; obtain ⟨k1, k2, k3, k4, k5, k6⟩ := hW
              go_wp2_with fail
              clear e1 e2 e3 e4 e5 e6 T hzb
              go_loopg [11] (n + 1 - (k + 2)) (fun g2 j wi => ∃ m : Nat, k + 2 ≤ m ∧ m ≤ n + 1 ∧ g2 = n + 1 - m ∧ j = .int .i64 m ∧ (Below w.heap.size w wi ∧ wo.heap.size + 1 < wi.heap.size ∧ wi.cell? ⟨wo.heap.size, 0, none⟩ = some (.int .i64 (vx l k).1) ∧ wi.cell? ⟨wo.heap.size, 1, none⟩ = some (.int .i64 (vx l k).2) ∧ wi.cell? ⟨wo.heap.size + 1, 0, none⟩ = some (.int .i64 (vx l ((k + 1) % n)).1) ∧ wi.cell? ⟨wo.heap.size + 1, 1, none⟩ = some (.int .i64 (vx l ((k + 1) % n)).2)) ∧ Hid (∀ q, k + 2 ≤ q → q < m → q < n → q + 1 < n + k → meP (vx l k) (vx l (k + 1)) (vx l q) (vx l (q + 1)) = false))
              case atStart => exact ⟨k + 2, by omega, by omega, rfl, by go_num, ⟨k1, k2, k3, k4, k5, k6⟩, Lib.hid (fun q h1 h2 => absurd h2 (by omega))⟩
              case round =>
                clear k1 k2 k3 k4 k5 k6 BX
                obtain ⟨m, hm1, hm2, hg2, rfl, ⟨k1, k2, k3, k4, k5, k6⟩, hM⟩ := hrel
                have HGM := Lib.hid hg2
                clear hg2
                by_cases c1 : m < n
                · by_cases c2 : m + 1 < n + k
                  · have d1 : ((m : Int) < (n : Int)) := by omega
                    have d2 : ((m : Int) - (k : Int) < (n : Int) - 1) := by omega
                    have m3 : (m + 1) % n < n := Nat.mod_lt _ (by omega)
                    have c3 : ∀ W, Below w.heap.size w W → (W.cell? ⟨b, off + m * 2, none⟩ = some (.int .i64 (vx l m).1) ∧ W.cell? ⟨b, off + m * 2 + 1, none⟩ = some (.int .i64 (vx l m).2)) ∧ W.cell? ⟨b, off + (m + 1) % n * 2, none⟩ = some (.int .i64 (vx l ((m + 1) % n)).1) ∧ W.cell? ⟨b, off + (m + 1) % n * 2 + 1, none⟩ = some (.int .i64 (vx l ((m + 1) % n)).2) := fun W hW =>
                      ⟨⟨(hW.cell (p := ⟨b, off + m * 2, none⟩) hb).trans (HC.out _ c1).1, (hW.cell (p := ⟨b, off + m * 2 + 1, none⟩) hb).trans (HC.out _ c1).2⟩, (hW.cell (p := ⟨b, off + (m + 1) % n * 2, none⟩) hb).trans (HC.out _ m3).1, (hW.cell (p := ⟨b, off + (m + 1) % n * 2 + 1, none⟩) hb).trans (HC.out _ m3).2⟩
                    have C5 := Lib.hid c3
                    clear c3
                    have z1 := sz_of (x := (vx l k).1) (y := (vx l k).2) (HF.out k hlt).1
                    have z2 := sz_of (x := (vx l ((k + 1) % n)).1) (y := (vx l ((k + 1) % n)).2) (HF.out _ m1).1
                    have z3 := sz_of (x := (vx l m).1) (y := (vx l m).2) (HF.out _ c1).1
                    have z4 := sz_of (x := (vx l ((m + 1) % n)).1) (y := (vx l ((m + 1) % n)).2) (HF.out _ m3).1
                    have M := Lib.hid (fun W => pgMeet_any (vx l k).1 (vx l k).2 (vx l ((k + 1) % n)).1 (vx l ((k + 1) % n)).2 (vx l m).1 (vx l m).2 (vx l ((m + 1) % n)).1 (vx l ((m + 1) % n)).2 W z1 z2 z3 z4)
                    have ht : meetB (vx l k).1 (vx l k).2 (vx l ((k + 1) % n)).1 (vx l ((k + 1) % n)).2 (vx l m).1 (vx l m).2 (vx l ((m + 1) % n)).1 (vx l ((m + 1) % n)).2 = meP (vx l k) (vx l (k + 1)) (vx l m) (vx l (m + 1)) := by
                      unfold meP; rw [← HN.out, vx_per, vx_per]
                    rw [ht] at M
                    clear z1 z2 z3 z4 ht
                    have hk0 : (Below w.heap.size w wr ∧ wo.heap.size + 1 < wr.heap.size ∧ wr.cell? ⟨wo.heap.size, 0, none⟩ = some (.int .i64 (vx l k).1) ∧ wr.cell? ⟨wo.heap.size, 1, none⟩ = some (.int .i64 (vx l k).2) ∧ wr.cell? ⟨wo.heap.size + 1, 0, none⟩ = some (.int .i64 (vx l ((k + 1) % n)).1) ∧ wr.cell? ⟨wo.heap.size + 1, 1, none⟩ = some (.int .i64 (vx l ((k + 1) % n)).2))
                      := ⟨k1, k2, k3, k4, k5, k6⟩
                    have HK0 := Lib.hid hk0
                    clear hk0
                    by_cases hmt : meP (vx l k) (vx l (k + 1)) (vx l m) (vx l (m + 1)) = true
                    · rw [hmt] at M
                      have hng : Hid (goodB l = false) := Lib.hid (HG.out (fun h => by have := h.apart k m hm1 (by have := HN.out; omega) (by have := HN.out; omega); rw [hmt] at this; cases this))
                      clear hmt
                      go_wp2_with fail
                      have e1 : IntKind.i64.wrap ((m : Int) + 1) = (m : Int) + 1 := IntWalk.i64_in _ (by omega)
                      have e2 : ¬ n = 0 := by omega
                      have e3 : (0 : Int) ≤ ((m : Int) + 1) % (n : Int) := Int.emod_nonneg _ (by omega)
                      have e4 : ((m : Int) + 1) % (n : Int) < (n : Int) := Int.emod_lt_of_pos _ (by omega)
                      have e5 : ((m : Int) + 1).tmod (n : Int) = ((m : Int) + 1) % (n : Int) := Int.tmod_eq_emod_of_nonneg (by omega)
                      have e6 : (((m : Int) + 1) % (n : Int)).toNat = (m + 1) % n := by rw [show ((m : Int) + 1) % (n : Int) = (((m + 1) % n : Nat) : Int) by simp]; exact Int.toNat_natCast _
                      refine wp_region_B (fun W => (Below w.heap.size w W ∧ wo.heap.size + 1 < W.heap.size ∧ W.cell? ⟨wo.heap.size, 0, none⟩ = some (.int .i64 (vx l k).1) ∧ W.cell? ⟨wo.heap.size, 1, none⟩ = some (.int .i64 (vx l k).2) ∧ W.cell? ⟨wo.heap.size + 1, 0, none⟩ = some (.int .i64 (vx l ((k + 1) % n)).1) ∧ W.cell? ⟨wo.heap.size + 1, 1, none⟩ = some (.int .i64 (vx l ((k + 1) % n)).2))) (by kernel_rfl) (KP.out _ _ HK0.out ((Below.refl _ _).drew)) ?_
                      clear k1 k2 k3 k4 k5 k6
                      first | refine wpB_skip 0 rfl (by kernel_rfl) (by kernel_rfl) (by kernel_rfl) (by rfl) ?_ | (refine wpB_text 0 (v := ?_) rfl (by kernel_rfl) (by kernel_rfl) (by kernel_rfl) (by rfl) (fun W hW => ?_) ?_; rotate_left; (obtain ⟨k1, k2, k3, k4, k5, k6⟩ := hW; have c4 := (C5.out W k1).1; have c5 := (C5.out W k1).2; go_simp; refine comes_v ?_; exact ⟨k1, k2, k3, k4, k5, k6⟩))
                      (try simp only [Act.put, List.setIfInBounds_toArray, List.set_cons_zero, List.set_cons_succ])
                      first | refine wpB_skip 1 rfl (by kernel_rfl) (by kernel_rfl) (by kernel_rfl) (by rfl) ?_ | (refine wpB_text 1 (v := ?_) rfl (by kernel_rfl) (by kernel_rfl) (by kernel_rfl) (by rfl) (fun W hW => ?_) ?_; rotate_left; (obtain ⟨k1, k2, k3, k4, k5, k6⟩ := hW; have c4 := (C5.out W k1).1; have c5 := (C5.out W k1).2; go_simp; refine comes_v ?_; exact ⟨k1, k2, k3, k4, k5, k6⟩))
                      (try simp only [Act.put, List.setIfInBounds_toArray, List.set_cons_zero, List.set_cons_succ])
                      first | refine wpB_skip 2 rfl (by kernel_rfl) (by kernel_rfl) (by kernel_rfl) (by rfl) ?_ | (refine wpB_text 2 (v := ?_) rfl (by kernel_rfl) (by kernel_rfl) (by kernel_rfl) (by rfl) (fun W hW => ?_) ?_; rotate_left; (obtain ⟨k1, k2, k3, k4, k5, k6⟩ := hW; have c4 := (C5.out W k1).1; have c5 := (C5.out W k1).2; go_simp; refine comes_v ?_; exact ⟨k1, k2, k3, k4, k5, k6⟩))
                      (try simp only [Act.put, List.setIfInBounds_toArray, List.set_cons_zero, List.set_cons_succ])
                      first | refine wpB_skip 3 rfl (by kernel_rfl) (by kernel_rfl) (by kernel_rfl) (by rfl) ?_ | (refine wpB_text 3 (v := ?_) rfl (by kernel_rfl) (by kernel_rfl) (by kernel_rfl) (by rfl) (fun W hW => ?_) ?_; rotate_left; (obtain ⟨k1, k2, k3, k4, k5, k6⟩ := hW; have c4 := (C5.out W k1).1; have c5 := (C5.out W k1).2; go_simp; refine comes_v ?_; exact ⟨k1, k2, k3, k4, k5, k6⟩))
                      (try simp only [Act.put, List.setIfInBounds_toArray, List.set_cons_zero, List.set_cons_succ])
                      first | refine wpB_skip 4 rfl (by kernel_rfl) (by kernel_rfl) (by kernel_rfl) (by rfl) ?_ | (refine wpB_text 4 (v := ?_) rfl (by kernel_rfl) (by kernel_rfl) (by kernel_rfl) (by rfl) (fun W hW => ?_) ?_; rotate_left; (obtain ⟨k1, k2, k3, k4, k5, k6⟩ := hW; have c4 := (C5.out W k1).1; have c5 := (C5.out W k1).2; go_simp; refine comes_v ?_; exact ⟨k1, k2, k3, k4, k5, k6⟩))
                      (try simp only [Act.put, List.setIfInBounds_toArray, List.set_cons_zero, List.set_cons_succ])
                      first | refine wpB_skip 5 rfl (by kernel_rfl) (by kernel_rfl) (by kernel_rfl) (by rfl) ?_ | (refine wpB_text 5 (v := ?_) rfl (by kernel_rfl) (by kernel_rfl) (by kernel_rfl) (by rfl) (fun W hW => ?_) ?_; rotate_left; (obtain ⟨k1, k2, k3, k4, k5, k6⟩ := hW; have c4 := (C5.out W k1).1; have c5 := (C5.out W k1).2; go_simp; refine comes_v ?_; exact ⟨k1, k2, k3, k4, k5, k6⟩))
                      (try simp only [Act.put, List.setIfInBounds_toArray, List.set_cons_zero, List.set_cons_succ])
                      first | refine wpB_skip 6 rfl (by kernel_rfl) (by kernel_rfl) (by kernel_rfl) (by rfl) ?_ | (refine wpB_text 6 (v := ?_) rfl (by kernel_rfl) (by kernel_rfl) (by kernel_rfl) (by rfl) (fun W hW => ?_) ?_; rotate_left; (obtain ⟨k1, k2, k3, k4, k5, k6⟩ := hW; have c4 := (C5.out W k1).1; have c5 := (C5.out W k1).2; go_simp; refine comes_v ?_; exact ⟨k1, k2, k3, k4, k5, k6⟩))
                      (try simp only [Act.put, List.setIfInBounds_toArray, List.set_cons_zero, List.set_cons_succ])
                      first | refine wpB_skip 7 rfl (by kernel_rfl) (by kernel_rfl) (by kernel_rfl) (by rfl) ?_ | (refine wpB_text 7 (v := ?_) rfl (by kernel_rfl) (by kernel_rfl) (by kernel_rfl) (by rfl) (fun W hW => ?_) ?_; rotate_left; (obtain ⟨k1, k2, k3, k4, k5, k6⟩ := hW; have c4 := (C5.out W k1).1; have c5 := (C5.out W k1).2; go_simp; refine comes_v ?_; exact ⟨k1, k2, k3, k4, k5, k6⟩))
                      (try simp only [Act.put, List.setIfInBounds_toArray, List.set_cons_zero, List.set_cons_succ])
                      first | refine wpB_skip 8 rfl (by kernel_rfl) (by kernel_rfl) (by kernel_rfl) (by rfl) ?_ | (refine wpB_text 8 (v := ?_) rfl (by kernel_rfl) (by kernel_rfl) (by kernel_rfl) (by rfl) (fun W hW => ?_) ?_; rotate_left; (obtain ⟨k1, k2, k3, k4, k5, k6⟩ := hW; have c4 := (C5.out W k1).1; have c5 := (C5.out W k1).2; go_simp; refine comes_v ?_; exact ⟨k1, k2, k3, k4, k5, k6⟩))
                      (try simp only [Act.put, List.setIfInBounds_toArray, List.set_cons_zero, List.set_cons_succ])
                      first | refine wpB_skip 9 rfl (by kernel_rfl) (by kernel_rfl) (by kernel_rfl) (by rfl) ?_ | (refine wpB_text 9 (v := ?_) rfl (by kernel_rfl) (by kernel_rfl) (by kernel_rfl) (by rfl) (fun W hW => ?_) ?_; rotate_left; (obtain ⟨k1, k2, k3, k4, k5, k6⟩ := hW; have c4 := (C5.out W k1).1; have c5 := (C5.out W k1).2; go_simp; refine comes_v ?_; exact ⟨k1, k2, k3, k4, k5, k6⟩))
                      (try simp only [Act.put, List.setIfInBounds_toArray, List.set_cons_zero, List.set_cons_succ])
                      first | refine wpB_skip 10 rfl (by kernel_rfl) (by kernel_rfl) (by kernel_rfl) (by rfl) ?_ | (refine wpB_text 10 (v := ?_) rfl (by kernel_rfl) (by kernel_rfl) (by kernel_rfl) (by rfl) (fun W hW => ?_) ?_; rotate_left; (obtain ⟨k1, k2, k3, k4, k5, k6⟩ := hW; have c4 := (C5.out W k1).1; have c5 := (C5.out W k1).2; go_simp; refine comes_v ?_; exact ⟨k1, k2, k3, k4, k5, k6⟩))
                      (try simp only [Act.put, List.setIfInBounds_toArray, List.set_cons_zero, List.set_cons_succ])
                      first | refine wpB_skip 11 rfl (by kernel_rfl) (by kernel_rfl) (by kernel_rfl) (by rfl) ?_ | (refine wpB_text 11 (v := ?_) rfl (by kernel_rfl) (by kernel_rfl) (by kernel_rfl) (by rfl) (fun W hW => ?_) ?_; rotate_left; (obtain ⟨k1, k2, k3, k4, k5, k6⟩ := hW; have c4 := (C5.out W k1).1; have c5 := (C5.out W k1).2; go_simp; refine comes_v ?_; exact ⟨k1, k2, k3, k4, k5, k6⟩))
                      (try simp only [Act.put, List.setIfInBounds_toArray, List.set_cons_zero, List.set_cons_succ])
                      first | refine wpB_skip 12 rfl (by kernel_rfl) (by kernel_rfl) (by kernel_rfl) (by rfl) ?_ | (refine wpB_text 12 (v := ?_) rfl (by kernel_rfl) (by kernel_rfl) (by kernel_rfl) (by rfl) (fun W hW => ?_) ?_; rotate_left; (obtain ⟨k1, k2, k3, k4, k5, k6⟩ := hW; have c4 := (C5.out W k1).1; have c5 := (C5.out W k1).2; go_simp; refine comes_v ?_; exact ⟨k1, k2, k3, k4, k5, k6⟩))
                      (try simp only [Act.put, List.setIfInBounds_toArray, List.set_cons_zero, List.set_cons_succ])
                      first | refine wpB_skip 13 rfl (by kernel_rfl) (by kernel_rfl) (by kernel_rfl) (by rfl) ?_ | (refine wpB_text 13 (v := .bool true) rfl (by kernel_rfl) (by kernel_rfl) (by kernel_rfl) (by rfl) (fun W hW => ?_) ?_; (obtain ⟨k1, k2, k3, k4, k5, k6⟩ := hW; have c4 := (C5.out W k1).1; have c5 := (C5.out W k1).2; go_simp; exact comes_c ( M.out _) (fun wn hbn => KP.out _ _ ⟨k1, k2, k3, k4, k5, k6⟩ hbn)))
                      (try simp only [Act.put, List.setIfInBounds_toArray, List.set_cons_zero, List.set_cons_succ])
                      refine wpB_done (by kernel_rfl) ?_ _
                      intro W hW; obtain ⟨k1, k2, k3, k4, k5, k6⟩ := hW
                      clear e1 e2 e3 e4 e5 e6
                      go_wp2_with fail
                      go_ret
                      exact ⟨ret_bool hng.out.symm, k1⟩
                    · have hmf : meP (vx l k) (vx l (k + 1)) (vx l m) (vx l (m + 1)) = false := by simpa using hmt
                      rw [hmf] at M
                      have hM2 : Hid (∀ q, k + 2 ≤ q → q < m + 1 → q < n → q + 1 < n + k → meP (vx l k) (vx l (k + 1)) (vx l q) (vx l (q + 1)) = false) := Lib.hid (fun q h1 h2 h3 h4 => by
                        by_cases hqm : q = m
                        · subst hqm; exact hmf
                        · exact hM.out q h1 (by omega) h3 h4)
                      clear hmt hmf hM
                      go_wp2_with fail
                      have e1 : IntKind.i64.wrap ((m : Int) + 1) = (m : Int) + 1 := IntWalk.i64_in _ (by omega)
                      have e2 : ¬ n = 0 := by omega
                      have e3 : (0 : Int) ≤ ((m : Int) + 1) % (n : Int) := Int.emod_nonneg _ (by omega)
                      have e4 : ((m : Int) + 1) % (n : Int) < (n : Int) := Int.emod_lt_of_pos _ (by omega)
                      have e5 : ((m : Int) + 1).tmod (n : Int) = ((m : Int) + 1) % (n : Int) := Int.tmod_eq_emod_of_nonneg (by omega)
                      have e6 : (((m : Int) + 1) % (n : Int)).toNat = (m + 1) % n := by rw [show ((m : Int) + 1) % (n : Int) = (((m + 1) % n : Nat) : Int) by simp]; exact Int.toNat_natCast _
                      refine wp_region_B (fun W => (Below w.heap.size w W ∧ wo.heap.size + 1 < W.heap.size ∧ W.cell? ⟨wo.heap.size, 0, none⟩ = some (.int .i64 (vx l k).1) ∧ W.cell? ⟨wo.heap.size, 1, none⟩ = some (.int .i64 (vx l k).2) ∧ W.cell? ⟨wo.heap.size + 1, 0, none⟩ = some (.int .i64 (vx l ((k + 1) % n)).1) ∧ W.cell? ⟨wo.heap.size + 1, 1, none⟩ = some (.int .i64 (vx l ((k + 1) % n)).2))) (by kernel_rfl) (KP.out _ _ HK0.out ((Below.refl _ _).drew)) ?_
                      clear k1 k2 k3 k4 k5 k6
                      first | refine wpB_skip 0 rfl (by kernel_rfl) (by kernel_rfl) (by kernel_rfl) (by rfl) ?_ | (refine wpB_text 0 (v := ?_) rfl (by kernel_rfl) (by kernel_rfl) (by kernel_rfl) (by rfl) (fun W hW => ?_) ?_; rotate_left; (obtain ⟨k1, k2, k3, k4, k5, k6⟩ := hW; have c4 := (C5.out W k1).1; have c5 := (C5.out W k1).2; go_simp; refine comes_v ?_; exact ⟨k1, k2, k3, k4, k5, k6⟩))
                      (try simp only [Act.put, List.setIfInBounds_toArray, List.set_cons_zero, List.set_cons_succ])
                      first | refine wpB_skip 1 rfl (by kernel_rfl) (by kernel_rfl) (by kernel_rfl) (by rfl) ?_ | (refine wpB_text 1 (v := ?_) rfl (by kernel_rfl) (by kernel_rfl) (by kernel_rfl) (by rfl) (fun W hW => ?_) ?_; rotate_left; (obtain ⟨k1, k2, k3, k4, k5, k6⟩ := hW; have c4 := (C5.out W k1).1; have c5 := (C5.out W k1).2; go_simp; refine comes_v ?_; exact ⟨k1, k2, k3, k4, k5, k6⟩))
                      (try simp only [Act.put, List.setIfInBounds_toArray, List.set_cons_zero, List.set_cons_succ])
                      first | refine wpB_skip 2 rfl (by kernel_rfl) (by kernel_rfl) (by kernel_rfl) (by rfl) ?_ | (refine wpB_text 2 (v := ?_) rfl (by kernel_rfl) (by kernel_rfl) (by kernel_rfl) (by rfl) (fun W hW => ?_) ?_; rotate_left; (obtain ⟨k1, k2, k3, k4, k5, k6⟩ := hW; have c4 := (C5.out W k1).1; have c5 := (C5.out W k1).2; go_simp; refine comes_v ?_; exact ⟨k1, k2, k3, k4, k5, k6⟩))
                      (try simp only [Act.put, List.setIfInBounds_toArray, List.set_cons_zero, List.set_cons_succ])
                      first | refine wpB_skip 3 rfl (by kernel_rfl) (by kernel_rfl) (by kernel_rfl) (by rfl) ?_ | (refine wpB_text 3 (v := ?_) rfl (by kernel_rfl) (by kernel_rfl) (by kernel_rfl) (by rfl) (fun W hW => ?_) ?_; rotate_left; (obtain ⟨k1, k2, k3, k4, k5, k6⟩ := hW; have c4 := (C5.out W k1).1; have c5 := (C5.out W k1).2; go_simp; refine comes_v ?_; exact ⟨k1, k2, k3, k4, k5, k6⟩))
                      (try simp only [Act.put, List.setIfInBounds_toArray, List.set_cons_zero, List.set_cons_succ])
                      first | refine wpB_skip 4 rfl (by kernel_rfl) (by kernel_rfl) (by kernel_rfl) (by rfl) ?_ | (refine wpB_text 4 (v := ?_) rfl (by kernel_rfl) (by kernel_rfl) (by kernel_rfl) (by rfl) (fun W hW => ?_) ?_; rotate_left; (obtain ⟨k1, k2, k3, k4, k5, k6⟩ := hW; have c4 := (C5.out W k1).1; have c5 := (C5.out W k1).2; go_simp; refine comes_v ?_; exact ⟨k1, k2, k3, k4, k5, k6⟩))
                      (try simp only [Act.put, List.setIfInBounds_toArray, List.set_cons_zero, List.set_cons_succ])
                      first | refine wpB_skip 5 rfl (by kernel_rfl) (by kernel_rfl) (by kernel_rfl) (by rfl) ?_ | (refine wpB_text 5 (v := ?_) rfl (by kernel_rfl) (by kernel_rfl) (by kernel_rfl) (by rfl) (fun W hW => ?_) ?_; rotate_left; (obtain ⟨k1, k2, k3, k4, k5, k6⟩ := hW; have c4 := (C5.out W k1).1; have c5 := (C5.out W k1).2; go_simp; refine comes_v ?_; exact ⟨k1, k2, k3, k4, k5, k6⟩))
                      (try simp only [Act.put, List.setIfInBounds_toArray, List.set_cons_zero, List.set_cons_succ])
                      first | refine wpB_skip 6 rfl (by kernel_rfl) (by kernel_rfl) (by kernel_rfl) (by rfl) ?_ | (refine wpB_text 6 (v := ?_) rfl (by kernel_rfl) (by kernel_rfl) (by kernel_rfl) (by rfl) (fun W hW => ?_) ?_; rotate_left; (obtain ⟨k1, k2, k3, k4, k5, k6⟩ := hW; have c4 := (C5.out W k1).1; have c5 := (C5.out W k1).2; go_simp; refine comes_v ?_; exact ⟨k1, k2, k3, k4, k5, k6⟩))
                      (try simp only [Act.put, List.setIfInBounds_toArray, List.set_cons_zero, List.set_cons_succ])
                      first | refine wpB_skip 7 rfl (by kernel_rfl) (by kernel_rfl) (by kernel_rfl) (by rfl) ?_ | (refine wpB_text 7 (v := ?_) rfl (by kernel_rfl) (by kernel_rfl) (by kernel_rfl) (by rfl) (fun W hW => ?_) ?_; rotate_left; (obtain ⟨k1, k2, k3, k4, k5, k6⟩ := hW; have c4 := (C5.out W k1).1; have c5 := (C5.out W k1).2; go_simp; refine comes_v ?_; exact ⟨k1, k2, k3, k4, k5, k6⟩))
                      (try simp only [Act.put, List.setIfInBounds_toArray, List.set_cons_zero, List.set_cons_succ])
                      first | refine wpB_skip 8 rfl (by kernel_rfl) (by kernel_rfl) (by kernel_rfl) (by rfl) ?_ | (refine wpB_text 8 (v := ?_) rfl (by kernel_rfl) (by kernel_rfl) (by kernel_rfl) (by rfl) (fun W hW => ?_) ?_; rotate_left; (obtain ⟨k1, k2, k3, k4, k5, k6⟩ := hW; have c4 := (C5.out W k1).1; have c5 := (C5.out W k1).2; go_simp; refine comes_v ?_; exact ⟨k1, k2, k3, k4, k5, k6⟩))
                      (try simp only [Act.put, List.setIfInBounds_toArray, List.set_cons_zero, List.set_cons_succ])
                      first | refine wpB_skip 9 rfl (by kernel_rfl) (by kernel_rfl) (by kernel_rfl) (by rfl) ?_ | (refine wpB_text 9 (v := ?_) rfl (by kernel_rfl) (by kernel_rfl) (by kernel_rfl) (by rfl) (fun W hW => ?_) ?_; rotate_left; (obtain ⟨k1, k2, k3, k4, k5, k6⟩ := hW; have c4 := (C5.out W k1).1; have c5 := (C5.out W k1).2; go_simp; refine comes_v ?_; exact ⟨k1, k2, k3, k4, k5, k6⟩))
                      (try simp only [Act.put, List.setIfInBounds_toArray, List.set_cons_zero, List.set_cons_succ])
                      first | refine wpB_skip 10 rfl (by kernel_rfl) (by kernel_rfl) (by kernel_rfl) (by rfl) ?_ | (refine wpB_text 10 (v := ?_) rfl (by kernel_rfl) (by kernel_rfl) (by kernel_rfl) (by rfl) (fun W hW => ?_) ?_; rotate_left; (obtain ⟨k1, k2, k3, k4, k5, k6⟩ := hW; have c4 := (C5.out W k1).1; have c5 := (C5.out W k1).2; go_simp; refine comes_v ?_; exact ⟨k1, k2, k3, k4, k5, k6⟩))
                      (try simp only [Act.put, List.setIfInBounds_toArray, List.set_cons_zero, List.set_cons_succ])
                      first | refine wpB_skip 11 rfl (by kernel_rfl) (by kernel_rfl) (by kernel_rfl) (by rfl) ?_ | (refine wpB_text 11 (v := ?_) rfl (by kernel_rfl) (by kernel_rfl) (by kernel_rfl) (by rfl) (fun W hW => ?_) ?_; rotate_left; (obtain ⟨k1, k2, k3, k4, k5, k6⟩ := hW; have c4 := (C5.out W k1).1; have c5 := (C5.out W k1).2; go_simp; refine comes_v ?_; exact ⟨k1, k2, k3, k4, k5, k6⟩))
                      (try simp only [Act.put, List.setIfInBounds_toArray, List.set_cons_zero, List.set_cons_succ])
                      first | refine wpB_skip 12 rfl (by kernel_rfl) (by kernel_rfl) (by kernel_rfl) (by rfl) ?_ | (refine wpB_text 12 (v := ?_) rfl (by kernel_rfl) (by kernel_rfl) (by kernel_rfl) (by rfl) (fun W hW => ?_) ?_; rotate_left; (obtain ⟨k1, k2, k3, k4, k5, k6⟩ := hW; have c4 := (C5.out W k1).1; have c5 := (C5.out W k1).2; go_simp; refine comes_v ?_; exact ⟨k1, k2, k3, k4, k5, k6⟩))
                      (try simp only [Act.put, List.setIfInBounds_toArray, List.set_cons_zero, List.set_cons_succ])
                      first | refine wpB_skip 13 rfl (by kernel_rfl) (by kernel_rfl) (by kernel_rfl) (by rfl) ?_ | (refine wpB_text 13 (v := .bool false) rfl (by kernel_rfl) (by kernel_rfl) (by kernel_rfl) (by rfl) (fun W hW => ?_) ?_; (obtain ⟨k1, k2, k3, k4, k5, k6⟩ := hW; have c4 := (C5.out W k1).1; have c5 := (C5.out W k1).2; go_simp; exact comes_c ( M.out _) (fun wn hbn => KP.out _ _ ⟨k1, k2, k3, k4, k5, k6⟩ hbn)))
                      (try simp only [Act.put, List.setIfInBounds_toArray, List.set_cons_zero, List.set_cons_succ])
                      refine wpB_done (by kernel_rfl) ?_ _
                      intro W hW; obtain ⟨k1, k2, k3, k4, k5, k6⟩ := hW
                      clear e1 e2 e3 e4 e5 e6
                      go_wp2_with fail
                      go_roundg (n + 1 - (m + 1))
                      case measure => have := HGM.out; omega
                      case rel => exact ⟨m + 1, by omega, by omega, rfl, by go_num, ⟨k1, k2, k3, k4, k5, k6⟩, hM2⟩
                  · have d1 : ((m : Int) < (n : Int)) := by omega
                    have d2 : ¬ ((m : Int) - (k : Int) < (n : Int) - 1) := by omega
                    have hA2 : Hid (Apart l (k + 1)) := Lib.hid (fun i hi => by
                      by_cases hik : i = k
                      · subst hik; exact ⟨HTW.out, fun q h1 h2 h3 => hM.out q h1 (by have := HN.out; omega) (by have := HN.out; omega) (by have := HN.out; omega)⟩
                      · exact hA.out i (by omega))
                    go_wp2_with fail
                    go_roundg (n - (k + 1))
                    case measure => have := HGK.out; omega
                    case rel => exact ⟨k + 1, by omega, rfl, by go_num, k1, hA2⟩
                · have d1 : ¬ ((m : Int) < (n : Int)) := by omega
                  have hA2 : Hid (Apart l (k + 1)) := Lib.hid (fun i hi => by
                    by_cases hik : i = k
                    · subst hik; exact ⟨HTW.out, fun q h1 h2 h3 => hM.out q h1 (by have := HN.out; omega) (by have := HN.out; omega) (by have := HN.out; omega)⟩
                    · exact hA.out i (by omega))
                  go_wp2_with fail
                  go_roundg (n - (k + 1))
                  case measure => have := HGK.out; omega
                  case rel => exact ⟨k + 1, by omega, rfl, by go_num, k1, hA2⟩
          · have hkn : n = k := by omega
            subst hkn
            have hgood : Hid (goodB l = true) := Lib.hid (HT.out (by
              have hN := HN.out
              exact ⟨by omega, fun i hi => (HF.out i (by omega)).1, fun i j hj hi => (HF.out i (by omega)).2 j hj, fun i hi => (hA.out i (by omega)).1, fun i q h1 h2 h3 => (hA.out i (by omega)).2 q h1 h2 h3⟩))
            go_wp2_with fail
            go_ret
            exact ⟨ret_bool hgood.out.symm, hB⟩
  · have hng : ¬ Good l := fun h => hfew h.few
    rw [goodB_false hng]
    have hf : (decide ((3 : Int) ≤ (l.length : Int)) && decide ((l.length : Int) ≤ 10)) = false := by simp; omega
    go_enter Try.func68, Try.ntmps68
    go_wp2_with fail
    refine (l1In_any _ _ _ _).mono ?_; rintro e _ ⟨rfl, rfl⟩
    rw [hf]
    go_wp2_with fail
    go_ret
    exact ⟨rfl, Below.refl _ _⟩
end Go.Proofs.Ytieimijkkjhegaa
/- contracts: ListInside, on both sides -/
namespace Go.Proofs.Ytieimijkkjhegaa
open Go.ChangeShapes Go.WideShapes Go.ChangeAt Go.RowKit Go.Joins
set_option linter.unusedVariables false
set_option linter.unusedSimpArgs false
set_option maxRecDepth 4000
theorem specListInside_any (A : Option Addr) (c : Nat) (l : List (Int × Int)) (w : World) (hn : l.length ≤ 1048576) (hcap : l.length ≤ c) (hc2 : c ≤ 9223372036854775807) (hR : Rd w w.heap.size A l) :
    Calls Try.prog 27 #[.slice A l.length c] w (RetL w (sel (goodB l) (insL l)) (goodB l)) := by
  have K := Lib.hid (pgGood_any A c l w hn hcap hc2 hR)
  by_cases hg : Good l
  · have hgt := goodB_true hg
    rw [hgt] at K ⊢
    have K2 := Lib.hid (fun W (hb : Below w.heap.size w W) => pgList_any A c l W hg (rd_more (rd_below hR hb (Nat.le_refl _)) hb.size))
    rw [show sel true (insL l) = insL l from rfl]
    generalize insL l = m at *
    clear hgt hg hR
    go_enter Try.func27, Try.ntmps27
    go_wp2_with fail
    refine K.out.mono ?_; rintro e w1 ⟨rfl, hb1⟩
    go_wp2_with fail
    refine (K2.out w1 hb1).mono ?_; rintro e w2 ⟨A2, c2, rfl, q1, q2, hb2, q3⟩
    go_wp2_with fail
    go_ret2
    exact retL_of_P hb1 q1 q2 hb2 q3
  · have hgf := goodB_false hg
    rw [hgf] at K ⊢
    rw [show sel false (insL l) = [] from rfl]
    clear hgf hg hR
    go_enter Try.func27, Try.ntmps27
    go_wp2_with fail
    refine K.out.mono ?_; rintro e w1 ⟨rfl, hb1⟩
    go_wp2_with fail
    go_ret2
    exact retL_nil hb1
set_option maxHeartbeats 1000000 in
theorem visitBox_any (A : Option Addr) (c : Nat) (l : List (Int × Int)) (w0 w : World) (r v : Nat) (hg : Good l) (hR : Rd w0 w0.heap.size A l) (hV : Vis w0 w r v (insL l).length []) :
    Calls Try.prog 76 #[.slice A l.length c, .func (.func 77) #[] #[.pointer (some ⟨v, 0, none⟩)]] w fun e w' => e = .returned (.tuple #[]) ∧ Vis w0 w' r v (insL l).length (insL l) := by
  have h3 := hg.few.1
  have h10 := hg.few.2
  have hlen := insL_len l
  have KB := Lib.hid (fun W (hb : Below w0.heap.size w0 W) => boxAround_any A c l W (by omega) (by omega) (rd_more (rd_below hR hb (Nat.le_refl _)) hb.size))
  have KW := Lib.hid (fun x y W (hp : Sz x y) (hb : Below w0.heap.size w0 W) => placeIn_any A c l x y W hg hp (rd_more (rd_below hR hb (Nat.le_refl _)) hb.size))
  have hbx := box_in (good_40 hg) l.length
  have hlo := box_lo l l.length 0 (by omega)
  have hhi := box_hi l l.length 0 (by omega)
  have hE := insL_box hg
  generalize loN l l.length = lo at *
  generalize hiN l l.length = hi at *
  obtain ⟨x0, y0⟩ := lo
  obtain ⟨x1, y1⟩ := hi
  simp only at hbx hlo hhi hE KB
  have HLE : Hid (∀ i j : Nat, i < (x1 - x0 + 1).toNat → j ≤ (y1 - y0 + 1).toNat → (gridR l x0 y0 (y1 - y0 + 1).toNat i ++ colR l (x0 + i) y0 j).length ≤ (insL l).length) := Lib.hid (fun i j h1 h2 => by rw [hE]; exact found_le l x0 y0 h1 h2)
  have HE := Lib.hid hE
  have hxy : x0 ≤ x1 ∧ y0 ≤ y1 := by omega
  obtain ⟨hb1, hb2⟩ := hbx
  obtain ⟨hx, hy⟩ := hxy
  have HNo := Lib.hid (fun x m (h : whN l (x, y0 + ((m : Nat) : Int)) ≠ 1) => colR_no h)
  have HYes := Lib.hid (fun x m (h : whN l (x, y0 + ((m : Nat) : Int)) = 1) => colR_yes h)
  have H0 : Hid (∀ x, colR l x y0 0 = []) := Lib.hid (fun _ => rfl)
  have HG0 : Hid (∀ r, gridR l x0 y0 r 0 = []) := Lib.hid (fun _ => rfl)
  obtain ⟨nc, hnc⟩ : ∃ nc, nc = (x1 - x0 + 1).toNat := ⟨_, rfl⟩
  obtain ⟨nr, hnr⟩ : ∃ nr, nr = (y1 - y0 + 1).toNat := ⟨_, rfl⟩
  rw [← hnc, ← hnr] at HLE HE
  have hncl : x0 + (nc : Int) = x1 + 1 ∧ nc ≤ 81 := by omega
  have hnrl : y0 + (nr : Int) = y1 + 1 ∧ nr ≤ 81 := by omega
  obtain ⟨nc1, nc2⟩ := hncl
  obtain ⟨nr1, nr2⟩ := hnrl
  have NC1 := Lib.hid nc1
  have NR1 := Lib.hid nr1
  clear hnc hnr hE hlo hhi nc1 nr1
  have HS : Hid (∀ i : Nat, gridR l x0 y0 nr (i + 1) = gridR l x0 y0 nr i ++ colR l (x0 + i) y0 nr) := Lib.hid (fun _ => rfl)
  have HA : Hid (∀ i, gridR l x0 y0 nr i ++ [] = gridR l x0 y0 nr i) := Lib.hid (fun i => List.append_nil _)
  generalize hT : insL l = tot at *
  clear hT hg hR
  generalize hcn : tot.length = cn at *
  clear hcn
  have HV := Lib.hid hV
  have B0 := hV.below
  clear hV
  go_enter Try.func76, Try.ntmps76
  go_wp2_with fail
  refine (KB.out w B0).mono ?_; rintro e w3 ⟨rfl, hb3⟩
  have V3 := Lib.hid (vis_below HV.out hb3)
  clear hb3 HV KB B0
  go_wp2_with fail
  obtain ⟨W4, hW4⟩ : ∃ W4, W4 = ((w3.alloc (.cells #[.int .i64 x0, .int .i64 y0] 42)).alloc (.cells #[.int .i64 x1, .int .i64 y1] 42)) := ⟨_, rfl⟩
  rw [← hW4]
  have yW40_0 : W4.cell? ⟨w3.heap.size, 0, none⟩ = some (.int .i64 x0) := by rw [hW4]; go_simp
  have yW40_1 : W4.cell? ⟨w3.heap.size, 1, none⟩ = some (.int .i64 y0) := by rw [hW4]; go_simp
  have fW40 : ∀ o, W4.frozen? ⟨w3.heap.size, o, none⟩ = false := by intro o; rw [hW4]; (repeat rw [frozen?_alloc_cells]); simp [World.frozen?]
  have zW40 : w3.heap.size < W4.heap.size := by rw [hW4]; simp <;> omega
  have yW41_0 : W4.cell? ⟨w3.heap.size + 1, 0, none⟩ = some (.int .i64 x1) := by rw [hW4]; go_simp
  have yW41_1 : W4.cell? ⟨w3.heap.size + 1, 1, none⟩ = some (.int .i64 y1) := by rw [hW4]; go_simp
  have fW41 : ∀ o, W4.frozen? ⟨w3.heap.size + 1, o, none⟩ = false := by intro o; rw [hW4]; (repeat rw [frozen?_alloc_cells]); simp [World.frozen?]
  have zW41 : w3.heap.size + 1 < W4.heap.size := by rw [hW4]; simp <;> omega
  have BW4 : Below w3.heap.size w3 W4 := by rw [hW4]; exact (Below.alloc (Below.alloc (Below.refl _ _) (by simp <;> omega) _) (by simp <;> omega) _)
  have eW4 : Hid (W4.heap.size = w3.heap.size + 2) := Lib.hid (by rw [hW4]; simp)
  clear hW4
  have S4 : Hid (Bxs W4 w3.heap.size (w3.heap.size + 1) (x0, y0) (x1, y1)) := Lib.hid ⟨zW40, zW41, yW40_0, yW40_1, yW41_0, yW41_1⟩
  have V4 := Lib.hid (vis_below V3.out BW4)
  obtain ⟨gb, hgb⟩ : ∃ gb, gb = w3.heap.size := ⟨_, rfl⟩
  have hr3 : r < w3.heap.size := by
    have := World.ownsRow.lt V3.out.row r rfl
    exact this.2
  have hv3 := V3.out.vup
  have ng : gb ≠ r := by omega
  have nh : gb + 1 ≠ r := by omega
  have nvg : gb ≠ v := by omega
  have nvh : gb + 1 ≠ v := by omega
  rw [← hgb] at S4 ⊢
  clear hgb zW40 zW41 yW40_0 yW40_1 yW41_0 yW41_1 fW40 fW41 eW4 BW4 V3 hr3 hv3
  go_wp2_with fail
  go_loopg [6] nc (fun g x wr => ∃ (i : Nat) (m : List (Int × Int)), i ≤ nc ∧ g = nc - i ∧ x = .int .i64 (x0 + (i : Int)) ∧ Hid (Vis w0 wr r v cn m) ∧ Hid (m = gridR l x0 y0 nr i) ∧ Hid (Bxs wr gb (gb + 1) (x0, y0) (x1, y1)))
  case atStart => exact ⟨0, [], Nat.zero_le _, rfl, by simp, V4, Lib.hid (by rw [HG0.out]), S4⟩
  case round =>
    clear V4 S4
    obtain ⟨i, m, hi, hg, rfl, hr, hm, hS⟩ := hrel
    rename World => wo
    have HGK := Lib.hid hg
    clear hg
    have k2 : wo.cell? ⟨gb + 1, 0, none⟩ = some (.int .i64 x1) := hS.out.h0
    have k1 : wo.cell? ⟨gb, 1, none⟩ = some (.int .i64 y0) := hS.out.g1
    have kz := hS.out.zh
    have kz0 := hS.out.zg
    by_cases hlt : i < nc
    · have d1 : x0 + (i : Int) ≤ x1 := by have := NC1.out; omega
      go_wp2_with fail
      go_loopg [7] nr (fun g y wr => ∃ (j : Nat) (m : List (Int × Int)), j ≤ nr ∧ g = nr - j ∧ y = .int .i64 (y0 + (j : Int)) ∧ Hid (Vis w0 wr r v cn m) ∧ Hid (m = gridR l x0 y0 nr i ++ colR l (x0 + i) y0 j) ∧ Hid (Bxs wr gb (gb + 1) (x0, y0) (x1, y1)))
      case atStart => exact ⟨0, m, Nat.zero_le _, rfl, by simp, hr, Lib.hid (by rw [H0.out, HA.out]; exact hm.out), hS⟩
      case round =>
        clear hr hm hS k1 k2 kz kz0
        rename List _ => m0
        obtain ⟨j, m, hj, hg, rfl, hr, hm, hS⟩ := hrel
        rename World => wi
        have HGJ := Lib.hid hg
        clear hg
        have k3 : wi.cell? ⟨gb + 1, 1, none⟩ = some (.int .i64 y1) := hS.out.h1
        have kz := hS.out.zh
        by_cases hlj : j < nr
        · have d2 : y0 + (j : Int) ≤ y1 := by have := NR1.out; omega
          have KP := Lib.hid (fun W hb => KW.out (x0 + (i : Int)) (y0 + (j : Int)) W (by unfold Sz; omega) hb)
          have hBw := hr.out.below
          have HNo1 : Hid (whN l (x0 + (i : Int), y0 + (j : Int)) ≠ 1 → gridR l x0 y0 nr i ++ colR l (x0 + i) y0 (j + 1) = gridR l x0 y0 nr i ++ colR l (x0 + i) y0 j) := Lib.hid (fun h => by rw [HNo.out (x0 + (i : Int)) j h])
          have HYes1 : Hid (whN l (x0 + (i : Int), y0 + (j : Int)) = 1 → gridR l x0 y0 nr i ++ colR l (x0 + i) y0 (j + 1) = m ++ [(x0 + (i : Int), y0 + (j : Int))]) := Lib.hid (fun h => by rw [HYes.out (x0 + (i : Int)) j h, ← List.append_assoc, ← hm.out])
          have HLE1 : Hid ((gridR l x0 y0 nr i ++ colR l (x0 + i) y0 (j + 1)).length ≤ cn) := Lib.hid (HLE.out i (j + 1) hlt (by omega))
          have e1 : IntKind.i64.wrap (y0 + (j : Int) + 1) = y0 + ((j + 1 : Nat) : Int) := by rw [IntWalk.i64_in _ (by omega)]; omega
          have HFit : Hid (whN l (x0 + (i : Int), y0 + (j : Int)) = 1 → m.length + 1 ≤ cn) := Lib.hid (fun h => by
            have := HLE1.out
            rw [HYes1.out h, List.length_append] at this
            simpa using this)
          have HMM : Hid ((if whN l (x0 + (i : Int), y0 + (j : Int)) = 1 then m ++ [(x0 + (i : Int), y0 + (j : Int))] else m) = gridR l x0 y0 nr i ++ colR l (x0 + i) y0 (j + 1)) := Lib.hid (by
            by_cases h : whN l (x0 + (i : Int), y0 + (j : Int)) = 1
            · rw [if_pos h, HYes1.out h]
            · rw [if_neg h, HNo1.out h]; exact hm.out)
          generalize whN l (x0 + (i : Int), y0 + (j : Int)) = t at *
          clear HNo1 HYes1 HLE1 hm
          go_wp2_with fail
          refine (KP.out wi hBw).mono ?_; rintro e w5 ⟨rfl, hb5⟩
          have V5 := Lib.hid (vis_below hr.out hb5)
          have S5 := Lib.hid (bxs_below hS.out hb5)
          clear hb5 hr hS KP k3 kz hBw
          go_wp2_with fail
          refine (visit_any w0 w5 r v cn m _ _ t V5.out HFit.out).mono ?_; rintro e w6 ⟨rfl, V6, X6⟩
          have S6 := Lib.hid (X6 gb _ _ ng nh nvg nvh S5.out)
          have V7 := Lib.hid V6
          clear V6 X6 V5 S5 HFit
          go_wp2_with fail
          go_roundg (nr - (j + 1))
          case measure => have := HGJ.out; omega
          case rel => exact ⟨j + 1, _, by omega, rfl, by go_num, V7, HMM, S6⟩
        · obtain rfl : j = nr := by omega
          have d2 : ¬ y0 + (j : Int) ≤ y1 := by have := NR1.out; omega
          have hm2 := Lib.hid (show m = gridR l x0 y0 j (i + 1) from by rw [HS.out]; exact hm.out)
          have e1 : IntKind.i64.wrap (x0 + (i : Int) + 1) = x0 + ((i + 1 : Nat) : Int) := by rw [IntWalk.i64_in _ (by omega)]; omega
          clear hm
          go_wp2_with fail
          go_roundg (nc - (i + 1))
          case measure => have := HGK.out; omega
          case rel => exact ⟨i + 1, m, by omega, rfl, by go_num, hr, hm2, hS⟩
    · obtain rfl : i = nc := by omega
      have d1 : ¬ x0 + (i : Int) ≤ x1 := by have := NC1.out; omega
      have hm2 : m = tot := by rw [HE.out]; exact hm.out
      subst hm2
      clear hm hS hlt hi HGK NC1 k1 kz0 HE HLE
      go_wp2_with fail
      go_end0
      exact ⟨rfl, hr.out⟩
theorem vis_made (w0 w1 : World) (n : Nat) (h1 : Below w0.heap.size w0 w1) (hn : n ≤ 6561) :
    Vis w0 (((w1.alloc (.cells (madeCells #[.int .i64 0, .int .i64 0] (n * 2)) 42)).alloc (.cells #[.slice (some ⟨w1.heap.size, 0, none⟩) 0 n] 26))) w1.heap.size (w1.heap.size + 1) n [] := by
  have hz := h1.size
  refine ⟨Below.alloc (Below.alloc h1 hz _) (by simp; omega) _, ?_, ?_, ?_, by omega, by simp, hz, by omega⟩
  · exact rowL_alloc (rowL_made w1 w0.heap.size n hz (by omega)) _
  · go_simp
  · rw [frozen?_alloc_cells, frozen?_alloc_cells]; simp [World.frozen?]
set_option maxHeartbeats 500000 in
theorem implListInside_any (A : Option Addr) (c : Nat) (l : List (Int × Int)) (w : World) (hn : l.length ≤ 1048576) (hR : Rd w w.heap.size A l) :
    Calls Try.prog 28 #[.slice A l.length c] w (RetL w (sel (goodB l) (insL l)) (goodB l)) := by
  have K := Lib.hid (implPegsInside_any A c l w hn hR)
  by_cases hg : Good l
  · have hgt := goodB_true hg
    rw [hgt] at K ⊢
    rw [show sel true (insL l) = insL l from rfl]
    rw [gi_true, insL_cnt hg] at K
    have hlen := insL_len l
    obtain ⟨i0, hi0, hz0, hz1, hz2⟩ := info_parts peg_info
    have hmk := fun W => run_make (P := Try.prog) W 26 42 i0 _ Try.underlying26 hi0 hz0 .i64 .i64 (0 : Int) ((insL l).length : Int) (by omega) (by omega) (by rw [hz2]; omega) (by omega)
    simp only [Int.toNat_zero, Int.toNat_natCast, hz1] at hmk
    clear hi0 hz0 hz1 hz2
    have hmf : ∀ (fn : Fn) (first cap : Array Value) (w : World), (Instr.makeFunc fn first cap).run Try.prog w = .ok (.func fn first cap) w := fun _ _ _ _ => rfl
    have KV := Lib.hid (fun W r v (h : Vis w W r v (insL l).length []) => visitBox_any A c l w W r v hg hR h)
    have HN : Hid (∀ v W, RowL W w.heap.size v (insL l) → Below w.heap.size w W → RetP w (insL l) (.returned v) W) := Lib.hid (fun v W h hb => retP_rowL h hb)
    have HM := Lib.hid (fun w1 (h : Below w.heap.size w w1) => vis_made w w1 (insL l).length h hlen)
    clear hgt hg hR hn
    generalize hT : insL l = tot at *
    clear hT
    go_enter Try.func28, Try.ntmps28
    go_wp2_with fail
    refine K.out.mono ?_; rintro e w1 ⟨rfl, hb1'⟩
    have V1 := Lib.hid (HM.out w1 hb1')
    go_wp2_with fail
    generalize (w1.alloc (.cells (madeCells #[.int .i64 0, .int .i64 0] (tot.length * 2)) 42)).alloc (.cells #[.slice (some ⟨w1.heap.size, 0, none⟩) 0 tot.length] 26) = W2 at *
    refine (KV.out _ _ _ V1.out).mono ?_; rintro e w3 ⟨rfl, V3⟩
    have c3 := V3.cell
    have z3 := V3.vup
    have hP := HN.out _ _ V3.row V3.below
    clear V1 V3
    go_wp2_with fail
    go_ret2
    obtain ⟨A9, c9, h9, q1, q2, q3, q4⟩ := hP
    injection h9 with h9
    rw [h9]
    exact ⟨A9, c9, rfl, q1, q2, q3, q4⟩
  · have hgf := goodB_false hg
    rw [hgf] at K ⊢
    rw [show sel false (insL l) = [] from rfl]
    clear hgf hg hR
    go_enter Try.func28, Try.ntmps28
    go_wp2_with fail
    refine K.out.mono ?_; rintro e w1 ⟨rfl, hb1⟩
    go_wp2_with fail
    go_ret2
    exact retL_nil hb1
end Go.Proofs.Ytieimijkkjhegaa
/- contracts: points that are marked, marks that are held -/
namespace Go.Proofs.Ytieimijkkjhegaa
open Go.ChangeShapes Go.WideShapes Go.ChangeAt Go.RowKit Go.Joins
set_option linter.unusedVariables false
set_option linter.unusedSimpArgs false
set_option maxRecDepth 4000
/-- what marks write: number after number -/
def mk (k : Int) (i : Nat) : Int × Int := (k + 2 * (i : Int), k + 2 * (i : Int) + 1)
def mix (k : Int) (i : Nat) (f : Nat → Int × Int) (j : Nat) : Int × Int := if j < i then mk k j else f j
theorem mix_step (k : Int) (i : Nat) (f : Nat → Int × Int) : (fun j => if j = i then mk k i else mix k i f j) = mix k (i + 1) f := by
  funext j
  unfold mix
  by_cases h : j = i
  · subst h; rw [if_pos rfl, if_pos (by omega)]
  · rw [if_neg h]
    by_cases h2 : j < i
    · rw [if_pos h2, if_pos (by omega)]
    · rw [if_neg h2, if_neg (by omega)]
/-- behind a mark -/
structure Marked (w w' : World) (lo B : Nat) (A : Option Addr) (n : Nat) (k : Int) (i : Nat) (f : Nat → Int × Int) : Prop where
  only : Only lo B w w'
  row : Rw w' lo B A n (mix k i f)
theorem marked_step {w w' : World} {lo B b off n i : Nat} {k : Int} {f : Nat → Int × Int} (h : Marked w w' lo B (some ⟨b, off, none⟩) n k i f) (hi : i < n) (hb : lo ≤ b) (hB : b < B) :
    Marked w ((w'.setCell ⟨b, off + i * 2, none⟩ (.int .i64 (k + 2 * (i : Int)))).setCell ⟨b, off + i * 2 + 1, none⟩ (.int .i64 (k + 2 * (i : Int) + 1))) lo B (some ⟨b, off, none⟩) n k (i + 1) f :=
  ⟨(h.only.set hb hB _).set hb hB _, by
    have := rw_store h.row hi (k + 2 * (i : Int)) (k + 2 * (i : Int) + 1)
    rw [show (fun j => if j = i then (k + 2 * (i : Int), k + 2 * (i : Int) + 1) else mix k i f j) = mix k (i + 1) f from mix_step k i f] at this
    exact this⟩
set_option maxHeartbeats 1000000 in
theorem markPegS_any (A : Option Addr) (c n : Nat) (k : Int) (lo B : Nat) (f : Nat → Int × Int) (w : World) (hn : n ≤ 1048576) (hk1 : 1 ≤ k) (hk2 : k ≤ 1000000000) (hR : Rw w lo B A n f) :
    Calls Try.prog 22 #[.slice A n c, .int .i64 k] w fun e w' => e = .returned (.int .i64 (k + 2 * (n : Int))) ∧ Only lo B w w' ∧ Rw w' lo B A n (mk k) := by
  have HM := Lib.hid (show Marked w w lo B A n k 0 f from ⟨Only.refl _ _ _, rw_same hR fun i hi => by unfold mix; rw [if_neg (by omega)]⟩)
  clear hR
  go_enter Try.func22, Try.ntmps22
  go_wp2_with fail
  go_loopg [1, 5] n (fun g u i wr => ∃ j : Nat, j ≤ n ∧ g = n - j ∧ i = .int .i64 j ∧ u = .int .i64 (k + 2 * (j : Int)) ∧ Hid (Marked w wr lo B A n k j f))
  case atStart => exact ⟨0, Nat.zero_le _, rfl, rfl, by simp, HM⟩
  case round =>
    obtain ⟨j, hj, hg, rfl, rfl, hM⟩ := hrel
    rename World => wo
    have HGK := Lib.hid hg
    clear hg HM
    by_cases hlt : j < n
    · obtain ⟨b, off, hA, hb1, hb2, hc⟩ := hM.out.row (by omega)
      subst hA
      obtain ⟨⟨c1, c2⟩, z1, z2⟩ := hc j hlt
      have M2 := Lib.hid (marked_step hM.out hlt hb1 hb2)
      clear hc hM
      have e1 : IntKind.i64.wrap (k + 2 * (j : Int) + 1) = k + 2 * (j : Int) + 1 := IntWalk.i64_in _ (by omega)
      go_wp2_with fail
      go_roundg (n - (j + 1))
      case measure => have := HGK.out; omega
      case rel => exact ⟨j + 1, by omega, rfl, by go_num, by go_num, M2⟩
    · have hjn : n = j := by omega
      subst hjn
      go_wp2_with fail
      go_ret
      exact ⟨rfl, hM.out.only, rw_same hM.out.row fun i hi => by unfold mix; rw [if_pos hi]⟩
end Go.Proofs.Ytieimijkkjhegaa
/- what the laws look at in their arguments, step by step -/
namespace Go.Proofs.Ytieimijkkjhegaa
open Go.ChangeShapes Go.WideShapes Go.ChangeAt Go.RowKit Go.Joins
set_option linter.unusedVariables false
set_option linter.unusedSimpArgs false
set_option maxRecDepth 4000
theorem law_eqX (l : List (Int × Int)) (hl : l.length ≤ 1048576) (W : World) (g g' c c' : Nat) (h : Set W g l.length l.length l) (h' : Set W g' l.length l.length l) :
    Calls Try.prog 19 #[.slice (some ⟨g, 0, none⟩) l.length c, .slice (some ⟨g', 0, none⟩) l.length c'] W fun e w' => e = .returned (.bool true) ∧ Below W.heap.size W w' :=
  (eqPegS_any _ _ c c' l l W hl hl (rd_of_set h) (rd_of_set h')).mono fun e w' hh => ⟨hh.1.trans (ret_bool (by simp)), hh.2⟩
theorem law_mark (l : List (Int × Int)) (hl : l.length ≤ 1048576) (W : World) (g c : Nat) (h : Set W g l.length l.length l) :
    Calls Try.prog 22 #[.slice (some ⟨g, 0, none⟩) l.length c, .int .i64 1] W fun e w' => e = .returned (.int .i64 (1 + 2 * (l.length : Int))) ∧ Only g (g + 1) W w' :=
  (markPegS_any _ c l.length 1 g (g + 1) (pt l) W hl (by omega) (by omega) (rw_of_set h)).mono fun e w' hh => ⟨hh.1, hh.2.1⟩
theorem only_grow {w W W' : World} {lo B : Nat} (h : Below w.heap.size w W) (ho : Only lo B W W') (hl : w.heap.size ≤ lo) : Below w.heap.size w W' := h.trans (ho.below.mono hl)
theorem below_grow {w W W' : World} (h : Below w.heap.size w W) (hb : Below W.heap.size W W') : Below w.heap.size w W' := h.trans (hb.mono h.size)
end Go.Proofs.Ytieimijkkjhegaa
/- contract: marks that are held -/
namespace Go.Proofs.Ytieimijkkjhegaa
open Go.ChangeShapes Go.WideShapes Go.ChangeAt Go.RowKit Go.Joins
set_option linter.unusedVariables false
set_option linter.unusedSimpArgs false
set_option maxRecDepth 4000
set_option maxHeartbeats 1000000 in
theorem heldPegS_any (A : Option Addr) (c n : Nat) (k : Int) (lo B : Nat) (w : World) (hn : n ≤ 1048576) (hk1 : 1 ≤ k) (hk2 : k ≤ 1000000000) (hR : Rw w lo B A n (mk k)) :
    Calls Try.prog 23 #[.slice A n c, .int .i64 k] w fun e w' => e = .returned (.int .i64 (k + 2 * (n : Int))) ∧ w = w' := by
  have HR := Lib.hid hR
  clear hR
  go_enter Try.func23, Try.ntmps23
  go_wp2_with fail
  go_loopg [1, 5] n (fun g u i wr => ∃ j : Nat, j ≤ n ∧ g = n - j ∧ i = .int .i64 j ∧ u = .int .i64 (k + 2 * (j : Int)) ∧ w = wr)
  case atStart => exact ⟨0, Nat.zero_le _, rfl, rfl, by simp, rfl⟩
  case round =>
    obtain ⟨j, hj, hg, rfl, rfl, rfl⟩ := hrel
    have HGK := Lib.hid hg
    clear hg
    by_cases hlt : j < n
    · obtain ⟨b, off, hA, hb1, hb2, hc⟩ := HR.out (by omega)
      subst hA
      obtain ⟨⟨c1, c2⟩, z1, z2⟩ := hc j hlt
      have c1' : w.cell? ⟨b, off + j * 2, none⟩ = some (.int .i64 (k + 2 * (j : Int))) := c1
      have c2' : w.cell? ⟨b, off + j * 2 + 1, none⟩ = some (.int .i64 (k + 2 * (j : Int) + 1)) := c2
      clear hc c1 c2
      go_wp2_with fail
      go_roundg (n - (j + 1))
      case measure => have := HGK.out; omega
      case rel => exact ⟨j + 1, by omega, rfl, by go_num, by go_num, rfl⟩
    · have hjn : n = j := by omega
      subst hjn
      go_wp2_with fail
      go_ret
      exact ⟨rfl, rfl⟩
end Go.Proofs.Ytieimijkkjhegaa
/- what the laws of functions that give a list of points look at, step by step -/
namespace Go.Proofs.Ytieimijkkjhegaa
open Go.ChangeShapes Go.WideShapes Go.ChangeAt Go.RowKit Go.Joins
set_option linter.unusedVariables false
set_option linter.unusedSimpArgs false
set_option maxRecDepth 4000
/-- a call that gives p points F and says whether there are such -/
def RetN (w : World) (p : Nat) (F : Nat → Int × Int) (b : Bool) (e : Ending) (w' : World) : Prop :=
  ∃ A c, e = .returned (.tuple #[.slice A p c, .bool b]) ∧ Below w.heap.size w w' ∧ Rw w' w.heap.size w'.heap.size A p F
theorem retN_of_L {w w' : World} {m : List (Int × Int)} {b : Bool} {e : Ending} (h : RetL w m b e w') : RetN w m.length (pt m) b e w' := by
  obtain ⟨A, c, h1, _, _, h4, h5⟩ := h
  exact ⟨A, c, h1, h4, h5⟩
theorem law_eq (m : List (Int × Int)) (hm : m.length ≤ 1048576) (W : World) (lo B lo' B' c c' : Nat) (A A' : Option Addr) (h : Rw W lo B A m.length (pt m)) (hB : B ≤ W.heap.size) (h' : Rw W lo' B' A' m.length (pt m)) (hB' : B' ≤ W.heap.size) :
    Calls Try.prog 19 #[.slice A m.length c, .slice A' m.length c'] W fun e w' => e = .returned (.bool true) ∧ Below W.heap.size W w' :=
  (eqPegS_any A A' c c' m m W hm hm (rd_more (rw_rd h) hB) (rd_more (rw_rd h') hB')).mono fun e w' hh => ⟨hh.1.trans (ret_bool (by simp)), hh.2⟩
end Go.Proofs.Ytieimijkkjhegaa
/- an argument that is a list of points, opened -/
namespace Go.Proofs.Ytieimijkkjhegaa
open Go.ChangeShapes Go.WideShapes Go.ChangeAt Go.RowKit Go.Joins
set_option linter.unusedVariables false
set_option linter.unusedSimpArgs false
set_option maxRecDepth 4000
open Go.Deep
theorem lt_of_cell {w : World} {a : Addr} {u : Value} (h : w.cell? a = some u) : a.block < w.heap.size := by
  rcases Nat.lt_or_ge a.block w.heap.size with h1 | h1
  · exact h1
  · unfold World.cell? at h
    rw [Array.getElem?_eq_none h1] at h
    simp at h
section
variable {H : Type} {enc : TypeId × Value → H}
/-- a point of the laws' package, read from two cells -/
theorem read_peg {w : World} {base : Nat} {spare : Nat → Bool} {held : Bool} {fuel : Nat} {c0 c1 : Value} {x : DataW H × List MemPlace}
    (h : DataW.trod enc Try.prog w base spare held fuel 74 [c0, c1] = some x) : ∃ a b : Int, c0 = .int .i64 a ∧ c1 = .int .i64 b := by
  obtain ⟨xs, n, _, _, _, hlen, hg⟩ := DataW.trod_struct Try.underlying74 h
  have g0 : DataW.trod enc Try.prog w base spare held n 3 ((List.drop 0 [c0, c1]).take (Try.prog.cellsOf 3)) = xs[0]? := hg 0 _ rfl
  have g1 : DataW.trod enc Try.prog w base spare held n 3 ((List.drop 1 [c0, c1]).take (Try.prog.cellsOf 3)) = xs[1]? := hg 1 _ rfl
  have k3 : Try.prog.cellsOf 3 = 1 := by kernel_rfl
  rw [k3] at g0 g1
  match xs, hlen with
  | [y0, y1], _ =>
    simp only [List.drop_zero, List.drop_succ_cons, List.take_succ_cons, List.take_zero, List.getElem?_cons_zero, List.getElem?_cons_succ] at g0 g1
    obtain ⟨a, e0, _, _⟩ := DataW.trod_int Try.underlying3 g0
    obtain ⟨b, e1, _, _⟩ := DataW.trod_int Try.underlying3 g1
    simp only [List.cons.injEq, and_true] at e0 e1
    exact ⟨a, b, e0, e1⟩
/-- an argument that is a list of points -/
theorem open_pegs {w : World} {r : Reach} {b0 base : Nat} {spare : Nat → Bool} {v : Value} {d : DataW H} {p : List MemPlace} (hv : Value.okWide Try.prog w r b0 22 v)
    (h : DataW.Trod enc Try.prog w base spare true 22 v d p) : ∃ (A : Option Addr) (c : Nat) (l : List (Int × Int)), v = .slice A l.length c ∧ l.length ≤ c ∧ c ≤ maxLen ∧ Rd w w.heap.size A l := by
  obtain ⟨a0, len, cap, rfl⟩ := okWide_slice Try.underlying22 hv
  obtain ⟨fuel, hf⟩ := h
  rcases open_slice Try.underlying22 hf with ⟨hcs, _⟩ | ⟨a, len', cap', m, n, D, Pl, hcs, _, hl, hm, hmm, _, hi⟩
  · simp [Value.cells] at hcs
    obtain ⟨rfl, rfl, rfl⟩ := hcs
    exact ⟨none, 0, [], rfl, by simp, by simp, fun h => absurd h (by simp)⟩
  · simp [Value.cells] at hcs
    obtain ⟨rfl, rfl, rfl⟩ := hcs
    have hml : len ≤ m := by rw [hmm]; split <;> omega
    have hC : Try.prog.cellsOf 74 = 2 := cells74
    have key : ∀ i, ∃ q : Int × Int, i < len → w.cell? (a.add (i * 2)) = some (.int .i64 q.1) ∧ w.cell? ((a.add (i * 2)).add 1) = some (.int .i64 q.2) := fun i => by
      by_cases hlt : i < len
      · obtain ⟨cs', hc, ht⟩ := hi i (by omega)
        rw [hC] at hc
        obtain ⟨_, hcl, hat⟩ := World.cells?_some hc
        match cs', hcl with
        | [c0, c1], _ =>
          obtain ⟨x, y, rfl, rfl⟩ := read_peg ht
          have h0 := hat 0 (by omega)
          have h1 := hat 1 (by omega)
          refine ⟨(x, y), fun _ => ⟨?_, h1⟩⟩
          have : (a.add (i * 2)).add 0 = a.add (i * 2) := by unfold Addr.add; simp
          rw [this] at h0
          exact h0
      · exact ⟨(0, 0), fun h => absurd h hlt⟩
    refine ⟨some a, cap, (List.range len).map fun i => Classical.choose (key i), by simp, by simpa using hl, hm, fun hpos => ?_⟩
    have hpos' : 0 < len := by simpa using hpos
    have k0 := (Classical.choose_spec (key 0) hpos').1
    obtain ⟨b, off, spot⟩ := a
    have hspot : spot = none := by simpa [Addr.add] using World.cell?_spot k0
    subst hspot
    refine ⟨b, off, rfl, ?_, fun i q hq => ?_⟩
    · have := lt_of_cell k0
      rw [add_plain] at this
      exact this
    · have hlt : i < len := by
        have := (List.getElem?_eq_some_iff.1 hq).1
        simpa using this
      have e : q = Classical.choose (key i) := by
        rw [List.getElem?_map, List.getElem?_range hlt] at hq
        simpa using hq.symm
      have hs := Classical.choose_spec (key i) hlt
      rw [← e] at hs
      rw [add_plain, add_plain] at hs
      exact hs
end
end Go.Proofs.Ytieimijkkjhegaa

