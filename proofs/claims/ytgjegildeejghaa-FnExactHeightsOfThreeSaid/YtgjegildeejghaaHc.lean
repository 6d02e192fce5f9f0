/- contracts: HeightsOfThree, the program -/
import Derived.Test.YtgjegildeejghaaHb
import Derived.Laws.MakeOwn
namespace Go.Proofs.Ytgjegildeejghaa
open Go.ChangeShapes Go.WideShapes Go.ChangeAt Go.RowKit Go.Joins
set_option linter.unusedVariables false
set_option linter.unusedSimpArgs false
set_option maxRecDepth 4000
theorem idx3s (l : List (Int × Int)) (k : Nat) (hk : k < 3) (W : World) : (Instr.index 72 (.agg #[.int .i64 (sdF l 0), .int .i64 (sdF l 1), .int .i64 (sdF l 2)]) (.int .i64 (k : Int))).run Try.prog W = .ok (.int .i64 (sdF l k)) W := by
  rcases (show k = 0 ∨ k = 1 ∨ k = 2 by omega) with rfl | rfl | rfl
  all_goals first | rfl | kernel_rfl
set_option maxHeartbeats 4000000 in
theorem implHeightsOfThree_any (A : Option Addr) (c : Nat) (l : List (Int × Int)) (w : World) (hn : l.length ≤ 1048576) (hR : Rd w w.heap.size A l) :
    Calls Try.prog 29 #[.slice A l.length c] w (RetS w (h3 l) (fun _ => 2) (hF l) (tB l)) := by
  by_cases ht : tB l = true
  · obtain ⟨a1, a2, b1, b2, c1, c2, htr⟩ := tB_true ht
    have K := Lib.hid (threeOf_t A c l a1 a2 b1 b2 c1 c2 w hR htr)
    have KR := Lib.hid (fun W => twice_any a1 a2 b1 b2 c1 c2 W (tri_sz htr).1 (tri_sz htr).2.1 (tri_sz htr).2.2)
    rw [← tri_area htr] at KR
    have KSQ := Lib.hid (fun W => sideSquares_any l a1 a2 b1 b2 c1 c2 W htr)
    have HF := Lib.hid (fun i => hG_facts htr i)
    have HSD := Lib.hid (fun i => sdF_bd htr i)
    have IX := Lib.hid (fun k hk W => idx3s l k hk W)
    rw [show h3 l = 3 from if_pos ht]
    rw [ht]
    obtain ⟨i0, hi0, hz0, hz1, hz2⟩ := info_parts2 ints_info
    have hmk := fun W => run_make (P := Try.prog) W 36 30 i0 _ Try.underlying36 hi0 hz0 .i64 .i64 (0 : Int) (3 : Int) (by omega) (by omega) (by rw [hz2]; omega) (by omega)
    simp only [Int.toNat_zero, show (3 : Int).toNat = 3 from rfl, hz1] at hmk
    clear ht htr hR hi0 hz0 hz1 hz2
    go_enter Try.func29, Try.ntmps29
    go_wp2_with fail
    refine K.out.mono ?_; rintro e w1 ⟨rfl, hb1⟩
    go_wp2_with fail
    obtain ⟨W0, hW0⟩ : ∃ W0, W0 = (w1.alloc (.cells #[.int .i64 a1, .int .i64 a2, .int .i64 b1, .int .i64 b2, .int .i64 c1, .int .i64 c2] 67)) := ⟨_, rfl⟩
    rw [← hW0]
    have yW00_0 : W0.cell? ⟨w1.heap.size, 0, none⟩ = some (.int .i64 a1) := by rw [hW0]; go_simp
    have yW00_1 : W0.cell? ⟨w1.heap.size, 1, none⟩ = some (.int .i64 a2) := by rw [hW0]; go_simp
    have yW00_2 : W0.cell? ⟨w1.heap.size, 2, none⟩ = some (.int .i64 b1) := by rw [hW0]; go_simp
    have yW00_3 : W0.cell? ⟨w1.heap.size, 3, none⟩ = some (.int .i64 b2) := by rw [hW0]; go_simp
    have yW00_4 : W0.cell? ⟨w1.heap.size, 4, none⟩ = some (.int .i64 c1) := by rw [hW0]; go_simp
    have yW00_5 : W0.cell? ⟨w1.heap.size, 5, none⟩ = some (.int .i64 c2) := by rw [hW0]; go_simp
    have fW00 : ∀ o, W0.frozen? ⟨w1.heap.size, o, none⟩ = false := by intro o; rw [hW0]; (repeat rw [frozen?_alloc_cells]); simp [World.frozen?]
    have zW00 : w1.heap.size < W0.heap.size := by rw [hW0]; simp <;> omega
    have BW0 : Below w1.heap.size w1 W0 := by rw [hW0]; exact (Below.alloc (Below.refl _ _) (by simp <;> omega) _)
    have eW0 : Hid (W0.heap.size = w1.heap.size + 1) := Lib.hid (by rw [hW0]; simp)
    clear hW0
    have B0 := hb1.trans (BW0.mono hb1.size)
    refine (KR.out _).mono ?_; rintro e wr ⟨rfl, hbr⟩
    have Br := B0.trans (hbr.mono B0.size)
    have c0 := ((bcell hbr).1 _ 0 zW00).trans yW00_0
    have c1' := ((bcell hbr).1 _ 1 zW00).trans yW00_1
    have c2' := ((bcell hbr).1 _ 2 zW00).trans yW00_2
    have c3 := ((bcell hbr).1 _ 3 zW00).trans yW00_3
    have c4 := ((bcell hbr).1 _ 4 zW00).trans yW00_4
    have c5 := ((bcell hbr).1 _ 5 zW00).trans yW00_5
    have zr : w1.heap.size < wr.heap.size := Nat.lt_of_lt_of_le zW00 hbr.size
    clear hbr B0 BW0 yW00_0 yW00_1 yW00_2 yW00_3 yW00_4 yW00_5 zW00 fW00 eW0 hb1
    go_wp2_with fail
    have HM0 := Lib.hid (show RowH (wr.alloc (.cells (madeCells #[.slice none 0 0] 3) 30)) wr.heap.size (.slice (some ⟨wr.heap.size, 0, none⟩) 0 3) (hX l) (hY l) 0 from ⟨[], fun _ => 0, World.ownsRow_made (base := wr.heap.size) (e := 30) (size := 1) wr _ 3 (Nat.le_refl _) (by unfold maxLen; omega) (size_madeCells _ _), fun i h => absurd h (Nat.not_lt_zero i)⟩)
    have BM := Below.alloc (Below.refl wr.heap.size wr) (Nat.le_refl _) (.cells (madeCells #[.slice none 0 0] 3) 30)
    refine (KSQ.out _).mono ?_; rintro e w2 ⟨rfl, hb2⟩
    have HM2 := Lib.hid (rowH_below HM0.out hb2 (Nat.le_refl _))
    have B2 := BM.trans (hb2.mono BM.size)
    clear hb2 BM HM0 hmk c0 c1' c2' c3 c4 c5 K KR KSQ
    go_wp2_with fail
    go_loopg [7, 23] 3 (fun gg v i wx => ∃ (k : Nat) (u : Value), v = u ∧ k ≤ 3 ∧ gg = 3 - k ∧ i = .int .i64 k ∧ Below wr.heap.size wr wx ∧ Hid (RowH wx wr.heap.size u (hX l) (hY l) k))
    case atStart => exact ⟨0, _, rfl, by omega, rfl, rfl, B2, HM2⟩
    case round =>
      clear HM2 B2
      obtain ⟨k, u, rfl, hk, hgg, rfl, hB, HR⟩ := hrel
      rename World => wo
      have HGK := Lib.hid hgg
      clear hgg
      by_cases hlt : k < 3
      · have ix := IX.out k hlt
        have e3 : (k : Int) < 3 := by omega
        generalize sdF l 0 = z0 at *
        generalize sdF l 1 = z1 at *
        generalize sdF l 2 = z2 at *
        obtain ⟨hg0, hx0, hy0, hq0⟩ := HF.out k
        have KG := Lib.hid (fun W => greatestDivisorW_any (areaN l * areaN l) (sdF l k) W (by omega) (by omega) (by have := HSD.out k; omega) (by have := HSD.out k; omega))
        have eX : IntKind.i64.wrap ((areaN l * areaN l).tdiv (hG l k)) = hX l k := IntWalk.i64_in _ (show -9223372036854775808 ≤ hX l k ∧ hX l k ≤ 9223372036854775807 by omega)
        have eY : IntKind.i64.wrap ((sdF l k).tdiv (hG l k)) = hY l k := IntWalk.i64_in _ (show -9223372036854775808 ≤ hY l k ∧ hY l k ≤ 9223372036854775807 by omega)
        have eM : IntKind.i64.wrap (areaN l * areaN l) = areaN l * areaN l := IntWalk.i64_in _ (by omega)
        rw [show (Nat.gcd (areaN l * areaN l).natAbs (sdF l k).natAbs : Int) = hG l k from rfl] at KG
        obtain ⟨X, hXe⟩ : ∃ X, X = hX l k := ⟨_, rfl⟩
        obtain ⟨Y, hYe⟩ : ∃ Y, Y = hY l k := ⟨_, rfl⟩
        have HXY : Hid (X = hX l k ∧ Y = hY l k) := Lib.hid ⟨hXe, hYe⟩
        rw [← hXe] at eX
        rw [← hYe] at eY
        clear hx0 hy0 hq0 hXe hYe
        generalize hG l k = gk at *
        generalize sdF l k = sk at *
        generalize areaN l = ar at *
        go_wp2_with fail
        refine (KG.out _).mono ?_; rintro e wp ⟨rfl, hbp⟩
        have hB0 := hB
        have hB := hB0.trans (hbp.mono hB0.size)
        have HR := Lib.hid (rowH_below HR.out hbp (Nat.le_refl _))
        clear hB0 hbp KG ix
        rename World => wo
        go_wp2_with fail
        refine wp_region_any (by kernel_rfl) ?_
        refine wpAny_take (i := 0) (v := u7) rfl (by kernel_rfl) (by kernel_rfl) (by kernel_rfl) (fun _ _ _ h => h) (Or.inl ⟨by rfl, fun W => by first | rfl | go_simp⟩) ?_
        (try simp only [List.getElem_toArray, List.getElem_cons_zero, List.getElem_cons_succ, Act.put, List.setIfInBounds_toArray, List.set_cons_zero, List.set_cons_succ])
        refine wpAny_take (i := 1) (v := .int .i64 ar) rfl (by kernel_rfl) (by kernel_rfl) (by kernel_rfl) (fun _ _ _ h => h) (Or.inl ⟨by rfl, fun W => by first | rfl | go_simp⟩) ?_
        (try simp only [List.getElem_toArray, List.getElem_cons_zero, List.getElem_cons_succ, Act.put, List.setIfInBounds_toArray, List.set_cons_zero, List.set_cons_succ])
        refine wpAny_take (i := 2) (v := .int .i64 ar) rfl (by kernel_rfl) (by kernel_rfl) (by kernel_rfl) (fun _ _ _ h => h) (Or.inl ⟨by rfl, fun W => by first | rfl | go_simp⟩) ?_
        (try simp only [List.getElem_toArray, List.getElem_cons_zero, List.getElem_cons_succ, Act.put, List.setIfInBounds_toArray, List.set_cons_zero, List.set_cons_succ])
        refine wpAny_take (i := 3) (v := .int .i64 (ar * ar)) rfl (by kernel_rfl) (by kernel_rfl) (by kernel_rfl) (fun _ _ _ h => h) (Or.inl ⟨by rfl, fun W => by first | rfl | go_simp⟩) ?_
        (try simp only [List.getElem_toArray, List.getElem_cons_zero, List.getElem_cons_succ, Act.put, List.setIfInBounds_toArray, List.set_cons_zero, List.set_cons_succ])
        refine wpAny_take (i := 4) (v := .int .i64 gk) rfl (by kernel_rfl) (by kernel_rfl) (by kernel_rfl) (fun _ _ _ h => h) (Or.inl ⟨by rfl, fun W => by first | rfl | go_simp⟩) ?_
        (try simp only [List.getElem_toArray, List.getElem_cons_zero, List.getElem_cons_succ, Act.put, List.setIfInBounds_toArray, List.set_cons_zero, List.set_cons_succ])
        refine wpAny_take (i := 5) (v := .int .i64 X) rfl (by kernel_rfl) (by kernel_rfl) (by kernel_rfl) (fun _ _ _ h => h) (Or.inl ⟨by rfl, fun W => by first | rfl | go_simp⟩) ?_
        (try simp only [List.getElem_toArray, List.getElem_cons_zero, List.getElem_cons_succ, Act.put, List.setIfInBounds_toArray, List.set_cons_zero, List.set_cons_succ])
        refine wpAny_take (i := 6) (v := .int .i64 sk) rfl (by kernel_rfl) (by kernel_rfl) (by kernel_rfl) (fun _ _ _ h => h) (Or.inl ⟨by rfl, fun W => by first | rfl | go_simp⟩) ?_
        (try simp only [List.getElem_toArray, List.getElem_cons_zero, List.getElem_cons_succ, Act.put, List.setIfInBounds_toArray, List.set_cons_zero, List.set_cons_succ])
        refine wpAny_take (i := 7) (v := .int .i64 gk) rfl (by kernel_rfl) (by kernel_rfl) (by kernel_rfl) (fun _ _ _ h => h) (Or.inl ⟨by rfl, fun W => by first | rfl | go_simp⟩) ?_
        (try simp only [List.getElem_toArray, List.getElem_cons_zero, List.getElem_cons_succ, Act.put, List.setIfInBounds_toArray, List.set_cons_zero, List.set_cons_succ])
        refine wpAny_take (i := 8) (v := .int .i64 Y) rfl (by kernel_rfl) (by kernel_rfl) (by kernel_rfl) (fun _ _ _ h => h) (Or.inl ⟨by rfl, fun W => by first | rfl | go_simp⟩) ?_
        (try simp only [List.getElem_toArray, List.getElem_cons_zero, List.getElem_cons_succ, Act.put, List.setIfInBounds_toArray, List.set_cons_zero, List.set_cons_succ])
        refine wpAny_all (rs := [9]) (by kernel_rfl) (by simp) (fun i hi => ?_)
        obtain rfl : i = 9 := by simpa using hi
        refine wpOp_val (v := .slice (some ⟨wo.heap.size, 0, none⟩) 2 2) (w' := wo.drew.alloc (.cells #[.int .i64 X, .int .i64 Y] 3)) rfl (by rfl) (by go_simp) ?_
        (try simp only [List.getElem_toArray, List.getElem_cons_zero, List.getElem_cons_succ, Act.put, List.setIfInBounds_toArray, List.set_cons_zero, List.set_cons_succ])
        refine wpAny_all (rs := [10]) (by kernel_rfl) (by simp) (fun i hi => ?_)
        obtain rfl : i = 10 := by simpa using hi
        refine wpOp_val (v := .slice (some ⟨wo.heap.size + 1, 0, none⟩) 1 1) (w' := (wo.drew.alloc (.cells #[.int .i64 X, .int .i64 Y] 3)).alloc (.cells #[.slice (some ⟨wo.heap.size, 0, none⟩) 2 2] 30)) rfl (by rfl) (by go_simp) ?_
        (try simp only [List.getElem_toArray, List.getElem_cons_zero, List.getElem_cons_succ, Act.put, List.setIfInBounds_toArray, List.set_cons_zero, List.set_cons_succ])
        refine wpAny_all (rs := [11]) (by kernel_rfl) (by simp) (fun i hi => ?_)
        obtain rfl : i = 11 := by simpa using hi
        obtain ⟨xs, q, ho, hq⟩ := HR.out
        have ho1 : wo.drew.ownsRow wr.heap.size 30 1 u7 k xs := own_block ho fun _ _ => rfl
        have hq1 : ∀ i, i < k → PairAt wo.drew wr.heap.size xs q (hX l) (hY l) i := hq
        have ho2 := (ho1.alloc (.cells #[.int .i64 X, .int .i64 Y] 3)).alloc (.cells #[.slice (some ⟨wo.heap.size, 0, none⟩) 2 2] 30)
        obtain ⟨i0, hi0, hz0, hz1, hz2'⟩ := info_parts2 ints_info
        have hbz := hB.size
        have BW2 : Below wr.heap.size wr ((wo.drew.alloc (.cells #[.int .i64 X, .int .i64 Y] 3)).alloc (.cells #[.slice (some ⟨wo.heap.size, 0, none⟩) 2 2] 30)) := Below.alloc (Below.alloc hB.drew hbz _) (by rw [heap_size_al]; show wr.heap.size ≤ wo.heap.size + 1; omega) _
        have HX := BW2.size
        have hnew : ∀ j v, [Value.slice (some ⟨wo.heap.size, 0, none⟩) 2 2][j]? = some v → ((wo.drew.alloc (.cells #[.int .i64 X, .int .i64 Y] 3)).alloc (.cells #[.slice (some ⟨wo.heap.size, 0, none⟩) 2 2] 30)).cell? ((⟨wo.heap.size + 1, 0, none⟩ : Addr).add j) = some v := fun j v hj => by
          match j, hj with
          | 0, hj =>
            simp at hj
            subst hj
            show ((wo.drew.alloc (.cells #[.int .i64 X, .int .i64 Y] 3)).alloc (.cells #[.slice (some ⟨wo.heap.size, 0, none⟩) 2 2] 30)).cell? ⟨wo.heap.size + 1, 0, none⟩ = _
            go_simp
        refine wpOp_left rfl (by rfl) (wp_append_own _ (.tmp 31) (.tmp 41) 36 rfl wr.heap.size 30 i0 (.slice none 0 0) 1 24 Try.underlying36 hi0 hz0 hz1 hz2' rfl (by decide) u7 k xs rfl ho2 ⟨wo.heap.size + 1, 0, none⟩ 1 1 [.slice (some ⟨wo.heap.size, 0, none⟩) 2 2] rfl rfl hnew (fun v hv => by simp at hv; subst hv; rfl) (by unfold maxLen; omega) (by omega) HX ?_)
        intro v' w' hown hgr _
        have EX := HXY.out
        obtain ⟨EX1, EX2⟩ := EX
        subst EX1 EX2
        have R2 := Lib.hid (rowH_push (W := wo.drew) (base := wr.heap.size) (x := hX l) (y := hY l) hbz ho1 hq1 hown hgr)
        have B2 := BW2.grown hgr HX fun g hgk => (ho2.lt g hgk).1
        clear hown hgr ho2 ho1 hq1 hq ho HX BW2 hnew hi0 hz0 hz1 hz2'
        (try simp only [List.getElem_toArray, List.getElem_cons_zero, List.getElem_cons_succ, Act.put, List.setIfInBounds_toArray, List.set_cons_zero, List.set_cons_succ])
        refine wpAny_all (rs := [12]) (by kernel_rfl) (by simp) (fun i hi => ?_)
        obtain rfl : i = 12 := by simpa using hi
        refine wpOp_val (v := v') (w' := w') rfl (by rfl) (by first | rfl | go_simp) ?_
        (try simp only [List.getElem_toArray, List.getElem_cons_zero, List.getElem_cons_succ, Act.put, List.setIfInBounds_toArray, List.set_cons_zero, List.set_cons_succ])
        refine wpAny_done (by kernel_rfl) ?_ _
        go_wp2_with fail
        go_roundg (3 - (k + 1))
        case measure => have := HGK.out; omega
        case rel => exact ⟨k + 1, v', rfl, by omega, rfl, by go_num, B2, R2⟩
      · have hk3 : k = 3 := by omega
        subst hk3
        go_wp2_with fail
        go_ret2
        exact retS_row Br HR.out (by omega) hB
  · have K := Lib.hid (threeOf_f A c l w hn hR ht)
    have htf : tB l = false := by simpa using ht
    rw [show h3 l = 0 from if_neg ht]
    rw [htf]
    clear ht htf hR
    go_enter Try.func29, Try.ntmps29
    go_wp2_with fail
    refine K.out.mono ?_; rintro e w1 ⟨rfl, hb1⟩
    have BA := Below.alloc hb1 hb1.size (.cells #[.int .i64 0, .int .i64 0, .int .i64 0, .int .i64 0, .int .i64 0, .int .i64 0] 67)
    go_wp2_with fail
    go_ret2
    exact retS_nil BA
end Go.Proofs.Ytgjegildeejghaa
