/- contracts: HeightsOfThree, on both sides -/
import Derived.Test.YtgjegildeejghaaHa
import Derived.Test.YtgjegildeejghaaCa
import Derived.Test.YtgjegildeejghaaTn
import Derived.BigRegion
namespace Go.Proofs.Ytgjegildeejghaa
open Go.ChangeShapes Go.WideShapes Go.ChangeAt Go.RowKit Go.Joins
set_option linter.unusedVariables false
set_option linter.unusedSimpArgs false
set_option maxRecDepth 4000
def hG (l : List (Int × Int)) (i : Nat) : Int := ((Nat.gcd (areaN l * areaN l).natAbs (sdF l i).natAbs : Nat) : Int)
def hX (l : List (Int × Int)) (i : Nat) : Int := (areaN l * areaN l).tdiv (hG l i)
def hY (l : List (Int × Int)) (i : Nat) : Int := (sdF l i).tdiv (hG l i)
def hF (l : List (Int × Int)) (i t : Nat) : Int := if t = 0 then hX l i else hY l i
theorem heap_size_al (w : World) (o : Obj) : (w.alloc o).heap.size = w.heap.size + 1 := by simp
noncomputable def h3 (l : List (Int × Int)) : Nat := if tB l = true then 3 else 0
theorem sdF_bd {l : List (Int × Int)} {a1 a2 b1 b2 c1 c2 : Int} (ht : Tri l a1 a2 b1 b2 c1 c2) (i : Nat) : 0 ≤ sdF l i ∧ sdF l i ≤ 12800 := by
  have hp := fun j => vx_pg ht.2.pegs (good_pos ht.2) j
  have h1 := hp (i + 1)
  have h2 := hp (i + 2)
  unfold isPg isPegB at h1 h2
  simp only [Bool.and_eq_true, decide_eq_true_eq] at h1 h2
  unfold sdF sqP
  exact sqI_bd h1.1 h1.2 h2.1 h2.2
theorem tri_tw {l : List (Int × Int)} {a1 a2 b1 b2 c1 c2 : Int} (ht : Tri l a1 a2 b1 b2 c1 c2) : twI a1 a2 b1 b2 c1 c2 ≠ 0 := by
  have h := ht.2.turn 0 (good_pos ht.2)
  rw [ht.1] at h
  exact h
theorem hG_facts {l : List (Int × Int)} {a1 a2 b1 b2 c1 c2 : Int} (ht : Tri l a1 a2 b1 b2 c1 c2) (i : Nat) : hG l i ≠ 0 ∧ (-200000000 ≤ hX l i ∧ hX l i ≤ 200000000) ∧ (-200000000 ≤ hY l i ∧ hY l i ≤ 200000000) ∧ (0 ≤ areaN l * areaN l ∧ areaN l * areaN l ≤ 200000000) := by
  obtain ⟨⟨u1, u2⟩, ⟨u3, u4⟩, ⟨u5, u6⟩, ⟨u7, u8⟩, ⟨u9, u10⟩, ⟨u11, u12⟩⟩ := tri_bd ht
  have hA : areaN l ≠ 0 := by rw [tri_area ht]; exact tri_tw ht
  have hb : -12800 ≤ areaN l ∧ areaN l ≤ 12800 := by
    rw [tri_area ht]
    unfold twI
    have m1 := mul_bd (x := b1 - a1) (y := c2 - a2) (m := 80) (n := 80) (by omega) (by omega) (by omega) (by omega)
    have m2 := mul_bd (x := c1 - a1) (y := b2 - a2) (m := 80) (n := 80) (by omega) (by omega) (by omega) (by omega)
    have m3 := mul_bd (x := b2 - a2) (y := c1 - a1) (m := 80) (n := 80) (by omega) (by omega) (by omega) (by omega)
    omega
  have hs := sdF_bd ht i
  have hq : 0 ≤ areaN l * areaN l ∧ areaN l * areaN l ≤ 200000000 := by
    have := mul_bd (x := areaN l) (y := areaN l) (m := 12800) (n := 12800) hb.1 hb.2 hb.1 hb.2
    have h0 : 0 ≤ areaN l * areaN l := by
      rcases Int.le_total 0 (areaN l) with h | h
      · exact Int.mul_nonneg h h
      · exact Int.mul_nonneg_of_nonpos_of_nonpos h h
    omega
  have hg : hG l i ≠ 0 := by
    unfold hG
    have h0 : areaN l * areaN l ≠ 0 := fun e => hA (by rcases Int.mul_eq_zero.1 e with h | h <;> exact h)
    have := Nat.gcd_pos_of_pos_left (sdF l i).natAbs (show 0 < (areaN l * areaN l).natAbs by omega)
    omega
  refine ⟨hg, ?_, ?_, hq⟩
  · have h2 : (hX l i).natAbs ≤ (areaN l * areaN l).natAbs := by unfold hX; rw [Int.natAbs_tdiv]; exact Nat.div_le_self _ _
    omega
  · have h2 : (hY l i).natAbs ≤ (sdF l i).natAbs := by unfold hY; rw [Int.natAbs_tdiv]; exact Nat.div_le_self _ _
    omega
set_option maxHeartbeats 4000000 in
theorem specHeightsOfThree_any (A : Option Addr) (c : Nat) (l : List (Int × Int)) (w : World) (hn : l.length ≤ 1048576) (hcap : l.length ≤ c) (hc2 : c ≤ 9223372036854775807) (hR : Rd w w.heap.size A l) :
    Calls Try.prog 28 #[.slice A l.length c] w (RetS w (h3 l) (fun _ => 2) (hF l) (tB l)) := by
  have K := Lib.hid (trThree_any A c l w hn hcap hc2 hR)
  by_cases ht : tB l = true
  · obtain ⟨a1, a2, b1, b2, c1, c2, htr⟩ := tB_true ht
    have h10 := htr.2.few
    have KA := Lib.hid (fun W (hb : Below w.heap.size w W) => pgArea_any A c l W h10.1 h10.2 htr.2.pegs (rd_more (rd_below hR hb (Nat.le_refl _)) hb.size))
    have K2 := Lib.hid (fun W (hb : Below w.heap.size w W) => trSides_any A c l a1 a2 b1 b2 c1 c2 W (rd_more (rd_below hR hb (Nat.le_refl _)) hb.size) htr)
    have HF := Lib.hid (fun i => hG_facts htr i)
    have HSD := Lib.hid (fun i => sdF_bd htr i)
    rw [show h3 l = 3 from if_pos ht]
    rw [ht] at K ⊢
    clear ht htr hR h10
    go_enter Try.func28, Try.ntmps28
    go_wp2_with fail
    refine K.out.mono ?_; rintro e w1 ⟨rfl, hb1⟩
    go_wp2_with fail
    refine (KA.out w1 hb1).mono ?_; rintro e wa ⟨rfl, hba⟩
    have Ba := hb1.trans (hba.mono hb1.size)
    go_wp2_with fail
    refine (K2.out wa Ba).mono ?_; rintro e w2 ⟨g, rfl, hb2, hg1, hg2, x0, x1, x2, hf⟩
    have B2 := Ba.trans (hb2.mono Ba.size)
    have HS := Lib.hid (fun W (hW : Below w2.heap.size w2 W) i (hi : i < 3) => (show W.cell? ⟨g, i, none⟩ = some (.int .i64 (sdF l i)) from by
      rw [hW.cell (p := ⟨g, i, none⟩) hg2]
      rcases (show i = 0 ∨ i = 1 ∨ i = 2 by omega) with rfl | rfl | rfl
      · exact x0
      · exact x1
      · exact x2))
    clear x0 x1 x2 hf hb2 hba hb1 K KA K2
    go_wp2_with fail
    go_loopg [5, 17] 3 (fun gg v i wr => ∃ (k : Nat) (u : Value), v = u ∧ k ≤ 3 ∧ gg = 3 - k ∧ i = .int .i64 k ∧ Below w2.heap.size w2 wr ∧ Hid (RowH wr w2.heap.size u (hX l) (hY l) k))
    case atStart => exact ⟨0, _, rfl, by omega, rfl, rfl, Below.refl _ _, Lib.hid (rowH_nil _ _ _ _)⟩
    case round =>
      obtain ⟨k, u, rfl, hk, hgg, rfl, hB, HR⟩ := hrel
      rename World => wo
      have HGK := Lib.hid hgg
      clear hgg
      by_cases hlt : k < 3
      · have xk := HS.out wo hB k hlt
        have hgz : g < wo.heap.size := by have := hB.size; omega
        have e3 : (k : Int) < 3 := by omega
        obtain ⟨hg0, hx0, hy0, hq0⟩ := HF.out k
        have KG := Lib.hid (fun W => pgCommonW_any (areaN l * areaN l) (sdF l k) W (by omega) (by omega) (by have := HSD.out k; omega) (by have := HSD.out k; omega))
        have eX : IntKind.i64.wrap ((areaN l * areaN l).tdiv (hG l k)) = hX l k := IntWalk.i64_in _ (show -9223372036854775808 ≤ hX l k ∧ hX l k ≤ 9223372036854775807 by omega)
        have eY : IntKind.i64.wrap ((sdF l k).tdiv (hG l k)) = hY l k := IntWalk.i64_in _ (show -9223372036854775808 ≤ hY l k ∧ hY l k ≤ 9223372036854775807 by omega)
        have eM : IntKind.i64.wrap (areaN l * areaN l) = areaN l * areaN l := IntWalk.i64_in _ (by omega)
        rw [show (Nat.gcd (areaN l * areaN l).natAbs (sdF l k).natAbs : Int) = hG l k from rfl] at KG
        obtain ⟨X, hXe⟩ : ∃ X, X = hX l k := ⟨_, rfl⟩
        obtain ⟨Y, hYe⟩ : ∃ Y, Y = hY l k := ⟨_, rfl⟩
        have HXY : Hid (X = hX l k ∧ Y = hY l k) := Lib.hid ⟨hXe, hYe⟩
        rw [← hXe] at eX
        rw [← hYe] at eY
        clear hx0 hy0 hq0 hXe hYe
        generalize hG l k = gk at *
        generalize sdF l k = sk at *
        generalize areaN l = ar at *
        go_wp2_with fail
        refine (KG.out _).mono ?_; rintro e wp ⟨rfl, hbp⟩
        have hB0 := hB
        have hB := hB0.trans (hbp.mono hB0.size)
        have HR := Lib.hid (rowH_below HR.out hbp (Nat.le_refl _))
        clear hB0 hbp xk KG
        rename World => wo
        go_wp2_with fail
        refine wp_region_any (by kernel_rfl) ?_
        refine wpAny_take (i := 0) (v := u5) rfl (by kernel_rfl) (by kernel_rfl) (by kernel_rfl) (fun _ _ _ h => h) (Or.inl ⟨by rfl, fun W => by first | rfl | go_simp⟩) ?_
        (try simp only [List.getElem_toArray, List.getElem_cons_zero, List.getElem_cons_succ, Act.put, List.setIfInBounds_toArray, List.set_cons_zero, List.set_cons_succ])
        refine wpAny_take (i := 1) (v := .int .i64 ar) rfl (by kernel_rfl) (by kernel_rfl) (by kernel_rfl) (fun _ _ _ h => h) (Or.inl ⟨by rfl, fun W => by first | rfl | go_simp⟩) ?_
        (try simp only [List.getElem_toArray, List.getElem_cons_zero, List.getElem_cons_succ, Act.put, List.setIfInBounds_toArray, List.set_cons_zero, List.set_cons_succ])
        refine wpAny_take (i := 2) (v := .int .i64 ar) rfl (by kernel_rfl) (by kernel_rfl) (by kernel_rfl) (fun _ _ _ h => h) (Or.inl ⟨by rfl, fun W => by first | rfl | go_simp⟩) ?_
        (try simp only [List.getElem_toArray, List.getElem_cons_zero, List.getElem_cons_succ, Act.put, List.setIfInBounds_toArray, List.set_cons_zero, List.set_cons_succ])
        refine wpAny_take (i := 3) (v := .int .i64 (ar * ar)) rfl (by kernel_rfl) (by kernel_rfl) (by kernel_rfl) (fun _ _ _ h => h) (Or.inl ⟨by rfl, fun W => by first | rfl | go_simp⟩) ?_
        (try simp only [List.getElem_toArray, List.getElem_cons_zero, List.getElem_cons_succ, Act.put, List.setIfInBounds_toArray, List.set_cons_zero, List.set_cons_succ])
        refine wpAny_take (i := 4) (v := .int .i64 gk) rfl (by kernel_rfl) (by kernel_rfl) (by kernel_rfl) (fun _ _ _ h => h) (Or.inl ⟨by rfl, fun W => by first | rfl | go_simp⟩) ?_
        (try simp only [List.getElem_toArray, List.getElem_cons_zero, List.getElem_cons_succ, Act.put, List.setIfInBounds_toArray, List.set_cons_zero, List.set_cons_succ])
        refine wpAny_take (i := 5) (v := .int .i64 X) rfl (by kernel_rfl) (by kernel_rfl) (by kernel_rfl) (fun _ _ _ h => h) (Or.inl ⟨by rfl, fun W => by first | rfl | go_simp⟩) ?_
        (try simp only [List.getElem_toArray, List.getElem_cons_zero, List.getElem_cons_succ, Act.put, List.setIfInBounds_toArray, List.set_cons_zero, List.set_cons_succ])
        refine wpAny_take (i := 6) (v := .int .i64 sk) rfl (by kernel_rfl) (by kernel_rfl) (by kernel_rfl) (fun _ _ _ h => h) (Or.inl ⟨by rfl, fun W => by first | rfl | go_simp⟩) ?_
        (try simp only [List.getElem_toArray, List.getElem_cons_zero, List.getElem_cons_succ, Act.put, List.setIfInBounds_toArray, List.set_cons_zero, List.set_cons_succ])
        refine wpAny_take (i := 7) (v := .int .i64 gk) rfl (by kernel_rfl) (by kernel_rfl) (by kernel_rfl) (fun _ _ _ h => h) (Or.inl ⟨by rfl, fun W => by first | rfl | go_simp⟩) ?_
        (try simp only [List.getElem_toArray, List.getElem_cons_zero, List.getElem_cons_succ, Act.put, List.setIfInBounds_toArray, List.set_cons_zero, List.set_cons_succ])
        refine wpAny_take (i := 8) (v := .int .i64 Y) rfl (by kernel_rfl) (by kernel_rfl) (by kernel_rfl) (fun _ _ _ h => h) (Or.inl ⟨by rfl, fun W => by first | rfl | go_simp⟩) ?_
        (try simp only [List.getElem_toArray, List.getElem_cons_zero, List.getElem_cons_succ, Act.put, List.setIfInBounds_toArray, List.set_cons_zero, List.set_cons_succ])
        refine wpAny_all (rs := [9]) (by kernel_rfl) (by simp) (fun i hi => ?_)
        obtain rfl : i = 9 := by simpa using hi
        refine wpOp_val (v := .slice (some ⟨wo.heap.size, 0, none⟩) 2 2) (w' := wo.drew.alloc (.cells #[.int .i64 X, .int .i64 Y] 3)) rfl (by rfl) (by go_simp) ?_
        (try simp only [List.getElem_toArray, List.getElem_cons_zero, List.getElem_cons_succ, Act.put, List.setIfInBounds_toArray, List.set_cons_zero, List.set_cons_succ])
        refine wpAny_all (rs := [10]) (by kernel_rfl) (by simp) (fun i hi => ?_)
        obtain rfl : i = 10 := by simpa using hi
        refine wpOp_val (v := .slice (some ⟨wo.heap.size + 1, 0, none⟩) 1 1) (w' := (wo.drew.alloc (.cells #[.int .i64 X, .int .i64 Y] 3)).alloc (.cells #[.slice (some ⟨wo.heap.size, 0, none⟩) 2 2] 30)) rfl (by rfl) (by go_simp) ?_
        (try simp only [List.getElem_toArray, List.getElem_cons_zero, List.getElem_cons_succ, Act.put, List.setIfInBounds_toArray, List.set_cons_zero, List.set_cons_succ])
        refine wpAny_all (rs := [11]) (by kernel_rfl) (by simp) (fun i hi => ?_)
        obtain rfl : i = 11 := by simpa using hi
        obtain ⟨xs, q, ho, hq⟩ := HR.out
        have ho1 : wo.drew.ownsRow w2.heap.size 30 1 u5 k xs := own_block ho fun _ _ => rfl
        have hq1 : ∀ i, i < k → PairAt wo.drew w2.heap.size xs q (hX l) (hY l) i := hq
        have ho2 := (ho1.alloc (.cells #[.int .i64 X, .int .i64 Y] 3)).alloc (.cells #[.slice (some ⟨wo.heap.size, 0, none⟩) 2 2] 30)
        obtain ⟨i0, hi0, hz0, hz1, hz2'⟩ := info_parts2 ints_info
        have hbz := hB.size
        have BW2 : Below w2.heap.size w2 ((wo.drew.alloc (.cells #[.int .i64 X, .int .i64 Y] 3)).alloc (.cells #[.slice (some ⟨wo.heap.size, 0, none⟩) 2 2] 30)) := Below.alloc (Below.alloc hB.drew hbz _) (by rw [heap_size_al]; show w2.heap.size ≤ wo.heap.size + 1; omega) _
        have HX := BW2.size
        have hnew : ∀ j v, [Value.slice (some ⟨wo.heap.size, 0, none⟩) 2 2][j]? = some v → ((wo.drew.alloc (.cells #[.int .i64 X, .int .i64 Y] 3)).alloc (.cells #[.slice (some ⟨wo.heap.size, 0, none⟩) 2 2] 30)).cell? ((⟨wo.heap.size + 1, 0, none⟩ : Addr).add j) = some v := fun j v hj => by
          match j, hj with
          | 0, hj =>
            simp at hj
            subst hj
            show ((wo.drew.alloc (.cells #[.int .i64 X, .int .i64 Y] 3)).alloc (.cells #[.slice (some ⟨wo.heap.size, 0, none⟩) 2 2] 30)).cell? ⟨wo.heap.size + 1, 0, none⟩ = _
            go_simp
        refine wpOp_left rfl (by rfl) (wp_append_own _ (.tmp 26) (.tmp 36) 36 rfl w2.heap.size 30 i0 (.slice none 0 0) 1 24 Try.underlying36 hi0 hz0 hz1 hz2' rfl (by decide) u5 k xs rfl ho2 ⟨wo.heap.size + 1, 0, none⟩ 1 1 [.slice (some ⟨wo.heap.size, 0, none⟩) 2 2] rfl rfl hnew (fun v hv => by simp at hv; subst hv; rfl) (by unfold maxLen; omega) (by omega) HX ?_)
        intro v' w' hown hgr _
        have EX := HXY.out
        obtain ⟨EX1, EX2⟩ := EX
        subst EX1 EX2
        have R2 := Lib.hid (rowH_push (W := wo.drew) (base := w2.heap.size) (x := hX l) (y := hY l) hbz ho1 hq1 hown hgr)
        have B2 := BW2.grown hgr HX fun g hgk => (ho2.lt g hgk).1
        clear hown hgr ho2 ho1 hq1 hq ho HX BW2 hnew hi0 hz0 hz1 hz2'
        (try simp only [List.getElem_toArray, List.getElem_cons_zero, List.getElem_cons_succ, Act.put, List.setIfInBounds_toArray, List.set_cons_zero, List.set_cons_succ])
        refine wpAny_all (rs := [12]) (by kernel_rfl) (by simp) (fun i hi => ?_)
        obtain rfl : i = 12 := by simpa using hi
        refine wpOp_val (v := v') (w' := w') rfl (by rfl) (by first | rfl | go_simp) ?_
        (try simp only [List.getElem_toArray, List.getElem_cons_zero, List.getElem_cons_succ, Act.put, List.setIfInBounds_toArray, List.set_cons_zero, List.set_cons_succ])
        refine wpAny_done (by kernel_rfl) ?_ _
        go_wp2_with fail
        go_roundg (3 - (k + 1))
        case measure => have := HGK.out; omega
        case rel => exact ⟨k + 1, v', rfl, by omega, rfl, by go_num, B2, R2⟩
      · have hk3 : k = 3 := by omega
        subst hk3
        go_wp2_with fail
        go_ret2
        exact retS_row B2 HR.out (by omega) hB
  · have htf : tB l = false := by simpa using ht
    rw [show h3 l = 0 from if_neg ht]
    rw [htf] at K ⊢
    clear ht htf hR
    go_enter Try.func28, Try.ntmps28
    go_wp2_with fail
    refine K.out.mono ?_; rintro e w1 ⟨rfl, hb1⟩
    go_wp2_with fail
    go_ret2
    exact retS_nil hb1
end Go.Proofs.Ytgjegildeejghaa
