/- contracts: CountInBand on both sides -/
import Derived.Test.YthpbnfmfedggjaaBq
namespace Go.Proofs.Ythpbnfmfedggjaa
open Go.ChangeShapes Go.WideShapes Go.ChangeAt Go.RowKit Go.Joins
set_option linter.unusedVariables false
set_option linter.unusedSimpArgs false
set_option maxRecDepth 4000
/-- how many points are in a band -/
def cntN (m : List (Int × Int)) : Int := (areaN m + onN m).tdiv 2 + 1
theorem cnt_one {m : List (Int × Int)} (h : m.length = 1) : cntN m = 1 := by unfold cntN; rw [area_small (Or.inl h), on_one h]; rfl
theorem cnt_two {m : List (Int × Int)} (h : m.length = 2) : cntN m = stepN (vx m 0).1 (vx m 0).2 (vx m 1).1 (vx m 1).2 + 1 := by
  unfold cntN
  rw [area_small (Or.inr h), on_two h, Int.zero_add, Int.mul_tdiv_cancel_left _ (by decide)]
theorem td_bd {x : Int} (h1 : -300000 ≤ x) (h2 : x ≤ 300000) : -300000 ≤ x.tdiv 2 ∧ x.tdiv 2 ≤ 300000 := by
  rcases Int.le_total 0 x with h | h
  · rw [Int.tdiv_eq_ediv_of_nonneg h]; omega
  · have e : x.tdiv 2 = -((-x).tdiv 2) := by rw [Int.neg_tdiv]; omega
    rw [e, Int.tdiv_eq_ediv_of_nonneg (by omega)]
    omega
set_option maxHeartbeats 1000000 in
theorem specCountInBand_any (A : Option Addr) (c : Nat) (l : List (Int × Int)) (w : World) (hn : l.length ≤ 1048576) (hcap : l.length ≤ c) (hc2 : c ≤ 9223372036854775807) (hR : Rd w w.heap.size A l) :
    Calls Try.prog 26 #[.slice A l.length c] w fun e w' => e = .returned (.tuple #[.int .i64 (gi (difB l) (cntN (band l))), .bool (difB l)]) ∧ Below w.heap.size w w' := by
  have K := Lib.hid (bdGood_any A c l w hn hcap hc2 hR)
  by_cases hg : Dif l
  · have hgt := difB_true hg
    rw [hgt] at K ⊢
    have K2 := Lib.hid (fun W (hb : Below w.heap.size w W) => bandS_any A c l.length l W rfl hg (rd_more (rd_below hR hb (Nat.le_refl _)) hb.size))
    have KP := Lib.hid (fun A c W hR => pgAreaB_any A c (band l) W (band_pos hg) (band_few hg) (band_pegs hg) hR)
    have KR := Lib.hid (fun A c W hR => pgRoundW_any A c (band l) W (band_pos hg) (band_few hg) (band_pegs hg) hR)
    have hp := band_pegs hg
    have h0 := band_pos hg
    have h60 := band_few hg
    obtain ⟨a1, a2⟩ := area_bd hp h0 h60
    obtain ⟨o1, o2⟩ := on_bd hp h0 h60
    have HC1 := Lib.hid (fun h => cnt_one (m := band l) h)
    have HC2 := Lib.hid (fun h => cnt_two (m := band l) h)
    have HCE : Hid (cntN (band l) = (areaN (band l) + onN (band l)).tdiv 2 + 1) := Lib.hid rfl
    rw [gi_true]
    have HPG := Lib.hid hp
    clear hgt hg hR hp
    generalize cntN (band l) = cn at *
    generalize areaN (band l) = a at *
    generalize onN (band l) = o at *
    generalize band l = m at *
    obtain ⟨n, hnm⟩ : ∃ n, n = m.length := ⟨_, rfl⟩
    have HN := Lib.hid hnm
    go_enter Try.func26, Try.ntmps26
    go_wp2_with fail
    refine K.out.mono ?_; rintro e w1 ⟨rfl, hb1⟩
    go_wp2_with fail
    refine (K2.out w1 hb1).mono ?_; rintro e w2 ⟨⟨v, rfl, ho⟩, hb2⟩
    obtain ⟨A2, c2, rfl, q1, q2, q3⟩ := rw_of_own ho
    have hRR := Lib.hid (rd_more (rw_rd q3) (Nat.le_refl _))
    have B2 := hb1.trans (hb2.mono hb1.size)
    clear ho q3
    rw [← hnm]
    clear hnm
    by_cases hn1 : n = 1
    · subst hn1
      have hc := HC1.out HN.out.symm
      subst hc
      go_wp2_with fail
      go_ret2
      exact ⟨rfl, B2⟩
    · by_cases hn2 : n = 2
      · subst hn2
        have hc := HC2.out HN.out.symm
        obtain ⟨b, off, hA, hb, hcell⟩ := hRR.out (by rw [← HN.out]; omega)
        subst hA
        obtain ⟨x0, x1⟩ := hcell 0 _ (vx_get (by rw [← HN.out]; omega))
        obtain ⟨x2, x3⟩ := hcell 1 _ (vx_get (by rw [← HN.out]; omega))
        have z0 := sz_of (x := (vx m 0).1) (y := (vx m 0).2) (HPG.out 0 (by rw [← HN.out]; omega))
        have z1 := sz_of (x := (vx m 1).1) (y := (vx m 1).2) (HPG.out 1 (by rw [← HN.out]; omega))
        have KS := Lib.hid (fun W => pgStep_any (vx m 0).1 (vx m 0).2 (vx m 1).1 (vx m 1).2 W z0 z1)
        have sb := stepN_bd (a1 := (vx m 0).1) (a2 := (vx m 0).2) (b1 := (vx m 1).1) (b2 := (vx m 1).2) (HPG.out 0 (by rw [← HN.out]; omega)) (HPG.out 1 (by rw [← HN.out]; omega))
        obtain ⟨s1, s2⟩ := sb
        simp only [Nat.zero_mul, Nat.one_mul, Nat.add_zero] at x0 x1 x2 x3
        clear hcell z0 z1
        generalize stepN (vx m 0).1 (vx m 0).2 (vx m 1).1 (vx m 1).2 = st at *
        subst hc
        have e1 : IntKind.i64.wrap (st + 1) = st + 1 := IntWalk.i64_in _ (by omega)
        have hbz : b < w2.heap.size := hb
        go_wp2_with fail
        refine wp_region_B (fun W => Below w2.heap.size w2 W) (by kernel_rfl) (by repeat (first | exact Below.refl _ _ | apply Below.drew)) ?_
        first | refine wpB_skip 0 rfl (by kernel_rfl) (by kernel_rfl) (by kernel_rfl) (by rfl) ?_ | (refine wpB_text 0 (v := ?_) rfl (by kernel_rfl) (by kernel_rfl) (by kernel_rfl) (by rfl) (fun W hW => ?_) ?_; rotate_left; (have k1 := hW; obtain ⟨hc1, hf1⟩ := bcell k1; go_simp; refine comes_v ?_; exact k1))
        (try simp only [Act.put, List.setIfInBounds_toArray, List.set_cons_zero, List.set_cons_succ])
        first | refine wpB_skip 1 rfl (by kernel_rfl) (by kernel_rfl) (by kernel_rfl) (by rfl) ?_ | (refine wpB_text 1 (v := ?_) rfl (by kernel_rfl) (by kernel_rfl) (by kernel_rfl) (by rfl) (fun W hW => ?_) ?_; rotate_left; (have k1 := hW; obtain ⟨hc1, hf1⟩ := bcell k1; go_simp; refine comes_v ?_; exact k1))
        (try simp only [Act.put, List.setIfInBounds_toArray, List.set_cons_zero, List.set_cons_succ])
        first | refine wpB_skip 2 rfl (by kernel_rfl) (by kernel_rfl) (by kernel_rfl) (by rfl) ?_ | (refine wpB_text 2 (v := ?_) rfl (by kernel_rfl) (by kernel_rfl) (by kernel_rfl) (by rfl) (fun W hW => ?_) ?_; rotate_left; (have k1 := hW; obtain ⟨hc1, hf1⟩ := bcell k1; go_simp; refine comes_v ?_; exact k1))
        (try simp only [Act.put, List.setIfInBounds_toArray, List.set_cons_zero, List.set_cons_succ])
        first | refine wpB_skip 3 rfl (by kernel_rfl) (by kernel_rfl) (by kernel_rfl) (by rfl) ?_ | (refine wpB_text 3 (v := ?_) rfl (by kernel_rfl) (by kernel_rfl) (by kernel_rfl) (by rfl) (fun W hW => ?_) ?_; rotate_left; (have k1 := hW; obtain ⟨hc1, hf1⟩ := bcell k1; go_simp; refine comes_v ?_; exact k1))
        (try simp only [Act.put, List.setIfInBounds_toArray, List.set_cons_zero, List.set_cons_succ])
        first | refine wpB_skip 4 rfl (by kernel_rfl) (by kernel_rfl) (by kernel_rfl) (by rfl) ?_ | (refine wpB_text 4 (v := ?_) rfl (by kernel_rfl) (by kernel_rfl) (by kernel_rfl) (by rfl) (fun W hW => ?_) ?_; rotate_left; (have k1 := hW; obtain ⟨hc1, hf1⟩ := bcell k1; go_simp; refine comes_v ?_; exact k1))
        (try simp only [Act.put, List.setIfInBounds_toArray, List.set_cons_zero, List.set_cons_succ])
        first | refine wpB_skip 5 rfl (by kernel_rfl) (by kernel_rfl) (by kernel_rfl) (by rfl) ?_ | (refine wpB_text 5 (v := ?_) rfl (by kernel_rfl) (by kernel_rfl) (by kernel_rfl) (by rfl) (fun W hW => ?_) ?_; rotate_left; (have k1 := hW; obtain ⟨hc1, hf1⟩ := bcell k1; go_simp; refine comes_v ?_; exact k1))
        (try simp only [Act.put, List.setIfInBounds_toArray, List.set_cons_zero, List.set_cons_succ])
        first | refine wpB_skip 6 rfl (by kernel_rfl) (by kernel_rfl) (by kernel_rfl) (by rfl) ?_ | (refine wpB_text 6 (v := .int .i64 st) rfl (by kernel_rfl) (by kernel_rfl) (by kernel_rfl) (by rfl) (fun W hW => ?_) ?_; (have k1 := hW; obtain ⟨hc1, hf1⟩ := bcell k1; go_simp; exact comes_c ( KS.out _) (fun wn hbn => bt_keep k1 hbn)))
        (try simp only [Act.put, List.setIfInBounds_toArray, List.set_cons_zero, List.set_cons_succ])
        first | refine wpB_skip 7 rfl (by kernel_rfl) (by kernel_rfl) (by kernel_rfl) (by rfl) ?_ | (refine wpB_text 7 (v := ?_) rfl (by kernel_rfl) (by kernel_rfl) (by kernel_rfl) (by rfl) (fun W hW => ?_) ?_; rotate_left; (have k1 := hW; obtain ⟨hc1, hf1⟩ := bcell k1; go_simp; refine comes_v ?_; exact k1))
        (try simp only [Act.put, List.setIfInBounds_toArray, List.set_cons_zero, List.set_cons_succ])
        first | refine wpB_skip 8 rfl (by kernel_rfl) (by kernel_rfl) (by kernel_rfl) (by rfl) ?_ | (refine wpB_text 8 (v := ?_) rfl (by kernel_rfl) (by kernel_rfl) (by kernel_rfl) (by rfl) (fun W hW => ?_) ?_; rotate_left; (have k1 := hW; obtain ⟨hc1, hf1⟩ := bcell k1; go_simp; refine comes_v ?_; exact k1))
        (try simp only [Act.put, List.setIfInBounds_toArray, List.set_cons_zero, List.set_cons_succ])
        first | refine wpB_skip 9 rfl (by kernel_rfl) (by kernel_rfl) (by kernel_rfl) (by rfl) ?_ | (refine wpB_text 9 (v := ?_) rfl (by kernel_rfl) (by kernel_rfl) (by kernel_rfl) (by rfl) (fun W hW => ?_) ?_; rotate_left; (have k1 := hW; obtain ⟨hc1, hf1⟩ := bcell k1; go_simp; refine comes_v ?_; exact k1))
        (try simp only [Act.put, List.setIfInBounds_toArray, List.set_cons_zero, List.set_cons_succ])
        refine wpB_done (by kernel_rfl) ?_ _
        intro W hW; have k1 := hW
        go_wp2_with fail
        go_ret2
        exact ⟨rfl, B2.trans (k1.mono B2.size)⟩
      · have d1 : ((n : Int) == 1) = false := by simp; omega
        have d2 : ((n : Int) == 2) = false := by simp; omega
        have f1 : ¬ (n : Int) = 1 := by omega
        have f2 : ¬ (n : Int) = 2 := by omega
        have hne : ¬ n = 1 := hn1
        have hne2 : ¬ n = 2 := hn2
        have e1 : IntKind.i64.wrap (a + o) = a + o := IntWalk.i64_in _ (by omega)
        have e3 : -300000 ≤ (a + o).tdiv 2 ∧ (a + o).tdiv 2 ≤ 300000 := td_bd (by omega) (by omega)
        obtain ⟨g1, g2⟩ := e3
        have KPm := Lib.hid (fun A c W hR => (show Calls Try.prog 53 #[.slice A n c] W fun e w' => e = .returned (.int .i64 a) ∧ Below W.heap.size W w' from by rw [HN.out]; exact KP.out A c W hR))
        have KRm := Lib.hid (fun A c W hR => (show Calls Try.prog 57 #[.slice A n c] W fun e w' => e = .returned (.int .i64 o) ∧ Below W.heap.size W w' from by rw [HN.out]; exact KR.out A c W hR))
        have hce := HCE.out
        clear HC1 HC2 HCE KP KR
        have HQ := Lib.hid hce
        clear hce
        go_wp2_with fail
        refine (KPm.out A2 c2 w2 hRR.out).mono ?_; rintro e w3 ⟨rfl, hb3⟩
        have B3 := B2.trans (hb3.mono B2.size)
        have hR3 := Lib.hid (rd_more (rd_below hRR.out hb3 (Nat.le_refl _)) hb3.size)
        go_wp2_with fail
        refine (KRm.out A2 c2 w3 hR3.out).mono ?_; rintro e w4 ⟨rfl, hb4⟩
        have B4 := B3.trans (hb4.mono B3.size)
        go_wp2_with fail
        go_ret2
        exact ⟨by rw [HQ.out]; rfl, B4⟩
  · have hgf := difB_false hg
    rw [hgf] at K ⊢
    rw [gi_false]
    clear hgf hg hR
    go_enter Try.func26, Try.ntmps26
    go_wp2_with fail
    refine K.out.mono ?_; rintro e w1 ⟨rfl, hb1⟩
    go_wp2_with fail
    go_ret2
    exact ⟨rfl, hb1⟩
theorem implCountInBand_any (A : Option Addr) (c : Nat) (l : List (Int × Int)) (w : World) (hn : l.length ≤ 1048576) (hcap : l.length ≤ c) (hc2 : c ≤ 9223372036854775807) (hR : Rd w w.heap.size A l) :
    Calls Try.prog 27 #[.slice A l.length c] w fun e w' => e = .returned (.tuple #[.int .i64 (gi (difB l) (cntN (band l))), .bool (difB l)]) ∧ Below w.heap.size w w' := by
  have K := Lib.hid (implBandOf_any A c l w hn hcap hc2 hR)
  by_cases hg : Dif l
  · have hgt := difB_true hg
    rw [hgt] at K ⊢
    rw [gi_true]
    have K1 : Hid (Calls Try.prog 21 #[.slice A l.length c] w (RetL w (band l) true)) := Lib.hid K.out
    have KP := Lib.hid (fun A c W hR => areaW_any A c (band l) W (band_pos hg) (band_few hg) (band_pegs hg) hR)
    have KR := Lib.hid (fun A c W hR => stepsW_any A c (band l) W (band_pos hg) (band_few hg) (band_pegs hg) hR)
    obtain ⟨a1, a2⟩ := area_bd (band_pegs hg) (band_pos hg) (band_few hg)
    obtain ⟨o1, o2⟩ := on_bd (band_pegs hg) (band_pos hg) (band_few hg)
    have HCE : Hid (cntN (band l) = (areaN (band l) + onN (band l)).tdiv 2 + 1) := Lib.hid rfl
    clear hgt hg hR K
    generalize cntN (band l) = cn at *
    generalize areaN (band l) = a at *
    generalize onN (band l) = o at *
    generalize band l = m at *
    have e1 : IntKind.i64.wrap (a + o) = a + o := IntWalk.i64_in _ (by omega)
    have e3 : -300000 ≤ (a + o).tdiv 2 ∧ (a + o).tdiv 2 ≤ 300000 := td_bd (by omega) (by omega)
    obtain ⟨g1, g2⟩ := e3
    go_enter Try.func27, Try.ntmps27
    go_wp2_with fail
    refine K1.out.mono ?_; rintro e w1 ⟨A2, c2, rfl, q1, q2, hb1, q3⟩
    have hRR := Lib.hid (rd_more (rw_rd q3) (Nat.le_refl _))
    clear q3
    go_wp2_with fail
    refine (KP.out A2 c2 w1 hRR.out).mono ?_; rintro e w2 ⟨rfl, hb2⟩
    have B2 := hb1.trans (hb2.mono hb1.size)
    have hR2 := Lib.hid (rd_more (rd_below hRR.out hb2 (Nat.le_refl _)) hb2.size)
    go_wp2_with fail
    refine (KR.out A2 c2 w2 hR2.out).mono ?_; rintro e w3 ⟨rfl, hb3⟩
    have B3 := B2.trans (hb3.mono B2.size)
    go_wp2_with fail
    go_ret2
    exact ⟨by rw [HCE.out]; rfl, B3⟩
  · have hgf := difB_false hg
    rw [hgf] at K ⊢
    rw [gi_false]
    have K1 : Hid (Calls Try.prog 21 #[.slice A l.length c] w (RetL w [] false)) := Lib.hid K.out
    clear hgf hg hR K
    go_enter Try.func27, Try.ntmps27
    go_wp2_with fail
    refine K1.out.mono ?_; rintro e w1 ⟨A2, c2, rfl, q1, q2, hb1, q3⟩
    clear q3
    go_wp2_with fail
    go_ret2
    exact ⟨rfl, hb1⟩
end Go.Proofs.Ythpbnfmfedggjaa
