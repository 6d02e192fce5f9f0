/- contracts: NeedlessClues, on both sides -/
import Derived.Test.YtacabmbajadbgaaPw8
namespace Go.Proofs.Ytacabmbajadbgaa
open Go.ChangeShapes Go.WideShapes Go.ChangeAt Go.RowKit Go.Joins
set_option linter.unusedVariables false
set_option linter.unusedSimpArgs false
set_option maxRecDepth 4000
theorem ndP_t {ns n : Nat} {f : Nat → Int} (h : puzB (ns : Int) n f = true) : ndP (ns : Int) n f = ndL ns n f n := by unfold ndP; rw [if_pos h]; rfl
theorem ndP_f {s : Int} {n : Nat} {f : Nat → Int} (h : puzB s n f = false) : ndP s n f = [] := by unfold ndP; rw [h]; rfl
set_option maxHeartbeats 4000000 in
theorem implNeedlessClues_any (s : Int) (bk off c n : Nat) (f : Nat → Int) (w : World) (hm : n ≤ 1048576) (hnc : n ≤ c) (hc : c ≤ 9223372036854775807) (hR : RdI w w.heap.size (some ⟨bk, off, none⟩) (n * 4) f) :
    Calls Try.prog 33 #[.agg #[.int .i64 s, .slice (some ⟨bk, off, none⟩) n c]] w (RetNI w (ndP s n f).length (nthI (ndP s n f)) (puzB s n f)) := by
  have K := Lib.hid (fun W (hb : Below w.heap.size w W) => implSolutions_any s (some ⟨bk, off, none⟩) c n f W hm (rdi_below hR hb (Nat.le_refl _)))
  have HB := Lib.hid (Below.alloc (Below.refl w.heap.size w) (Nat.le_refl _) (.cells #[.int .i64 s, .slice (some ⟨bk, off, none⟩) n c] 28))
  have P0 := Lib.hid (pbx_new w s (some ⟨bk, off, none⟩) n c 28)
  cases hp : puzB s n f
  · rw [ndP_f hp]
    rw [hp, solP_f hp] at K
    clear hp hR
    go_enter Try.func33, Try.ntmps33
    go_wp2_with fail
    refine (K.out _ HB.out).mono ?_; rintro e w1 ⟨A1, c1, rfl, q1, q2, hb1, q3⟩
    go_wp2_with fail
    go_ret2
    exact retNI_nil (HB.out.trans (hb1.mono HB.out.size))
  · obtain ⟨ns, rfl⟩ := nat_of hp
    rw [ndP_t hp]
    rw [hp, solP_t hp] at K
    have h12 := puzB_t hp
    have hn6 : n ≤ 6 := h12.2.2.1
    have hns : ns ≤ 12 := by have := h12.2.1; omega
    have KW := Lib.hid (fun k (hk : k < n) W (hb : Below w.heap.size w W) => without_any (ns : Int) bk off c n k f W hk hn6 hnc hc (rdi_below hR hb (Nat.le_refl _)))
    have KS := Lib.hid (fun k (hk : k < n) A c' W (hb : RdI W W.heap.size A ((n - 1) * 4) (woF f k)) => solutions_any ns A c' (n - 1) (woF f k) W (puzB_wo hp hk) hb)
    have HL : Hid (∀ k, (solK (woF f k) (n - 1) (ns + 1) ((ns + 1) * (ns + 1))).length ≤ 1048576) := Lib.hid (fun k => by
      have h1 := solK_len (woF f k) (n - 1) (ns + 1) ((ns + 1) * (ns + 1))
      have h2 : (ns + 1) * (ns + 1) ≤ 13 * 13 := Nat.mul_le_mul (by omega) (by omega)
      omega)
    have HL2 : Hid ((solK f n (ns + 1) ((ns + 1) * (ns + 1))).length ≤ 1048576) := Lib.hid (by
      have h1 := solK_len f n (ns + 1) ((ns + 1) * (ns + 1))
      have h2 : (ns + 1) * (ns + 1) ≤ 13 * 13 := Nat.mul_le_mul (by omega) (by omega)
      omega)
    have HE := Lib.hid (fun k (hk : k < n) => nd_eq (ns := ns) (f := f) hk)
    have HY := Lib.hid (fun k h => ndL_yes (ns := ns) (n := n) (f := f) (k := k) h)
    have HN := Lib.hid (fun k h => ndL_no (ns := ns) (n := n) (f := f) (k := k) h)
    have HLL := Lib.hid (fun k => ndL_len ns n f k)
    have H0 : Hid (ndL ns n f 0 = []) := Lib.hid rfl
    obtain ⟨i0, hi0, hz0, hz1, hz2⟩ := info_parts int_info
    have HI := Lib.hid (And.intro hi0 (And.intro hz0 (And.intro hz1 hz2)))
    have HRT : Hid (∀ v w1 W, RowN W w1.heap.size v (ndL ns n f n) → Below w.heap.size w w1 → Below w1.heap.size w1 W → RetNI w (ndL ns n f n).length (nthI (ndL ns n f n)) true (.returned (.tuple #[v, .bool true])) W) := Lib.hid (fun v w1 W h hb1 hb => retNI_rowN h hb1 hb)
    clear hp hR h12 hi0 hz0 hz1 hz2
    generalize ndL ns n f = L at *
    generalize ndB ns n f = nd at *
    generalize solK f n (ns + 1) ((ns + 1) * (ns + 1)) = sol at *
    go_enter Try.func33, Try.ntmps33
    go_wp2_with fail
    refine (K.out _ HB.out).mono ?_; rintro e w1 ⟨A1, c1, rfl, q1, q2, hb1, q3⟩
    have P1 := Lib.hid (pbx_below P0.out hb1)
    have B1 := HB.out.trans (hb1.mono HB.out.size)
    have HQ := Lib.hid q3
    have p0 := P1.out.c0
    have p1 := P1.out.c1
    have pz := P1.out.z
    clear hb1 P0 HB K q3 q1 q2
    go_wp2_with fail
    clear p0 p1 pz
    go_loopg [6, 18] n (fun gg o i wr => ∃ (k : Nat) (v : Value), v = o ∧ k ≤ n ∧ gg = n - k ∧ i = .int .i64 (k : Int) ∧ Below w1.heap.size w1 wr ∧ Hid (RowN wr w1.heap.size v (L k)))
    case atStart => exact ⟨0, _, rfl, Nat.zero_le _, rfl, rfl, Below.refl _ _, Lib.hid (by rw [H0.out]; exact rowN_nil _ _)⟩
    case round =>
      obtain ⟨k, v, rfl, hk, hgg, rfl, hB, hr⟩ := hrel
      rename World => wo
      have HGK := Lib.hid hgg
      clear hgg
      by_cases hlt : k < n
      · have PO := pbx_below P1.out hB
        have p0 := PO.c0
        have p1 := PO.c1
        have pz := PO.z
        clear PO
        have KW1 := Lib.hid (fun W hb => KW.out k hlt W hb)
        have KS1 := Lib.hid (fun A c' W hb => KS.out k hlt A c' W hb)
        have HL1 := Lib.hid (HL.out k)
        have HE1 := Lib.hid (HE.out k hlt)
        have HY1 := Lib.hid (HY.out k)
        have HN1 := Lib.hid (HN.out k)
        have hll := HLL.out k
        have BO := B1.trans (hB.mono B1.size)
        generalize L k = m at *
        generalize solK (woF f k) (n - 1) (ns + 1) ((ns + 1) * (ns + 1)) = sk at *
        go_wp2_with fail
        refine (KW1.out _ BO).mono ?_; rintro e w2 ⟨⟨vv, rfl, own⟩, hb2⟩
        obtain ⟨Av, cv, rfl, hnv, hcv, rwv⟩ := rowC_rwi own
        have B2 := hB.trans (hb2.mono hB.size)
        have R2 := Lib.hid (rowN_below hr.out hb2 (Nat.le_refl _))
        have RV := Lib.hid (rdi_of_rw rwv (Nat.le_refl _))
        clear own rwv hb2 hr KW1 p0 p1 pz BO hnv hcv
        go_wp2_with fail
        refine (KS1.out _ _ _ RV.out).mono ?_; rintro e w3 ⟨A3, c3, rfl, q1, q2, hb3, q3⟩
        have R3 := Lib.hid (rowN_below R2.out hb3 (Nat.le_refl _))
        have B3 := B2.trans (hb3.mono B2.size)
        have KQ := slEqual_any A3 A1 c3 c1 w2.heap.size w3.heap.size _ w1.heap.size sk sol w3 HL1.out HL2.out (Nat.le_refl _) B3.size q3 (rw_below HQ.out B3 (Nat.le_refl _))
        rw [HE1.out] at KQ
        clear q1 q2 q3 hb3 R2 B2 RV KS1 hB
        go_wp2_with fail
        refine KQ.mono ?_; rintro e w4 ⟨rfl, hb4⟩
        have R4 := Lib.hid (rowN_below R3.out hb4 (Nat.le_refl _))
        have B4 := B3.trans (hb4.mono B3.size)
        clear hb4 R3 B3 KQ HE1
        cases hnd : nd k
        · have HM := Lib.hid (HN1.out hnd)
          clear hnd HY1 HN1
          go_wp2_with fail
          go_roundg (n - (k + 1))
          case measure => have := HGK.out; omega
          case rel => exact ⟨k + 1, _, rfl, by omega, rfl, by go_num, B4, Lib.hid (by rw [HM.out]; exact R4.out)⟩
        · have HM := Lib.hid (HY1.out hnd)
          clear hnd HY1 HN1
          have hz4 := B4.size
          go_wp2_with (at_builtin; go_loud (refine wpList_append_own _ rfl (.tmp 27) (.tmp 29) 41 rfl w1.heap.size 3 i0 (.int .i64 0) 1 8 Try.underlying41 HI.out.1 HI.out.2.1 HI.out.2.2.1 HI.out.2.2.2 rfl (by decide) _ m.length (m.map (Value.int .i64)) rfl (rowN_alloc R4.out _) ⟨w4.heap.size, 0, none⟩ 1 1 [.int .i64 (k : Int)] rfl rfl (int_cells (by go_simp)) (int_one _) (by unfold maxLen; omega) (by omega) (by simp; omega) ?_))
          intro v' w5 hown hgr _
          have RC := rowN_push (Below.alloc B4 hz4 _) (rowN_alloc R4.out _) (by simpa using hown) hgr
          have R5 := Lib.hid RC.1
          have B5 := RC.2
          clear RC hown hgr B4 R4
          go_wp2_with fail
          go_roundg (n - (k + 1))
          case measure => have := HGK.out; omega
          case rel => exact ⟨k + 1, _, rfl, by omega, rfl, by go_num, B5, Lib.hid (by rw [HM.out]; exact R5.out)⟩
      · obtain rfl : k = n := by omega
        go_wp2_with fail
        go_ret2
        exact HRT.out _ _ _ hr.out B1 hB
set_option maxHeartbeats 4000000 in
theorem specNeedlessClues_any (s : Int) (bk off c n : Nat) (f : Nat → Int) (w : World) (hm : n ≤ 1048576) (hnc : n ≤ c) (hc : c ≤ 9223372036854775807) (hR : RdI w w.heap.size (some ⟨bk, off, none⟩) (n * 4) f) :
    Calls Try.prog 32 #[.agg #[.int .i64 s, .slice (some ⟨bk, off, none⟩) n c]] w (RetNI w (ndP s n f).length (nthI (ndP s n f)) (puzB s n f)) := by
  have K := Lib.hid (fun W (hb : Below w.heap.size w W) => pzGood_any s (some ⟨bk, off, none⟩) c n f W hm (rdi_below hR hb (Nat.le_refl _)))
  have HB := Lib.hid (Below.alloc (Below.refl w.heap.size w) (Nat.le_refl _) (.cells #[.int .i64 s, .slice (some ⟨bk, off, none⟩) n c] 28))
  have P0 := Lib.hid (pbx_new w s (some ⟨bk, off, none⟩) n c 28)
  cases hp : puzB s n f
  · rw [ndP_f hp]
    rw [hp] at K
    clear hp hR
    go_enter Try.func32, Try.ntmps32
    go_wp2_with fail
    refine (K.out _ HB.out).mono ?_; rintro e w1 ⟨rfl, hb1⟩
    go_wp2_with fail
    go_ret2
    exact retNI_nil (HB.out.trans (hb1.mono HB.out.size))
  · obtain ⟨ns, rfl⟩ := nat_of hp
    rw [ndP_t hp]
    rw [hp] at K
    have h12 := puzB_t hp
    have hn6 : n ≤ 6 := h12.2.2.1
    have hns : ns ≤ 12 := by have := h12.2.1; omega
    have KW := Lib.hid (fun k (hk : k < n) W (hb : Below w.heap.size w W) => pzWithout_any bk off c n k f W hk hn6 hnc hc (rdi_below hR hb (Nat.le_refl _)))
    have KA := Lib.hid (fun W (hb : Below w.heap.size w W) => pzAll_any ns (some ⟨bk, off, none⟩) c n f W hp (rdi_below hR hb (Nat.le_refl _)))
    have KS := Lib.hid (fun k (hk : k < n) A c' W (hb : RdI W W.heap.size A ((n - 1) * 4) (woF f k)) => pzAll_any ns A c' (n - 1) (woF f k) W (puzB_wo hp hk) hb)
    have HL : Hid (∀ k, (solK (woF f k) (n - 1) (ns + 1) ((ns + 1) * (ns + 1))).length ≤ 1048576) := Lib.hid (fun k => by
      have h1 := solK_len (woF f k) (n - 1) (ns + 1) ((ns + 1) * (ns + 1))
      have h2 : (ns + 1) * (ns + 1) ≤ 13 * 13 := Nat.mul_le_mul (by omega) (by omega)
      omega)
    have HL2 : Hid ((solK f n (ns + 1) ((ns + 1) * (ns + 1))).length ≤ 1048576) := Lib.hid (by
      have h1 := solK_len f n (ns + 1) ((ns + 1) * (ns + 1))
      have h2 : (ns + 1) * (ns + 1) ≤ 13 * 13 := Nat.mul_le_mul (by omega) (by omega)
      omega)
    have HE : Hid (∀ k, decide ((solK (woF f k) (n - 1) (ns + 1) ((ns + 1) * (ns + 1))).length = (solK f n (ns + 1) ((ns + 1) * (ns + 1))).length) = ndB ns n f k) := Lib.hid (fun k => rfl)
    have HY := Lib.hid (fun k h => ndL_yes (ns := ns) (n := n) (f := f) (k := k) h)
    have HN := Lib.hid (fun k h => ndL_no (ns := ns) (n := n) (f := f) (k := k) h)
    have HLL := Lib.hid (fun k => ndL_len ns n f k)
    have H0 : Hid (ndL ns n f 0 = []) := Lib.hid rfl
    obtain ⟨i0, hi0, hz0, hz1, hz2⟩ := info_parts int_info
    have HI := Lib.hid (And.intro hi0 (And.intro hz0 (And.intro hz1 hz2)))
    have HRT : Hid (∀ v w1 W, RowN W w1.heap.size v (ndL ns n f n) → Below w.heap.size w w1 → Below w1.heap.size w1 W → RetNI w (ndL ns n f n).length (nthI (ndL ns n f n)) true (.returned (.tuple #[v, .bool true])) W) := Lib.hid (fun v w1 W h hb1 hb => retNI_rowN h hb1 hb)
    clear hp hR h12 hi0 hz0 hz1 hz2
    generalize ndL ns n f = L at *
    generalize ndB ns n f = nd at *
    generalize solK f n (ns + 1) ((ns + 1) * (ns + 1)) = sol at *
    go_enter Try.func32, Try.ntmps32
    go_wp2_with fail
    refine (K.out _ HB.out).mono ?_; rintro e w0 ⟨rfl, hb0⟩
    have P0' := Lib.hid (pbx_below P0.out hb0)
    have B0 := HB.out.trans (hb0.mono HB.out.size)
    have p0 := P0'.out.c0
    have p1 := P0'.out.c1
    have pz := P0'.out.z
    clear hb0 P0 HB K
    go_wp2_with fail
    refine (KA.out _ B0).mono ?_; rintro e w1 ⟨A1, c1, rfl, q1, q2, hb1, q3⟩
    have P1 := Lib.hid (pbx_below P0'.out hb1)
    have B1 := B0.trans (hb1.mono B0.size)
    clear hb1 q1 q2 q3 P0' B0 p0 p1 pz KA
    have p0 := P1.out.c0
    have p1 := P1.out.c1
    have pz := P1.out.z
    go_wp2_with fail
    clear p0 p1 pz
    go_loopg [4, 19] n (fun gg o i wr => ∃ (k : Nat) (v : Value), v = o ∧ k ≤ n ∧ gg = n - k ∧ i = .int .i64 (k : Int) ∧ Below w1.heap.size w1 wr ∧ Hid (RowN wr w1.heap.size v (L k)))
    case atStart => exact ⟨0, _, rfl, Nat.zero_le _, rfl, rfl, Below.refl _ _, Lib.hid (by rw [H0.out]; exact rowN_nil _ _)⟩
    case round =>
      obtain ⟨k, v, rfl, hk, hgg, rfl, hB, hr⟩ := hrel
      rename World => wo
      have HGK := Lib.hid hgg
      clear hgg
      by_cases hlt : k < n
      · have PO := pbx_below P1.out hB
        have p0 := PO.c0
        have p1 := PO.c1
        have pz := PO.z
        clear PO
        have KW1 := Lib.hid (fun W hb => KW.out k hlt W hb)
        have KS1 := Lib.hid (fun A c' W hb => KS.out k hlt A c' W hb)
        have HL1 := Lib.hid (HL.out k)
        have HE1 := Lib.hid (HE.out k)
        have HY1 := Lib.hid (HY.out k)
        have HN1 := Lib.hid (HN.out k)
        have hll := HLL.out k
        have BO := B1.trans (hB.mono B1.size)
        generalize L k = m at *
        generalize solK (woF f k) (n - 1) (ns + 1) ((ns + 1) * (ns + 1)) = sk at *
        have hzo := hB.size
        have HD : Hid ((((sk.length : Nat) : Int) == ((sol.length : Nat) : Int)) = decide (sk.length = sol.length)) := Lib.hid (by by_cases h : sk.length = sol.length <;> simp [h] <;> omega)
        have HD2 : Hid (decide (((sk.length : Nat) : Int) = ((sol.length : Nat) : Int)) = decide (sk.length = sol.length)) := Lib.hid (by rw [decide_eq_decide]; omega)
        go_upto_region 8 with fail
        go_cut [31] from 22 to 30 (fun q wx => q = .bool (decide (sk.length = sol.length)) ∧ Below wo.heap.size wo wx)
        case first =>
          go_region_with (first
            | (go_at_call 56; go_loud (refine (KW1.out _ (by first | exact BO | exact BO.drew)).mono ?_); rintro e wA ⟨⟨vv, rfl, own⟩, kA'⟩;
               have kA : Below wo.heap.size wo wA := (by first | exact kA' | exact (Below.refl _ _).drew.trans kA');
               obtain ⟨Av, cv, rfl, hnv, hcv, rwv⟩ := rowC_rwi own;
               have RV := rdi_of_rw rwv (Nat.le_refl _);
               have pa0 := ((bcell kA).1 _ _ pz).trans p0;
               have paz := Nat.lt_of_lt_of_le pz kA.size;
               clear kA' own rwv hnv hcv)
            | (go_at_call 66; go_loud (refine (KS1.out _ _ _ RV).mono ?_); rintro e wB ⟨A3, c3, rfl, q1, q2, hb3, q3⟩;
               have kB := kA.trans (hb3.mono kA.size);
               have pb0 := ((bcell hb3).1 _ _ paz).trans pa0;
               have pbz := Nat.lt_of_lt_of_le paz hb3.size;
               clear hb3 q1 q2 q3))
          all_goals
            go_wp2_with fail
            go_meet
            case rel => exact ⟨by first | rfl | exact congrArg Value.bool HD.out | exact congrArg Value.bool HD2.out, by first | exact kB | exact kB.drew⟩
        case rest =>
        obtain ⟨rfl, kC⟩ := hcut
        rename World => w4
        have B4 := hB.trans (kC.mono hB.size)
        have R4 := Lib.hid (rowN_below hr.out kC (Nat.le_refl _))
        rw [HE1.out]
        clear HE1 kC hB hr KW1 KS1 p0 p1 pz BO HD HD2
        cases hnd : nd k
        · have HM := Lib.hid (HN1.out hnd)
          clear hnd HY1 HN1
          go_wp2_with fail
          go_roundg (n - (k + 1))
          case measure => have := HGK.out; omega
          case rel => exact ⟨k + 1, _, rfl, by omega, rfl, by go_num, B4, Lib.hid (by rw [HM.out]; exact R4.out)⟩
        · have HM := Lib.hid (HY1.out hnd)
          clear hnd HY1 HN1
          have hz4 := B4.size
          go_wp2_with (at_builtin; go_loud (refine wpList_append_own _ rfl (.tmp 32) (.tmp 34) 41 rfl w1.heap.size 3 i0 (.int .i64 0) 1 8 Try.underlying41 HI.out.1 HI.out.2.1 HI.out.2.2.1 HI.out.2.2.2 rfl (by decide) _ m.length (m.map (Value.int .i64)) rfl (rowN_alloc R4.out _) ⟨w4.heap.size, 0, none⟩ 1 1 [.int .i64 (k : Int)] rfl rfl (int_cells (by go_simp)) (int_one _) (by unfold maxLen; omega) (by omega) (by simp; omega) ?_))
          intro v' w5 hown hgr _
          have RC := rowN_push (Below.alloc B4 hz4 _) (rowN_alloc R4.out _) (by simpa using hown) hgr
          have R5 := Lib.hid RC.1
          have B5 := RC.2
          clear RC hown hgr B4 R4
          go_wp2_with fail
          go_roundg (n - (k + 1))
          case measure => have := HGK.out; omega
          case rel => exact ⟨k + 1, _, rfl, by omega, rfl, by go_num, B5, Lib.hid (by rw [HM.out]; exact R5.out)⟩
      · obtain rfl : k = n := by omega
        go_wp2_with fail
        go_ret2
        exact HRT.out _ _ _ hr.out B1 hB
end Go.Proofs.Ytacabmbajadbgaa
