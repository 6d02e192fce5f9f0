/- The law FnExactNeedlessClues returns true at every number and every list of clues, whatever its length and numbers, and changes nothing: the program tells the needless clues of a puzzle as its model does, in new memory. -/
import Derived.Test.YtacabmbajadbgaaPz4
import Derived.Test.YtacabmbajadbgaaPwA
import Derived.Deep.CutRange
import Derived.Deep.RegionWith
import Derived.Deep.DeepMust
namespace Go.Proofs.Ytacabmbajadbgaa
open Go.ChangeShapes Go.WideShapes Go.ChangeAt Go.RowKit Go.Joins
set_option linter.unusedVariables false
set_option linter.unusedSimpArgs false
set_option maxRecDepth 4000
open Go.Deep
theorem fineP : Try.prog.readableRec 24 = true ∧ 24 < Try.prog.types.size := ⟨by kernel_rfl, of_decide_eq_true (by kernel_rfl)⟩
set_option maxHeartbeats 8000000 in
theorem needlessClues_walk (s : Int) (A : Option Addr) (c n : Nat) (f : Nat → Int) (w : World) (hc1 : n ≤ c) (hm1 : c ≤ 9223372036854775807) (hR : RdI w w.heap.size A (n * 4) f) :
    Calls Try.prog 7 #[.agg #[.int .i64 s, .slice A n c]] w fun e w' => e = .returned (.bool true) ∧ Below w.heap.size w w' := by
  have KZ := Lib.hid (fun W => szPuzzle_any s A n c W (by omega))
  have HB := Lib.hid (Below.alloc (Below.refl w.heap.size w) (Nat.le_refl _) (.cells #[.int .i64 s, .slice A n c] 24))
  by_cases hbig : (n : Int) ≤ 1048576
  · rw [if_pos hbig] at KZ
    have hz : ¬ (1048576 : Int) - n < 0 := by omega
    have hn : n ≤ 1048576 := by omega
    have hm : ((ndP s n f).length) ≤ 1048576 := ndP_len s n f
    have KT := Lib.hid (fun W (hb : Below w.heap.size w W) => toPuzzle_any s A c n f W hn (rdi_below hR hb (Nat.le_refl _)))
    have KS := Lib.hid (fun W g (h : Nib W g (n * 4) f) => specNeedlessClues_any s g 0 n n f W hn (Nat.le_refl _) (by omega) (nib_rd h))
    have KI := Lib.hid (fun W g (h : Nib W g (n * 4) f) => implNeedlessClues_any s g 0 n n f W hn (Nat.le_refl _) (by omega) (nib_rd h))
    have KE := Lib.hid (fun W g g' (h : Nib W g (n * 4) f) (h' : Nib W g' (n * 4) f) => eqPuzzle_same s (some ⟨g, 0, none⟩) (some ⟨g', 0, none⟩) n n n f W hn (nib_rd h) (nib_rd h'))
    have KM := Lib.hid (fun W g (h : Nib W g (n * 4) f) => markPuzzle_any s (some ⟨g, 0, none⟩) n n g (g + 1) f W hn h.z h.r)
    have KL := Lib.hid (fun W A A' c c' lo B lo' B' h hB h' hB' => eqIntS_same A A' c c' ((ndP s n f).length) lo B lo' B' (nthI (ndP s n f)) W hm h hB h' hB')
    have KN := Lib.hid (fun W lo B A c h => markIntS_any A c ((ndP s n f).length) 1 lo B (nthI (ndP s n f)) W hm (by omega) (by omega) h)
    have KH := Lib.hid (fun W lo B A c h => heldIntS_any A c ((ndP s n f).length) 1 lo B W hm (by omega) (by omega) h)
    clear hR hc1 hm1 hbig hn
    generalize nthI (ndP s n f) = F at *
    generalize (ndP s n f).length = p at *
    generalize puzB s n f = gb at *
    go_enter Try.func7, Try.ntmps7
    go_wp2_with fail
    refine (KZ.out _).mono ?_; rintro e w0 ⟨rfl, hb0⟩
    have B0 := HB.out.trans (hb0.mono HB.out.size)
    have P0 := Lib.hid (pbx_below (pbx_new w s A n c 24) hb0)
    have y0 := P0.out.c0
    have y1 := P0.out.c1
    have z0 := P0.out.z
    clear hb0 KZ HB
    go_wp2_with fail
    refine (KT.out _ B0).mono ?_; rintro e w1 ⟨g1, rfl, hb1, _, s1⟩
    have B1 := B0.trans (hb1.mono B0.size)
    have P1 := Lib.hid (pbx_below P0.out hb1)
    have hw1 := P1.out.z
    clear hb1 y0 y1 z0 B0 P0
    go_wp2_with fail
    refine (KS.out _ _ s1).mono ?_; rintro e w2 ⟨AS, cS, rfl, hb2, rS⟩
    have B2 := B1.trans (hb2.mono B1.size)
    have P2 := Lib.hid (pbx_below P1.out hb2)
    have RS2 := Lib.hid rS
    have z12 := hb2.size
    have wz1 := B1.size
    have y0 := P2.out.c0
    have y1 := P2.out.c1
    have z0 := P2.out.z
    clear hb2 B1 s1 P1 rS KS
    go_wp2_with fail
    refine (KT.out _ B2).mono ?_; rintro e w3 ⟨g3, rfl, hb3, hg3, s3⟩
    have B3 := B2.trans (hb3.mono B2.size)
    have P3 := Lib.hid (pbx_below P2.out hb3)
    have RS3 := Lib.hid (rwi_below RS2.out hb3 (Nat.le_refl _))
    have z23 := hb3.size
    clear hb3 y0 y1 z0 B2 P2 RS2
    go_wp2_with fail
    obtain ⟨W4, hW4⟩ : ∃ W4, W4 = w3.alloc (.cells #[.int .i64 s, .slice (some ⟨g3, 0, none⟩) n n] 28) := ⟨_, rfl⟩
    rw [← hW4]
    have BW : Below w3.heap.size w3 W4 := by rw [hW4]; exact Below.alloc (Below.refl _ _) (Nat.le_refl _) _
    have PX4 := Lib.hid (show Pbx W4 w3.heap.size s (some ⟨g3, 0, none⟩) n n by rw [hW4]; exact pbx_new _ _ _ _ _ _)
    clear hW4
    have B4 := B3.trans (BW.mono B3.size)
    have s4 := Lib.hid (nib_below s3 BW)
    have hg3u := s3.z
    have P4 := Lib.hid (pbx_below P3.out BW)
    have RS4 := Lib.hid (rwi_below RS3.out BW (by omega))
    obtain ⟨gx, hgx⟩ : ∃ g, g = w3.heap.size := ⟨_, rfl⟩
    rw [← hgx] at PX4 ⊢
    have zgx : g3 < gx := by omega
    have zx4 := PX4.out.z
    obtain ⟨lS, hlS⟩ : ∃ x, x = w1.heap.size := ⟨_, rfl⟩
    obtain ⟨uS, huS⟩ : ∃ x, x = w2.heap.size := ⟨_, rfl⟩
    rw [← hlS, ← huS] at RS4
    have hSg : uS ≤ g3 := by omega
    have hlw : w.heap.size < lS := by omega
    have hlu : lS ≤ uS := by omega
    have huw : uS ≤ W4.heap.size := by have := BW.size; omega
    clear hw1 hgx BW B3 s3 P3 RS3 hlS huS z12 wz1 z23 hg3 hg3u
    have x0 := PX4.out.c0
    have x1 := PX4.out.c1
    refine (KI.out _ _ s4.out).mono ?_; rintro e w5 ⟨AG, cG, rfl, hb5, rG⟩
    have B5 := B4.trans (hb5.mono B4.size)
    have P5 := Lib.hid (pbx_below P4.out hb5)
    have PX5 := Lib.hid (pbx_below PX4.out hb5)
    have s5 := Lib.hid (nib_below s4.out hb5)
    have RS5 := Lib.hid (rwi_below RS4.out hb5 huw)
    have z45 := hb5.size
    obtain ⟨lG, hlG⟩ : ∃ x, x = W4.heap.size := ⟨_, rfl⟩
    obtain ⟨uG, huG⟩ : ∃ x, x = w5.heap.size := ⟨_, rfl⟩
    rw [← hlG, ← huG] at rG
    have RG5 := Lib.hid rG
    have hgl : gx < lG := by omega
    have hu5 : uS ≤ w5.heap.size := by omega
    have hv5 : uG ≤ w5.heap.size := by omega
    have hSG : uS ≤ lG := by omega
    clear hb5 rG B4 P4 PX4 s4 RS4 z45 hlG huG x0 x1 zx4 huw
    go_wp2_with fail
    refine (KL.out w5 _ _ _ _ _ _ _ _ RG5.out hv5 RS5.out hu5).mono ?_; rintro e w6 ⟨rfl, hb6⟩
    have B6 := B5.trans (hb6.mono B5.size)
    have P6 := Lib.hid (pbx_below P5.out hb6)
    have PX6 := Lib.hid (pbx_below PX5.out hb6)
    have s6 := Lib.hid (nib_below s5.out hb6)
    have RS6 := Lib.hid (rwi_below RS5.out hb6 hu5)
    have RG6 := Lib.hid (rwi_below RG5.out hb6 hv5)
    have hu6 : uS ≤ w6.heap.size := Nat.le_trans hu5 hb6.size
    have hv6 : uG ≤ w6.heap.size := Nat.le_trans hv5 hb6.size
    clear hb6 B5 P5 PX5 s5 RS5 RG5 hu5 hv5
    have x0' := PX6.out.c0
    have x1' := PX6.out.c1
    have zx' := PX6.out.z
    have y0' := P6.out.c0
    have y1' := P6.out.c1
    have z6 := P6.out.z
    have E8 : Hid (∀ W ga, Below w6.heap.size w6 W → Nib W ga (n * 4) f → Calls Try.prog 19 #[.agg #[.int .i64 s, .slice (some ⟨g3, 0, none⟩) n n], .agg #[.int .i64 s, .slice (some ⟨ga, 0, none⟩) n n]] W fun e w' => e = .returned (.bool true) ∧ Below W.heap.size W w') :=
      Lib.hid (fun W ga hb h3 => KE.out W g3 ga (nib_below s6.out hb) h3)
    clear KE
    go_upto_region 10 with fail
    go_cut [45] from 41 to 44 (fun p wx => p = .bool false ∧ Below w6.heap.size w6 wx)
    case first =>
      go_region_with (first
        | (go_at_call 17; go_loud (refine (KT.out _ (by first | exact B6 | exact B6.drew)).mono ?_); rintro e wA ⟨ga, rfl, hbA, hgA, sA1⟩;
           have kA : Below w6.heap.size w6 wA := (by first | exact hbA | exact (Below.refl _ _).drew.trans hbA);
           have xA0 := ((bcell kA).1 _ 0 zx').trans x0';
           have xA1 := ((bcell kA).1 _ 1 zx').trans x1';
           have zA := Nat.lt_of_lt_of_le zx' kA.size;
           clear hbA hgA)
        | (go_at_call 19; go_loud (refine (E8.out _ _ kA sA1).mono ?_); rintro e wB ⟨rfl, hbB⟩;
           have BB := kA.trans (hbB.mono kA.size); clear hbB))
      all_goals
        go_wp2_with fail
        go_meet
        case rel => exact ⟨rfl, by first | exact BB | exact BB.drew⟩
    case rest =>
    obtain ⟨rfl, BC⟩ := hcut
    clear x0' x1' zx' y0' y1' z6 E8
    have B7 := B6.trans (BC.mono B6.size)
    have P7 := Lib.hid (pbx_below P6.out BC)
    have PX7 := Lib.hid (pbx_below PX6.out BC)
    have s7 := Lib.hid (nib_below s6.out BC)
    have RS7 := Lib.hid (rwi_below RS6.out BC hu6)
    have RG7 := Lib.hid (rwi_below RG6.out BC hv6)
    have hu7 := Nat.le_trans hu6 BC.size
    have hv7 := Nat.le_trans hv6 BC.size
    clear BC B6 P6 PX6 s6 RS6 RG6 hu6 hv6
    rename World => wc
    have x0 := PX7.out.c0
    have x1 := PX7.out.c1
    have xz := PX7.out.z
    have g3w : w.heap.size ≤ g3 := by omega
    have hp7 := P7.out.z
    go_wp2_with fail
    refine (KM.out wc g3 s7.out).mono ?_; rintro e w8 ⟨rfl, _, hz8, hk8, e1, e2, e3⟩
    have B8 : Below w.heap.size w w8 := B7.trans ⟨e1, e2, e3, hz8, fun k hk => hk8 k (by have := B7.size; omega) (.inl (by omega))⟩
    have hpne : w.heap.size < g3 := by omega
    have P8 : Hid (Pbx w8 w.heap.size s A n c) := Lib.hid ⟨Nat.lt_of_lt_of_le hp7 hz8, (World.cell?_of_block (w := wc) (hk8 _ hp7 (.inl hpne))).trans P7.out.c0, (World.cell?_of_block (w := wc) (hk8 _ hp7 (.inl hpne))).trans P7.out.c1⟩
    have RS8 := Lib.hid (rwi_block RS7.out fun k h1 h2 => hk8 k (by omega) (.inl (by omega)))
    have RG8 := Lib.hid (rwi_block RG7.out fun k h1 h2 => hk8 k (by omega) (.inr (by omega)))
    have hu8 := Nat.le_trans hu7 hz8
    have hv8 := Nat.le_trans hv7 hz8
    clear hz8 hk8 e1 e2 e3 B7 P7 PX7 s7 RS7 RG7 hu7 hv7 x0 x1 xz hp7
    have hk0 : ¬ (1 : Int) + 4 * (n : Int) < 0 := by omega
    go_wp2_with fail
    refine (KL.out w8 _ _ _ _ _ _ _ _ RG8.out hv8 RS8.out hu8).mono ?_; rintro e w9 ⟨rfl, hb9⟩
    have B9 := B8.trans (hb9.mono B8.size)
    have P9 := Lib.hid (pbx_below P8.out hb9)
    have RS9 := Lib.hid (rwi_below RS8.out hb9 hu8)
    have RG9 := Lib.hid (rwi_below RG8.out hb9 hv8)
    have hu9 := Nat.le_trans hu8 hb9.size
    have hv9 := Nat.le_trans hv8 hb9.size
    clear hb9 B8 P8 RS8 RG8 hu8 hv8
    have hp9 := P9.out.z
    go_wp2_with fail
    refine (KN.out w9 _ _ _ _ RG9.out).mono ?_; rintro e w10 ⟨rfl, ho10, rG10⟩
    have B10 : Below w.heap.size w w10 := B9.trans (ho10.below.mono (by omega))
    have hgb : w.heap.size < lG := by omega
    have P10 : Hid (Pbx w10 w.heap.size s A n c) := Lib.hid ⟨by have := ho10.size; omega, (World.cell?_of_block (w := w9) (ho10.block _ (.inl hgb))).trans P9.out.c0, (World.cell?_of_block (w := w9) (ho10.block _ (.inl hgb))).trans P9.out.c1⟩
    have RS10 := Lib.hid (rwi_only RS9.out ho10 (.inl hSG))
    have RG10 := Lib.hid rG10
    have hu10 : uS ≤ w10.heap.size := by have := ho10.size; omega
    have hv10 : uG ≤ w10.heap.size := by have := ho10.size; omega
    clear ho10 rG10 B9 P9 RS9 RG9 hu9 hv9 hp9
    have y0 := P10.out.c0
    have y1 := P10.out.c1
    have yz := P10.out.z
    go_wp2_with fail
    refine (KH.out w10 _ _ _ _ RG10.out).mono ?_; rintro e _ ⟨rfl, rfl⟩
    go_wp2_with fail
    refine (KT.out w10 B10).mono ?_; rintro e w11 ⟨g4, rfl, hb11, _, s11⟩
    have B11 := B10.trans (hb11.mono B10.size)
    have RS11 := Lib.hid (rwi_below RS10.out hb11 hu10)
    have RG11 := Lib.hid (rwi_below RG10.out hb11 hv10)
    have hu11 := Nat.le_trans hu10 hb11.size
    have hv11 := Nat.le_trans hv10 hb11.size
    clear hb11 B10 P10 RS10 RG10 hu10 hv10 y0 y1 yz
    go_wp2_with fail
    refine (KI.out w11 _ s11).mono ?_; rintro e w12 ⟨AH, cH, rfl, hb12, rH⟩
    have B12 := B11.trans (hb12.mono B11.size)
    have RS12 := Lib.hid (rwi_below RS11.out hb12 hu11)
    have RG12 := Lib.hid (rwi_below RG11.out hb12 hv11)
    have RH := Lib.hid rH
    have hu12 := Nat.le_trans hu11 hb12.size
    have hv12 := Nat.le_trans hv11 hb12.size
    clear hb12 B11 RS11 RG11 hu11 hv11 rH s11
    go_wp2_with fail
    refine (KL.out w12 _ _ _ _ _ _ _ _ RH.out (Nat.le_refl _) RS12.out hu12).mono ?_; rintro e w13 ⟨rfl, hb13⟩
    have B13 := B12.trans (hb13.mono B12.size)
    have RG13 := Lib.hid (rwi_below RG12.out hb13 hv12)
    clear hb13 B12 RS12 RG12 RH hu12 hv12
    go_wp2_with fail
    refine (KH.out w13 _ _ _ _ RG13.out).mono ?_; rintro e _ ⟨rfl, rfl⟩
    go_wp2_with fail
    go_ret
    exact ⟨rfl, B13⟩
  · rw [if_neg hbig] at KZ
    clear hR hc1 hm1 hbig
    go_enter Try.func7, Try.ntmps7
    go_wp2_with fail
    refine (KZ.out _).mono ?_; rintro e w0 ⟨rfl, hb0⟩
    go_wp2_with fail
    go_ret
    exact ⟨rfl, HB.out.trans (hb0.mono HB.out.size)⟩
set_option maxRecDepth 100000 in
theorem needlessClues_lifted (os : Os) (started : os.Started) (H : Type) (enc : TypeId × Value → H) :
    ReturnsInHanded {} Try.checked os 7 .any (Rows.fnExactNeedlessCluesSpec.pre6 enc Try.prog Try.f7 Rows.fnExactNeedlessCluesRow.domain false) (Rows.fnExactNeedlessCluesSpec.post enc Try.prog Try.f7 false true false false) := by
  refine returnsInHanded_of_change (C := Try.checked) own started (by kernel_rfl) Try.func7
    (ChangeSpec.witness6 (enc := enc) (C := Try.checked) false ⟨#[], #[.agg #[.int .i64 0, .slice none 0 0]], []⟩ 8 (by kernel_rfl) (by kernel_rfl) (by kernel_rfl) (by kernel_rfl)) ?_
  intro W base args ds gs before hval0 hW hcnd _
  have hval : ∀ (j : Nat) t v, Try.f7.params[j]? = some t → args[j]? = some v → Value.okWide Try.prog W .any base t v := hval0
  have hW' := hW
  obtain ⟨p, q, hA0, hV, rfl, hfz, hnd⟩ := hW
  have hA : DataW.TrodAll enc Try.prog W 0 (fun _ => true) true Try.f7.params.toList args.toList ds p := hA0
  rw [Try.params7] at hA hval
  obtain ⟨v0, vs0, d0, ds0, p0, q0, hargs, rfl, rfl, h0, r0⟩ := trodAll_cons hA
  obtain ⟨rfl, rfl, rfl⟩ := trodAll_nil r0
  obtain rfl : args = #[v0] := by cases args; simp_all
  obtain ⟨s0, A0, c0, n0, f0, rfl, hlc0, hcm0, hR0⟩ := open_puzzle (hval 0 24 v0 rfl rfl) h0
  unfold maxLen at hcm0
  refine (needlessClues_walk s0 A0 c0 n0 f0 W hlc0 hcm0 hR0).mono fun e W' ⟨he, hb⟩ => ?_
  subst he
  exact ⟨_, rfl, law_done hW' rfl (by kernel_rfl) (fun t ht => by rw [Try.params7] at ht; simp at ht; first | (subst ht; exact fineP)) rfl hb⟩
theorem needlessClues_over : Rows.fnExactNeedlessCluesRow.holds Try.pinned (OpenSpec.ofChange Rows.fnExactNeedlessCluesSpec) :=
  OpenClaim.holds_of_wide 7 Try.f7 rfl rfl rfl rfl rfl rfl rfl ⟨rfl, rfl, rfl, rfl, rfl⟩ rfl rfl rfl rfl rfl (by kernel_rfl) Try.func7 (by kernel_rfl)
    (of_decide_eq_true (by kernel_rfl)) (by unfold Func.isWrapper; rw [if_neg (of_decide_eq_false (by kernel_rfl))]; exact ⟨rfl, rfl⟩)
    (fun os started H enc _ => needlessClues_lifted os started H enc)
theorem needlessClues_proved : Rows.FnExactNeedlessCluesSaid := needlessClues_over
end Go.Proofs.Ytacabmbajadbgaa
