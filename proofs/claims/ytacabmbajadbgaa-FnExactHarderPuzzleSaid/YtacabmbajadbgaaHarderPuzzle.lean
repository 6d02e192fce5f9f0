/- The law FnExactHarderPuzzle returns true at every number and every list of clues, whatever its length and numbers, and changes nothing: the program takes out the clues without which a puzzle is solved still as its model does, in new memory. -/
import Derived.Test.YtacabmbajadbgaaPz4
import Derived.Test.YtacabmbajadbgaaPwC
import Derived.Test.YtacabmbajadbgaaO
import Derived.Deep.CutRange
import Derived.Deep.RegionWith
import Derived.Deep.DeepMust
namespace Go.Proofs.Ytacabmbajadbgaa
open Go.ChangeShapes Go.WideShapes Go.ChangeAt Go.RowKit Go.Joins
set_option linter.unusedVariables false
set_option linter.unusedSimpArgs false
set_option maxRecDepth 4000
open Go.Deep
theorem fineP : Try.prog.readableRec 24 = true ∧ 24 < Try.prog.types.size := ⟨by kernel_rfl, of_decide_eq_true (by kernel_rfl)⟩
set_option maxHeartbeats 12000000 in
theorem harderPuzzle_walk (s : Int) (A : Option Addr) (c n : Nat) (f : Nat → Int) (w : World) (hc1 : n ≤ c) (hm1 : c ≤ 9223372036854775807) (hR : RdI w w.heap.size A (n * 4) f) :
    Calls Try.prog 8 #[.agg #[.int .i64 s, .slice A n c]] w fun e w' => e = .returned (.bool true) ∧ Below w.heap.size w w' := by
  have KZ := Lib.hid (fun W => szPuzzle_any s A n c W (by omega))
  have HB := Lib.hid (Below.alloc (Below.refl w.heap.size w) (Nat.le_refl _) (.cells #[.int .i64 s, .slice A n c] 24))
  by_cases hbig : (n : Int) ≤ 1048576
  · rw [if_pos hbig] at KZ
    have hz : ¬ (1048576 : Int) - n < 0 := by omega
    have hn : n ≤ 1048576 := by omega
    have hm : (hrN s n f) ≤ 1048576 := hrN_len s n f hn
    have KT := Lib.hid (fun W (hb : Below w.heap.size w W) => toPuzzle_any s A c n f W hn (rdi_below hR hb (Nat.le_refl _)))
    have KS := Lib.hid (fun W g (h : Nib W g (n * 4) f) => specHarderPuzzle_any s g 0 n n f W hn (Nat.le_refl _) (by omega) (nib_rd h))
    have KI := Lib.hid (fun W g (h : Nib W g (n * 4) f) => implHarderPuzzle_any s g 0 n n f W hn (Nat.le_refl _) (by omega) (nib_rd h))
    have KE := Lib.hid (fun W g g' (h : Nib W g (n * 4) f) (h' : Nib W g' (n * 4) f) => eqPuzzle_same s (some ⟨g, 0, none⟩) (some ⟨g', 0, none⟩) n n n f W hn (nib_rd h) (nib_rd h'))
    have KM := Lib.hid (fun W g (h : Nib W g (n * 4) f) => markPuzzle_any s (some ⟨g, 0, none⟩) n n g (g + 1) f W hn h.z h.r)
    have KQ := Lib.hid (fun W A A' c c' lo B lo' B' (h : RwI W lo B A ((hrN s n f) * 4) (hrF s n f)) (hB : B ≤ W.heap.size) (h' : RwI W lo' B' A' ((hrN s n f) * 4) (hrF s n f)) (hB' : B' ≤ W.heap.size) => eqPuzzle_same (hrS s n f) A A' c c' (hrN s n f) (hrF s n f) W hm (rdi_of_rw h hB) (rdi_of_rw h' hB'))
    have KN := Lib.hid (fun W lo B A c (hB : B ≤ W.heap.size) h => markPuzzle_any (hrS s n f) A c (hrN s n f) lo B (hrF s n f) W hm hB h)
    have KH := Lib.hid (fun W lo B A c (hB : B ≤ W.heap.size) h => heldPuzzle_any (hrS s n f) A c (hrN s n f) lo B W hm hB h)
    clear hR hc1 hm1 hbig hn
    generalize (hrF s n f) = F at *
    generalize (hrN s n f) = p at *
    generalize (hrS s n f) = S at *
    generalize (hrB s n f) = gb at *
    go_enter Try.func8, Try.ntmps8
    go_wp2_with fail
    refine (KZ.out _).mono ?_; rintro e w0 ⟨rfl, hb0⟩
    have B0 := HB.out.trans (hb0.mono HB.out.size)
    have P0 := Lib.hid (pbx_below (pbx_new w s A n c 24) hb0)
    clear hb0 KZ HB
    have y0 := P0.out.c0
    have y1 := P0.out.c1
    have yz := P0.out.z
    go_wp2_with fail
    clear y0 y1 yz
    refine (KT.out _ B0).mono ?_; rintro e w1 ⟨g1, rfl, hb1, _, s1⟩
    have B1 := B0.trans (hb1.mono B0.size)
    have P1 := Lib.hid (pbx_below P0.out hb1)
    clear P0 B0
    have hlw : w.heap.size < w1.heap.size := P1.out.z
    clear hb1
    have T1 := Lib.hid s1
    clear s1
    go_wp2_with fail
    refine (KS.out _ _ T1.out).mono ?_; rintro e w2 ⟨AS, cS, rfl, hb2, rS⟩
    have B2 := B1.trans (hb2.mono B1.size)
    have P2 := Lib.hid (pbx_below P1.out hb2)
    clear P1 B1
    have RS2 := Lib.hid rS
    have hu2 : w2.heap.size ≤ w2.heap.size := Nat.le_refl _
    have hlu' := hb2.size
    obtain ⟨lS, hlS⟩ : ∃ x, x = w1.heap.size := ⟨_, rfl⟩
    obtain ⟨uS, huS⟩ : ∃ x, x = w2.heap.size := ⟨_, rfl⟩
    rw [← hlS, ← huS] at RS2
    rw [← huS] at hu2
    have hlu : lS ≤ uS := by omega
    have hlw : w.heap.size < lS := by omega
    clear hb2 rS T1 hlu'
    have hu2 : uS ≤ w2.heap.size := by omega
    have y0 := P2.out.c0
    have y1 := P2.out.c1
    have yz := P2.out.z
    go_wp2_with fail
    clear y0 y1 yz
    obtain ⟨W3, hW3⟩ : ∃ W, W = w2.alloc (.cells #[.int .i64 S, .slice AS p cS] 28) := ⟨_, rfl⟩
    rw [← hW3]
    have BW3 : Below w2.heap.size w2 W3 := by rw [hW3]; exact Below.alloc (Below.refl _ _) (Nat.le_refl _) _
    have PS3 := Lib.hid (show Pbx W3 w2.heap.size S AS p cS by rw [hW3]; exact pbx_new _ _ _ _ _ _)
    clear hW3
    obtain ⟨bS, hbS⟩ : ∃ g, g = w2.heap.size := ⟨_, rfl⟩
    rw [← hbS] at PS3 ⊢
    have B3 := B2.trans (BW3.mono B2.size)
    have P3 := Lib.hid (pbx_below P2.out BW3)
    have RS3 := Lib.hid (rwi_below RS2.out BW3 hu2)
    have hu3 := Nat.le_trans hu2 BW3.size
    clear P2 RS2 hu2 B2
    have hSb : uS ≤ bS := by omega
    clear hbS hlS huS
    refine (KT.out _ B3).mono ?_; rintro e w4 ⟨g3, rfl, hb4, hg3, s4⟩
    have hbg : bS < g3 := by have := PS3.out.z; omega
    have N4 := Lib.hid s4
    clear s4 hg3
    have B4 := B3.trans (hb4.mono B3.size)
    have P4 := Lib.hid (pbx_below P3.out hb4)
    have PS4 := Lib.hid (pbx_below PS3.out hb4)
    have RS4 := Lib.hid (rwi_below RS3.out hb4 hu3)
    have hu4 := Nat.le_trans hu3 hb4.size
    clear P3 PS3 RS3 hu3 B3
    clear hb4
    go_wp2_with fail
    have hg3z := N4.out.z
    obtain ⟨W5, hW5⟩ : ∃ W, W = w4.alloc (.cells #[.int .i64 s, .slice (some ⟨g3, 0, none⟩) n n] 28) := ⟨_, rfl⟩
    rw [← hW5]
    have BW5 : Below w4.heap.size w4 W5 := by rw [hW5]; exact Below.alloc (Below.refl _ _) (Nat.le_refl _) _
    have PX5 := Lib.hid (show Pbx W5 w4.heap.size s ((some ⟨g3, 0, none⟩)) n n by rw [hW5]; exact pbx_new _ _ _ _ _ _)
    clear hW5
    obtain ⟨gx, hgx⟩ : ∃ g, g = w4.heap.size := ⟨_, rfl⟩
    rw [← hgx] at PX5 ⊢
    have B5 := B4.trans (BW5.mono B4.size)
    have P5 := Lib.hid (pbx_below P4.out BW5)
    have PS5 := Lib.hid (pbx_below PS4.out BW5)
    have RS5 := Lib.hid (rwi_below RS4.out BW5 hu4)
    have hu5 := Nat.le_trans hu4 BW5.size
    have N5 := Lib.hid (nib_below N4.out BW5)
    clear P4 PS4 RS4 hu4 N4 B4
    have hg3x : g3 < gx := by omega
    clear hgx hg3z
    have hgxl : gx < W5.heap.size := PX5.out.z
    have x0 := PX5.out.c0
    have x1 := PX5.out.c1
    have xz := PX5.out.z
    go_wp2_with fail
    clear x0 x1 xz
    refine (KI.out _ _ N5.out).mono ?_; rintro e w6 ⟨AG, cG, rfl, hb6, rG⟩
    have B6 := B5.trans (hb6.mono B5.size)
    have P6 := Lib.hid (pbx_below P5.out hb6)
    have PS6 := Lib.hid (pbx_below PS5.out hb6)
    have RS6 := Lib.hid (rwi_below RS5.out hb6 hu5)
    have hu6 := Nat.le_trans hu5 hb6.size
    have N6 := Lib.hid (nib_below N5.out hb6)
    have PX6 := Lib.hid (pbx_below PX5.out hb6)
    clear P5 PS5 RS5 hu5 N5 PX5 B5
    have RG6 := Lib.hid rG
    have hlu2 := hb6.size
    obtain ⟨lG, hlG⟩ : ∃ x, x = W5.heap.size := ⟨_, rfl⟩
    obtain ⟨uG, huG⟩ : ∃ x, x = w6.heap.size := ⟨_, rfl⟩
    rw [← hlG, ← huG] at RG6
    have hgl : gx < lG := by omega
    have hlu3 : lG ≤ uG := by omega
    have hv6 : uG ≤ w6.heap.size := by omega
    clear hb6 rG hlu2 hgxl
    have d0 := PS6.out.c0
    have d1 := PS6.out.c1
    have dz := PS6.out.z
    go_wp2_with fail
    clear d0 d1 dz
    obtain ⟨W7, hW7⟩ : ∃ W, W = w6.alloc (.cells #[.int .i64 S, .slice AG p cG] 28) := ⟨_, rfl⟩
    rw [← hW7]
    have BW7 : Below w6.heap.size w6 W7 := by rw [hW7]; exact Below.alloc (Below.refl _ _) (Nat.le_refl _) _
    have PG7 := Lib.hid (show Pbx W7 w6.heap.size S AG p cG by rw [hW7]; exact pbx_new _ _ _ _ _ _)
    clear hW7
    obtain ⟨bG, hbG⟩ : ∃ g, g = w6.heap.size := ⟨_, rfl⟩
    rw [← hbG] at PG7 ⊢
    have B7 := B6.trans (BW7.mono B6.size)
    have P7 := Lib.hid (pbx_below P6.out BW7)
    have PS7 := Lib.hid (pbx_below PS6.out BW7)
    have RS7 := Lib.hid (rwi_below RS6.out BW7 hu6)
    have hu7 := Nat.le_trans hu6 BW7.size
    have N7 := Lib.hid (nib_below N6.out BW7)
    have PX7 := Lib.hid (pbx_below PX6.out BW7)
    have RG7 := Lib.hid (rwi_below RG6.out BW7 hv6)
    have hv7 := Nat.le_trans hv6 BW7.size
    clear P6 PS6 RS6 hu6 N6 PX6 RG6 hv6 B6
    have hGb : uG ≤ bG := by omega
    clear hbG hlG huG
    refine (KQ.out W7 _ _ _ _ _ _ _ _ RG7.out hv7 RS7.out hu7).mono ?_; rintro e w8 ⟨rfl, hb8⟩
    have B8 := B7.trans (hb8.mono B7.size)
    have P8 := Lib.hid (pbx_below P7.out hb8)
    have PS8 := Lib.hid (pbx_below PS7.out hb8)
    have RS8 := Lib.hid (rwi_below RS7.out hb8 hu7)
    have hu8 := Nat.le_trans hu7 hb8.size
    have N8 := Lib.hid (nib_below N7.out hb8)
    have PX8 := Lib.hid (pbx_below PX7.out hb8)
    have RG8 := Lib.hid (rwi_below RG7.out hb8 hv7)
    have hv8 := Nat.le_trans hv7 hb8.size
    have PG8 := Lib.hid (pbx_below PG7.out hb8)
    clear P7 PS7 RS7 hu7 N7 PX7 RG7 hv7 PG7 B7
    clear hb8
    have x0' := PX8.out.c0
    have x1' := PX8.out.c1
    have zx' := PX8.out.z
    have y0' := P8.out.c0
    have y1' := P8.out.c1
    have z8 := P8.out.z
    have E8 : Hid (∀ W ga, Below w8.heap.size w8 W → Nib W ga (n * 4) f → Calls Try.prog 19 #[.agg #[.int .i64 s, .slice (some ⟨g3, 0, none⟩) n n], .agg #[.int .i64 s, .slice (some ⟨ga, 0, none⟩) n n]] W fun e w' => e = .returned (.bool true) ∧ Below W.heap.size W w') :=
      Lib.hid (fun W ga hb h3 => KE.out W g3 ga (nib_below N8.out hb) h3)
    clear KE
    go_upto_region 10 with fail
    go_cut [45] from 41 to 44 (fun p wx => p = .bool false ∧ Below w8.heap.size w8 wx)
    case first =>
      go_region_with (first
        | (go_at_call 17; go_loud (refine (KT.out _ (by first | exact B8 | exact B8.drew)).mono ?_); rintro e wA ⟨ga, rfl, hbA, hgA, sA1⟩;
           have kA : Below w8.heap.size w8 wA := (by first | exact hbA | exact (Below.refl _ _).drew.trans hbA);
           have xA0 := ((bcell kA).1 _ 0 zx').trans x0';
           have xA1 := ((bcell kA).1 _ 1 zx').trans x1';
           have zA := Nat.lt_of_lt_of_le zx' kA.size;
           clear hbA hgA)
        | (go_at_call 19; go_loud (refine (E8.out _ _ kA sA1).mono ?_); rintro e wB ⟨rfl, hbB⟩;
           have BB := kA.trans (hbB.mono kA.size); clear hbB))
      all_goals
        go_wp2_with fail
        go_meet
        case rel => exact ⟨rfl, by first | exact BB | exact BB.drew⟩
    case rest =>
    obtain ⟨rfl, BC⟩ := hcut
    rename World => wc
    clear x0' x1' zx' y0' y1' z8 E8
    have B9 := B8.trans (BC.mono B8.size)
    have P9 := Lib.hid (pbx_below P8.out BC)
    have PS9 := Lib.hid (pbx_below PS8.out BC)
    have RS9 := Lib.hid (rwi_below RS8.out BC hu8)
    have hu9 := Nat.le_trans hu8 BC.size
    have N9 := Lib.hid (nib_below N8.out BC)
    have PX9 := Lib.hid (pbx_below PX8.out BC)
    have RG9 := Lib.hid (rwi_below RG8.out BC hv8)
    have hv9 := Nat.le_trans hv8 BC.size
    have PG9 := Lib.hid (pbx_below PG8.out BC)
    clear P8 PS8 RS8 hu8 N8 PX8 RG8 hv8 PG8 B8
    clear BC
    have x0 := PX9.out.c0
    have x1 := PX9.out.c1
    have xz := PX9.out.z
    have hp9 := P9.out.z
    have hps9 := PS9.out.z
    have hpg9 := PG9.out.z
    go_wp2_with fail
    clear x0 x1 xz
    refine (KM.out wc g3 N9.out).mono ?_; rintro e w10 ⟨rfl, _, hz10, hk10, e1, e2, e3⟩
    have B10 : Below w.heap.size w w10 := B9.trans ⟨e1, e2, e3, hz10, fun k hk => hk10 k (by have := B9.size; omega) (.inl (by omega))⟩
    have hpne : w.heap.size < g3 := by omega
    have P10 : Hid (Pbx w10 w.heap.size s A n c) := Lib.hid ⟨Nat.lt_of_lt_of_le hp9 hz10, (World.cell?_of_block (w := wc) (hk10 _ hp9 (.inl hpne))).trans P9.out.c0, (World.cell?_of_block (w := wc) (hk10 _ hp9 (.inl hpne))).trans P9.out.c1⟩
    have PS10 : Hid (Pbx w10 bS S AS p cS) := Lib.hid ⟨Nat.lt_of_lt_of_le hps9 hz10, (World.cell?_of_block (w := wc) (hk10 _ hps9 (.inl hbg))).trans PS9.out.c0, (World.cell?_of_block (w := wc) (hk10 _ hps9 (.inl hbg))).trans PS9.out.c1⟩
    have hgg : g3 + 1 ≤ bG := by omega
    have PG10 : Hid (Pbx w10 bG S AG p cG) := Lib.hid ⟨Nat.lt_of_lt_of_le hpg9 hz10, (World.cell?_of_block (w := wc) (hk10 _ hpg9 (.inr hgg))).trans PG9.out.c0, (World.cell?_of_block (w := wc) (hk10 _ hpg9 (.inr hgg))).trans PG9.out.c1⟩
    have RS10 := Lib.hid (rwi_block RS9.out fun k h1 h2 => hk10 k (by omega) (.inl (by omega)))
    have RG10 := Lib.hid (rwi_block RG9.out fun k h1 h2 => hk10 k (by omega) (.inr (by omega)))
    have hu10 := Nat.le_trans hu9 hz10
    have hv10 := Nat.le_trans hv9 hz10
    clear hz10 hk10 e1 e2 e3 B9 P9 PS9 PG9 PX9 N9 RS9 RG9 hu9 hv9 hp9 hps9 hpg9
    have hk0 : ¬ (1 : Int) + 4 * (n : Int) < 0 := by omega
    have hk1 : ¬ (1 : Int) + 4 * (p : Int) < 0 := by omega
    have a0 := PG10.out.c0
    have a1 := PG10.out.c1
    have az := PG10.out.z
    have d0 := PS10.out.c0
    have d1 := PS10.out.c1
    have dz := PS10.out.z
    go_wp2_with fail
    clear a0 a1 az d0 d1 dz
    refine (KQ.out w10 _ _ _ _ _ _ _ _ RG10.out hv10 RS10.out hu10).mono ?_; rintro e w11 ⟨rfl, hb11⟩
    have B11 := B10.trans (hb11.mono B10.size)
    have P11 := Lib.hid (pbx_below P10.out hb11)
    have PS11 := Lib.hid (pbx_below PS10.out hb11)
    have RS11 := Lib.hid (rwi_below RS10.out hb11 hu10)
    have hu11 := Nat.le_trans hu10 hb11.size
    have RG11 := Lib.hid (rwi_below RG10.out hb11 hv10)
    have hv11 := Nat.le_trans hv10 hb11.size
    have PG11 := Lib.hid (pbx_below PG10.out hb11)
    clear P10 PS10 RS10 hu10 RG10 hv10 PG10 B10
    clear hb11
    have a0 := PG11.out.c0
    have a1 := PG11.out.c1
    have az := PG11.out.z
    have hp11 := P11.out.z
    have hps11 := PS11.out.z
    have hpg11 := PG11.out.z
    go_wp2_with fail
    clear a0 a1 az
    refine (KN.out w11 _ _ _ _ hv11 RG11.out).mono ?_; rintro e w12 ⟨rfl, rG12, hz12, hk12, e1, e2, e3⟩
    have B12 : Below w.heap.size w w12 := B11.trans ⟨e1, e2, e3, hz12, fun k hk => hk12 k (by have := B11.size; omega) (.inl (by omega))⟩
    have hgb : w.heap.size < lG := by omega
    have hsb : bS < lG := by omega
    have P12 : Hid (Pbx w12 w.heap.size s A n c) := Lib.hid ⟨Nat.lt_of_lt_of_le hp11 hz12, (World.cell?_of_block (w := w11) (hk12 _ hp11 (.inl hgb))).trans P11.out.c0, (World.cell?_of_block (w := w11) (hk12 _ hp11 (.inl hgb))).trans P11.out.c1⟩
    have PS12 : Hid (Pbx w12 bS S AS p cS) := Lib.hid ⟨Nat.lt_of_lt_of_le hps11 hz12, (World.cell?_of_block (w := w11) (hk12 _ hps11 (.inl hsb))).trans PS11.out.c0, (World.cell?_of_block (w := w11) (hk12 _ hps11 (.inl hsb))).trans PS11.out.c1⟩
    have PG12 : Hid (Pbx w12 bG S AG p cG) := Lib.hid ⟨Nat.lt_of_lt_of_le hpg11 hz12, (World.cell?_of_block (w := w11) (hk12 _ hpg11 (.inr hGb))).trans PG11.out.c0, (World.cell?_of_block (w := w11) (hk12 _ hpg11 (.inr hGb))).trans PG11.out.c1⟩
    have RS12 := Lib.hid (rwi_block RS11.out fun k h1 h2 => hk12 k (by omega) (.inl (by omega)))
    have RG12 := Lib.hid rG12
    have hu12 := Nat.le_trans hu11 hz12
    have hv12 := Nat.le_trans hv11 hz12
    clear hz12 hk12 e1 e2 e3 B11 P11 PS11 PG11 RS11 RG11 hu11 hv11 hp11 hps11 hpg11 rG12
    have a0 := PG12.out.c0
    have a1 := PG12.out.c1
    have az := PG12.out.z
    go_wp2_with fail
    clear a0 a1 az
    refine (KH.out w12 _ _ _ _ hv12 RG12.out).mono ?_; rintro e w13 ⟨rfl, hb13⟩
    have B13 := B12.trans (hb13.mono B12.size)
    have P13 := Lib.hid (pbx_below P12.out hb13)
    have PS13 := Lib.hid (pbx_below PS12.out hb13)
    have RS13 := Lib.hid (rwi_below RS12.out hb13 hu12)
    have hu13 := Nat.le_trans hu12 hb13.size
    have RG13 := Lib.hid (rwi_below RG12.out hb13 hv12)
    have hv13 := Nat.le_trans hv12 hb13.size
    have PG13 := Lib.hid (pbx_below PG12.out hb13)
    clear P12 PS12 RS12 hu12 RG12 hv12 PG12 B12
    clear hb13
    have y0 := P13.out.c0
    have y1 := P13.out.c1
    have yz := P13.out.z
    go_wp2_with fail
    clear y0 y1 yz
    refine (KT.out w13 B13).mono ?_; rintro e w14 ⟨g4, rfl, hb14, _, s14⟩
    have N14 := Lib.hid s14
    clear s14
    have B14 := B13.trans (hb14.mono B13.size)
    have PS14 := Lib.hid (pbx_below PS13.out hb14)
    have RS14 := Lib.hid (rwi_below RS13.out hb14 hu13)
    have hu14 := Nat.le_trans hu13 hb14.size
    have RG14 := Lib.hid (rwi_below RG13.out hb14 hv13)
    have hv14 := Nat.le_trans hv13 hb14.size
    have PG14 := Lib.hid (pbx_below PG13.out hb14)
    clear PS13 RS13 hu13 RG13 hv13 PG13 B13
    clear hb14 P13
    go_wp2_with fail
    refine (KI.out w14 _ N14.out).mono ?_; rintro e w15 ⟨AH, cH, rfl, hb15, rH⟩
    have B15 := B14.trans (hb15.mono B14.size)
    have PS15 := Lib.hid (pbx_below PS14.out hb15)
    have RS15 := Lib.hid (rwi_below RS14.out hb15 hu14)
    have hu15 := Nat.le_trans hu14 hb15.size
    have RG15 := Lib.hid (rwi_below RG14.out hb15 hv14)
    have hv15 := Nat.le_trans hv14 hb15.size
    have PG15 := Lib.hid (pbx_below PG14.out hb15)
    clear PS14 RS14 hu14 RG14 hv14 PG14 B14
    have RH15 := Lib.hid rH
    clear hb15 rH N14
    have d0 := PS15.out.c0
    have d1 := PS15.out.c1
    have dz := PS15.out.z
    go_wp2_with fail
    clear d0 d1 dz
    obtain ⟨W16, hW16⟩ : ∃ W, W = w15.alloc (.cells #[.int .i64 S, .slice AH p cH] 28) := ⟨_, rfl⟩
    rw [← hW16]
    have BW16 : Below w15.heap.size w15 W16 := by rw [hW16]; exact Below.alloc (Below.refl _ _) (Nat.le_refl _) _
    have RH16 := Lib.hid (rwi_below RH15.out BW16 (Nat.le_refl _))
    have hh16 := BW16.size
    clear hW16
    have B16 := B15.trans (BW16.mono B15.size)
    have PS16 := Lib.hid (pbx_below PS15.out BW16)
    have RS16 := Lib.hid (rwi_below RS15.out BW16 hu15)
    have hu16 := Nat.le_trans hu15 BW16.size
    have RG16 := Lib.hid (rwi_below RG15.out BW16 hv15)
    have hv16 := Nat.le_trans hv15 BW16.size
    have PG16 := Lib.hid (pbx_below PG15.out BW16)
    clear PS15 RS15 hu15 RG15 hv15 PG15 B15
    refine (KQ.out W16 _ _ _ _ _ _ _ _ RH16.out hh16 RS16.out hu16).mono ?_; rintro e w17 ⟨rfl, hb17⟩
    have B17 := B16.trans (hb17.mono B16.size)
    have RG17 := Lib.hid (rwi_below RG16.out hb17 hv16)
    have hv17 := Nat.le_trans hv16 hb17.size
    have PG17 := Lib.hid (pbx_below PG16.out hb17)
    clear RG16 hv16 PG16 B16
    clear hb17 PS16 RS16 hu16 RH16 hh16 RH15 BW16
    have a0 := PG17.out.c0
    have a1 := PG17.out.c1
    have az := PG17.out.z
    go_wp2_with fail
    clear a0 a1 az
    refine (KH.out w17 _ _ _ _ hv17 RG17.out).mono ?_; rintro e w18 ⟨rfl, hb18⟩
    have B18 := B17.trans (hb18.mono B17.size)
    go_wp2_with fail
    go_ret
    exact ⟨rfl, B18⟩
  · rw [if_neg hbig] at KZ
    clear hR hc1 hm1 hbig
    go_enter Try.func8, Try.ntmps8
    go_wp2_with fail
    refine (KZ.out _).mono ?_; rintro e w0 ⟨rfl, hb0⟩
    go_wp2_with fail
    go_ret
    exact ⟨rfl, HB.out.trans (hb0.mono HB.out.size)⟩
set_option maxRecDepth 100000 in
theorem harderPuzzle_lifted (os : Os) (started : os.Started) (H : Type) (enc : TypeId × Value → H) :
    ReturnsInHanded {} Try.checked os 8 .any (Rows.fnExactHarderPuzzleSpec.pre6 enc Try.prog Try.f8 Rows.fnExactHarderPuzzleRow.domain false) (Rows.fnExactHarderPuzzleSpec.post enc Try.prog Try.f8 false true false false) := by
  refine returnsInHanded_of_change (C := Try.checked) own started (by kernel_rfl) Try.func8
    (ChangeSpec.witness6 (enc := enc) (C := Try.checked) false ⟨#[], #[.agg #[.int .i64 0, .slice none 0 0]], []⟩ 8 (by kernel_rfl) (by kernel_rfl) (by kernel_rfl) (by kernel_rfl)) ?_
  intro W base args ds gs before hval0 hW hcnd _
  have hval : ∀ (j : Nat) t v, Try.f8.params[j]? = some t → args[j]? = some v → Value.okWide Try.prog W .any base t v := hval0
  have hW' := hW
  obtain ⟨p, q, hA0, hV, rfl, hfz, hnd⟩ := hW
  have hA : DataW.TrodAll enc Try.prog W 0 (fun _ => true) true Try.f8.params.toList args.toList ds p := hA0
  rw [Try.params8] at hA hval
  obtain ⟨v0, vs0, d0, ds0, p0, q0, hargs, rfl, rfl, h0, r0⟩ := trodAll_cons hA
  obtain ⟨rfl, rfl, rfl⟩ := trodAll_nil r0
  obtain rfl : args = #[v0] := by cases args; simp_all
  obtain ⟨s0, A0, c0, n0, f0, rfl, hlc0, hcm0, hR0⟩ := open_puzzle (hval 0 24 v0 rfl rfl) h0
  unfold maxLen at hcm0
  refine (harderPuzzle_walk s0 A0 c0 n0 f0 W hlc0 hcm0 hR0).mono fun e W' ⟨he, hb⟩ => ?_
  subst he
  exact ⟨_, rfl, law_done hW' rfl (by kernel_rfl) (fun t ht => by rw [Try.params8] at ht; simp at ht; first | (subst ht; exact fineP)) rfl hb⟩
theorem harderPuzzle_over : Rows.fnExactHarderPuzzleRow.holds Try.pinned (OpenSpec.ofChange Rows.fnExactHarderPuzzleSpec) :=
  OpenClaim.holds_of_wide 8 Try.f8 rfl rfl rfl rfl rfl rfl rfl ⟨rfl, rfl, rfl, rfl, rfl⟩ rfl rfl rfl rfl rfl (by kernel_rfl) Try.func8 (by kernel_rfl)
    (of_decide_eq_true (by kernel_rfl)) (by unfold Func.isWrapper; rw [if_neg (of_decide_eq_false (by kernel_rfl))]; exact ⟨rfl, rfl⟩)
    (fun os started H enc _ => harderPuzzle_lifted os started H enc)
theorem harderPuzzle_proved : Rows.FnExactHarderPuzzleSaid := harderPuzzle_over
end Go.Proofs.Ytacabmbajadbgaa
