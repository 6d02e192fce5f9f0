/- The law FnExactBestClue returns true at every number and every list of clues, whatever its length and numbers, and changes nothing: the program tells the clue of a puzzle that the fewest pegs fit as its model does. -/
import Derived.Test.YtacabmbajadbgaaPz4
import Derived.Test.YtacabmbajadbgaaPw2
import Derived.Deep.CutRange
import Derived.Deep.RegionWith
import Derived.Deep.DeepMust
namespace Go.Proofs.Ytacabmbajadbgaa
open Go.ChangeShapes Go.WideShapes Go.ChangeAt Go.RowKit Go.Joins
set_option linter.unusedVariables false
set_option linter.unusedSimpArgs false
set_option maxRecDepth 4000
open Go.Deep
theorem fineP : Try.prog.readableRec 24 = true ∧ 24 < Try.prog.types.size := ⟨by kernel_rfl, of_decide_eq_true (by kernel_rfl)⟩
set_option maxHeartbeats 4000000 in
theorem bestClue_walk (s : Int) (A : Option Addr) (c n : Nat) (f : Nat → Int) (w : World) (hc1 : n ≤ c) (hm1 : c ≤ 9223372036854775807) (hR : RdI w w.heap.size A (n * 4) f) :
    Calls Try.prog 6 #[.agg #[.int .i64 s, .slice A n c]] w fun e w' => e = .returned (.bool true) ∧ Below w.heap.size w w' := by
  have KZ := Lib.hid (fun W => szPuzzle_any s A n c W (by omega))
  have HB := Lib.hid (Below.alloc (Below.refl w.heap.size w) (Nat.le_refl _) (.cells #[.int .i64 s, .slice A n c] 24))
  by_cases hbig : (n : Int) ≤ 1048576
  · rw [if_pos hbig] at KZ
    have hz : ¬ (1048576 : Int) - n < 0 := by omega
    have hn : n ≤ 1048576 := by omega
    have KT := Lib.hid (fun W (hb : Below w.heap.size w W) => toPuzzle_any s A c n f W hn (rdi_below hR hb (Nat.le_refl _)))
    have KS := Lib.hid (fun W g (h : Nib W g (n * 4) f) => specBestClue_any s g 0 n n f W hn (Nat.le_refl _) (by omega) (nib_rd h))
    have KI := Lib.hid (fun W g (h : Nib W g (n * 4) f) => implBestClue_any s g 0 n n f W hn (Nat.le_refl _) (by omega) (nib_rd h))
    have KE := Lib.hid (fun W g g' (h : Nib W g (n * 4) f) (h' : Nib W g' (n * 4) f) => eqPuzzle_same s (some ⟨g, 0, none⟩) (some ⟨g', 0, none⟩) n n n f W hn (nib_rd h) (nib_rd h'))
    clear hR hc1 hm1 hbig hn
    generalize bstV s n f = gb0 at *
    generalize bstB s n f = gb1 at *
    go_enter Try.func6, Try.ntmps6
    go_wp2_with fail
    refine (KZ.out _).mono ?_; rintro e w0 ⟨rfl, hb0⟩
    have B0 := HB.out.trans (hb0.mono HB.out.size)
    have P0 := pbx_below (pbx_new w s A n c 24) hb0
    have y0 := P0.c0
    have y1 := P0.c1
    have z0 := P0.z
    clear hb0 KZ HB P0
    go_wp2_with fail
    refine (KT.out _ B0).mono ?_; rintro e w1 ⟨g1, rfl, hb1, _, s1⟩
    have B1 := B0.trans (hb1.mono B0.size)
    have y0' := ((bcell hb1).1 _ 0 z0).trans y0
    have y1' := ((bcell hb1).1 _ 1 z0).trans y1
    have z1 := Nat.lt_of_lt_of_le z0 hb1.size
    clear hb1 y0 y1 z0 B0
    go_wp2_with fail
    refine (KS.out _ _ s1).mono ?_; rintro e w2 ⟨rfl, hb2⟩
    have B2 := B1.trans (hb2.mono B1.size)
    have y0 := ((bcell hb2).1 _ 0 z1).trans y0'
    have y1 := ((bcell hb2).1 _ 1 z1).trans y1'
    have z2 := Nat.lt_of_lt_of_le z1 hb2.size
    clear hb2 y0' y1' z1 B1 s1
    go_wp2_with fail
    refine (KT.out _ B2).mono ?_; rintro e w3 ⟨g3, rfl, hb3, _, s3⟩
    have B3 := B2.trans (hb3.mono B2.size)
    have y0' := ((bcell hb3).1 _ 0 z2).trans y0
    have y1' := ((bcell hb3).1 _ 1 z2).trans y1
    have z3 := Nat.lt_of_lt_of_le z2 hb3.size
    clear hb3 y0 y1 z2 B2
    go_wp2_with fail
    obtain ⟨W4, hW4⟩ : ∃ W4, W4 = w3.alloc (.cells #[.int .i64 s, .slice (some ⟨g3, 0, none⟩) n n] 28) := ⟨_, rfl⟩
    rw [← hW4]
    have BW : Below w3.heap.size w3 W4 := by rw [hW4]; exact Below.alloc (Below.refl _ _) (Nat.le_refl _) _
    have PX : Pbx W4 w3.heap.size s (some ⟨g3, 0, none⟩) n n := by rw [hW4]; exact pbx_new _ _ _ _ _ _
    have x0 := PX.c0
    have x1 := PX.c1
    have zx := PX.z
    clear hW4 PX
    have B4 := B3.trans (BW.mono B3.size)
    have s5 := nib_below s3 BW
    have y0 := ((bcell BW).1 _ 0 z3).trans y0'
    have y1 := ((bcell BW).1 _ 1 z3).trans y1'
    have z4 := Nat.lt_of_lt_of_le z3 BW.size
    obtain ⟨gx, hgx⟩ : ∃ g, g = w3.heap.size := ⟨_, rfl⟩
    rw [← hgx] at x0 x1 zx ⊢
    clear hgx BW y0' y1' z3 B3 s3
    refine (KI.out _ _ s5).mono ?_; rintro e w5 ⟨rfl, hb5⟩
    have B5 := B4.trans (hb5.mono B4.size)
    have y0' := ((bcell hb5).1 _ 0 z4).trans y0
    have y1' := ((bcell hb5).1 _ 1 z4).trans y1
    have z5 := Nat.lt_of_lt_of_le z4 hb5.size
    have x0' := ((bcell hb5).1 _ 0 zx).trans x0
    have x1' := ((bcell hb5).1 _ 1 zx).trans x1
    have zx' := Nat.lt_of_lt_of_le zx hb5.size
    have s7 := Lib.hid (nib_below s5 hb5)
    have E8 : Hid (∀ W ga, Below w5.heap.size w5 W → Nib W ga (n * 4) f → Calls Try.prog 19 #[.agg #[.int .i64 s, .slice (some ⟨g3, 0, none⟩) n n], .agg #[.int .i64 s, .slice (some ⟨ga, 0, none⟩) n n]] W fun e w' => e = .returned (.bool true) ∧ Below W.heap.size W w') :=
      Lib.hid (fun W ga hb h3 => KE.out W g3 ga (nib_below s7.out hb) h3)
    clear hb5 y0 y1 z4 x0 x1 zx s5 B4 KE KS KI s7
    go_upto_region 10 with fail
    go_region_with (first
      | (go_at_call 17; go_loud (refine (KT.out _ (by first | exact B5 | exact B5.drew)).mono ?_); rintro e wA ⟨ga, rfl, hbA, hgA, sA1⟩;
         have kA : Below w5.heap.size w5 wA := (by first | exact hbA | exact (Below.refl _ _).drew.trans hbA);
         have xA0 := ((bcell kA).1 _ 0 zx').trans x0';
         have xA1 := ((bcell kA).1 _ 1 zx').trans x1';
         have zA := Nat.lt_of_lt_of_le zx' kA.size;
         have BA := B5.trans (kA.mono B5.size);
         clear hbA hgA)
      | (go_at_call 19; go_loud (refine (E8.out _ _ kA sA1).mono ?_); rintro e wB ⟨rfl, hbB⟩;
         have BB := BA.trans (hbB.mono BA.size); clear hbB))
    all_goals
      go_wp2_with fail
      go_ret
      exact ⟨rfl, by first | exact BB | exact BB.drew⟩
  · rw [if_neg hbig] at KZ
    clear hR hc1 hm1 hbig
    go_enter Try.func6, Try.ntmps6
    go_wp2_with fail
    refine (KZ.out _).mono ?_; rintro e w0 ⟨rfl, hb0⟩
    go_wp2_with fail
    go_ret
    exact ⟨rfl, HB.out.trans (hb0.mono HB.out.size)⟩
set_option maxRecDepth 100000 in
theorem bestClue_lifted (os : Os) (started : os.Started) (H : Type) (enc : TypeId × Value → H) :
    ReturnsInHanded {} Try.checked os 6 .any (Rows.fnExactBestClueSpec.pre6 enc Try.prog Try.f6 Rows.fnExactBestClueRow.domain false) (Rows.fnExactBestClueSpec.post enc Try.prog Try.f6 false true false false) := by
  refine returnsInHanded_of_change (C := Try.checked) own started (by kernel_rfl) Try.func6
    (ChangeSpec.witness6 (enc := enc) (C := Try.checked) false ⟨#[], #[.agg #[.int .i64 0, .slice none 0 0]], []⟩ 8 (by kernel_rfl) (by kernel_rfl) (by kernel_rfl) (by kernel_rfl)) ?_
  intro W base args ds gs before hval0 hW hcnd _
  have hval : ∀ (j : Nat) t v, Try.f6.params[j]? = some t → args[j]? = some v → Value.okWide Try.prog W .any base t v := hval0
  have hW' := hW
  obtain ⟨p, q, hA0, hV, rfl, hfz, hnd⟩ := hW
  have hA : DataW.TrodAll enc Try.prog W 0 (fun _ => true) true Try.f6.params.toList args.toList ds p := hA0
  rw [Try.params6] at hA hval
  obtain ⟨v0, vs0, d0, ds0, p0, q0, hargs, rfl, rfl, h0, r0⟩ := trodAll_cons hA
  obtain ⟨rfl, rfl, rfl⟩ := trodAll_nil r0
  obtain rfl : args = #[v0] := by cases args; simp_all
  obtain ⟨s0, A0, c0, n0, f0, rfl, hlc0, hcm0, hR0⟩ := open_puzzle (hval 0 24 v0 rfl rfl) h0
  unfold maxLen at hcm0
  refine (bestClue_walk s0 A0 c0 n0 f0 W hlc0 hcm0 hR0).mono fun e W' ⟨he, hb⟩ => ?_
  subst he
  exact ⟨_, rfl, law_done hW' rfl (by kernel_rfl) (fun t ht => by rw [Try.params6] at ht; simp at ht; first | (subst ht; exact fineP)) rfl hb⟩
theorem bestClue_over : Rows.fnExactBestClueRow.holds Try.pinned (OpenSpec.ofChange Rows.fnExactBestClueSpec) :=
  OpenClaim.holds_of_wide 6 Try.f6 rfl rfl rfl rfl rfl rfl rfl ⟨rfl, rfl, rfl, rfl, rfl⟩ rfl rfl rfl rfl rfl (by kernel_rfl) Try.func6 (by kernel_rfl)
    (of_decide_eq_true (by kernel_rfl)) (by unfold Func.isWrapper; rw [if_neg (of_decide_eq_false (by kernel_rfl))]; exact ⟨rfl, rfl⟩)
    (fun os started H enc _ => bestClue_lifted os started H enc)
theorem bestClue_proved : Rows.FnExactBestClueSaid := bestClue_over
end Go.Proofs.Ytacabmbajadbgaa
