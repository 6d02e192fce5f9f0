/- The law FnExactFirstSolution returns true at every number and every list of clues, whatever its length and numbers, and changes nothing: the program tells the first solution of a puzzle as its model does. -/
import Derived.Test.YtakccbbdfcnjeaaPz4
import Derived.Test.YtakccbbdfcnjeaaPzF
import Derived.Test.YtakccbbdfcnjeaaO
import Derived.Deep.CutRange
import Derived.Deep.RegionWith
import Derived.Deep.DeepMust
namespace Go.Proofs.Ytakccbbdfcnjeaa
open Go.ChangeShapes Go.WideShapes Go.ChangeAt Go.RowKit Go.Joins
set_option linter.unusedVariables false
set_option linter.unusedSimpArgs false
set_option maxRecDepth 4000
open Go.Deep
theorem fineP : Try.prog.readableRec 45 = true ∧ 45 < Try.prog.types.size := ⟨by kernel_rfl, of_decide_eq_true (by kernel_rfl)⟩
set_option maxHeartbeats 4000000 in
theorem firstSolution_walk (s : Int) (A : Option Addr) (c n : Nat) (f : Nat → Int) (w : World) (hc1 : n ≤ c) (hm1 : c ≤ 9223372036854775807) (hR : RdI w w.heap.size A (n * 4) f) :
    Calls Try.prog 13 #[.agg #[.int .i64 s, .slice A n c]] w fun e w' => e = .returned (.bool true) ∧ Below w.heap.size w w' := by
  have KZ := Lib.hid (fun W => szPuzzle_any s A n c W (by omega))
  have HB := Lib.hid (Below.alloc (Below.refl w.heap.size w) (Nat.le_refl _) (.cells #[.int .i64 s, .slice A n c] 45))
  by_cases hbig : (n : Int) ≤ 1048576
  · rw [if_pos hbig] at KZ
    have hz : ¬ (1048576 : Int) - n < 0 := by omega
    have hn : n ≤ 1048576 := by omega
    have KT := Lib.hid (fun W (hb : Below w.heap.size w W) => toPuzzle_any s A c n f W hn (rdi_below hR hb (Nat.le_refl _)))
    have KS := Lib.hid (fun W g (h : Nib W g (n * 4) f) => specFirstSolution_any s (some ⟨g, 0, none⟩) n n f W hn (nib_rd h))
    have KI := Lib.hid (fun W g (h : Nib W g (n * 4) f) => implFirstSolution_any s (some ⟨g, 0, none⟩) n n f W hn (nib_rd h))
    have KE := Lib.hid (fun W g g' (h : Nib W g (n * 4) f) (h' : Nib W g' (n * 4) f) => eqPuzzle_same s (some ⟨g, 0, none⟩) (some ⟨g', 0, none⟩) n n n f W hn (nib_rd h) (nib_rd h'))
    clear hR hc1 hm1 hbig hn
    have KP := Lib.hid (fun x y W => (eqPeg_any x y x y W).mono fun e w' hh => (show e = .returned (.bool true) ∧ Below W.heap.size W w' from ⟨hh.1.trans (ret_bool (by simp)), hh.2⟩))
    generalize decide (0 < (solP s n f).length) = gb1 at *
    obtain ⟨q1, q2, hq⟩ : ∃ q1 q2, pt (solP s n f) 0 = (q1, q2) := ⟨_, _, rfl⟩
    rw [hq] at KS KI
    clear hq
    go_enter Try.func13, Try.ntmps13
    go_wp2_with fail
    refine (KZ.out _).mono ?_; rintro e w0 ⟨rfl, hb0⟩
    have B0 := HB.out.trans (hb0.mono HB.out.size)
    have P0 := pbx_below (pbx_new w s A n c 45) hb0
    have y0 := P0.c0
    have y1 := P0.c1
    have z0 := P0.z
    clear hb0 KZ HB P0
    go_wp2_with fail
    refine (KT.out _ B0).mono ?_; rintro e w1 ⟨g1, rfl, hb1, _, s1⟩
    have B1 := B0.trans (hb1.mono B0.size)
    have y0' := ((bcell hb1).1 _ 0 z0).trans y0
    have y1' := ((bcell hb1).1 _ 1 z0).trans y1
    have z1 := Nat.lt_of_lt_of_le z0 hb1.size
    clear hb1 y0 y1 z0 B0
    go_wp2_with fail
    refine (KS.out _ _ s1).mono ?_; rintro e w2 ⟨rfl, hb2⟩
    have B2 := B1.trans (hb2.mono B1.size)
    have y0 := ((bcell hb2).1 _ 0 z1).trans y0'
    have y1 := ((bcell hb2).1 _ 1 z1).trans y1'
    have z2 := Nat.lt_of_lt_of_le z1 hb2.size
    clear hb2 y0' y1' z1 B1 s1
    go_wp2_with fail
    obtain ⟨V2, hV2⟩ : ∃ V2, V2 = (w2.alloc (.cells #[.int .i64 q1, .int .i64 q2] 25)) := ⟨_, rfl⟩
    rw [← hV2]
    have yV20_0 : V2.cell? ⟨w2.heap.size, 0, none⟩ = some (.int .i64 q1) := by rw [hV2]; go_simp
    have yV20_1 : V2.cell? ⟨w2.heap.size, 1, none⟩ = some (.int .i64 q2) := by rw [hV2]; go_simp
    have fV20 : ∀ o, V2.frozen? ⟨w2.heap.size, o, none⟩ = false := by intro o; rw [hV2]; (repeat rw [frozen?_alloc_cells]); simp [World.frozen?]
    have zV20 : w2.heap.size < V2.heap.size := by rw [hV2]; simp <;> omega
    have BV2 : Below w2.heap.size w2 V2 := by rw [hV2]; exact (Below.alloc (Below.refl _ _) (by simp <;> omega) _)
    have eV2 : Hid (V2.heap.size = w2.heap.size + 1) := Lib.hid (by rw [hV2]; simp)
    clear hV2
    have B2' := B2.trans (BV2.mono B2.size)
    have y0' := ((bcell BV2).1 _ 0 z2).trans y0
    have y1' := ((bcell BV2).1 _ 1 z2).trans y1
    have z2' := Nat.lt_of_lt_of_le z2 BV2.size
    have v0 := yV20_0
    have v1 := yV20_1
    have vz := zV20
    clear BV2 y0 y1 z2 B2 yV20_0 yV20_1 zV20 fV20
    obtain ⟨gw, hgw⟩ : ∃ g, g = w2.heap.size := ⟨_, rfl⟩
    rw [← hgw] at v0 v1 vz ⊢
    clear hgw
    refine (KT.out _ B2').mono ?_; rintro e w3 ⟨g3, rfl, hb3, _, s3⟩
    have B3 := B2'.trans (hb3.mono B2'.size)
    have y0 := ((bcell hb3).1 _ 0 z2').trans y0'
    have y1 := ((bcell hb3).1 _ 1 z2').trans y1'
    have z3 := Nat.lt_of_lt_of_le z2' hb3.size
    have v0' := ((bcell hb3).1 _ 0 vz).trans v0
    have v1' := ((bcell hb3).1 _ 1 vz).trans v1
    have vz' := Nat.lt_of_lt_of_le vz hb3.size
    clear hb3 y0' y1' z2' B2' v0 v1 vz
    go_wp2_with fail
    obtain ⟨W4, hW4⟩ : ∃ W4, W4 = w3.alloc (.cells #[.int .i64 s, .slice (some ⟨g3, 0, none⟩) n n] 50) := ⟨_, rfl⟩
    rw [← hW4]
    have BW : Below w3.heap.size w3 W4 := by rw [hW4]; exact Below.alloc (Below.refl _ _) (Nat.le_refl _) _
    have PX : Pbx W4 w3.heap.size s (some ⟨g3, 0, none⟩) n n := by rw [hW4]; exact pbx_new _ _ _ _ _ _
    have x0 := PX.c0
    have x1 := PX.c1
    have zx := PX.z
    clear hW4 PX
    have B4 := B3.trans (BW.mono B3.size)
    have s5 := nib_below s3 BW
    have y0' := ((bcell BW).1 _ 0 z3).trans y0
    have y1' := ((bcell BW).1 _ 1 z3).trans y1
    have z4 := Nat.lt_of_lt_of_le z3 BW.size
    have v0 := ((bcell BW).1 _ 0 vz').trans v0'
    have v1 := ((bcell BW).1 _ 1 vz').trans v1'
    have vz := Nat.lt_of_lt_of_le vz' BW.size
    obtain ⟨gx, hgx⟩ : ∃ g, g = w3.heap.size := ⟨_, rfl⟩
    rw [← hgx] at x0 x1 zx ⊢
    clear hgx BW y0 y1 z3 B3 s3 v0' v1' vz'
    refine (KI.out _ _ s5).mono ?_; rintro e w4 ⟨rfl, hb5⟩
    have B5' := B4.trans (hb5.mono B4.size)
    have y0 := ((bcell hb5).1 _ 0 z4).trans y0'
    have y1 := ((bcell hb5).1 _ 1 z4).trans y1'
    have z5 := Nat.lt_of_lt_of_le z4 hb5.size
    have v0' := ((bcell hb5).1 _ 0 vz).trans v0
    have v1' := ((bcell hb5).1 _ 1 vz).trans v1
    have vz' := Nat.lt_of_lt_of_le vz hb5.size
    have x0' := ((bcell hb5).1 _ 0 zx).trans x0
    have x1' := ((bcell hb5).1 _ 1 zx).trans x1
    have zx' := Nat.lt_of_lt_of_le zx hb5.size
    have s6 := nib_below s5 hb5
    clear hb5 y0' y1' z4 x0 x1 zx v0 v1 vz s5 B4
    go_wp2_with fail
    obtain ⟨V4, hV4⟩ : ∃ V4, V4 = (w4.alloc (.cells #[.int .i64 q1, .int .i64 q2] 25)) := ⟨_, rfl⟩
    rw [← hV4]
    have yV40_0 : V4.cell? ⟨w4.heap.size, 0, none⟩ = some (.int .i64 q1) := by rw [hV4]; go_simp
    have yV40_1 : V4.cell? ⟨w4.heap.size, 1, none⟩ = some (.int .i64 q2) := by rw [hV4]; go_simp
    have fV40 : ∀ o, V4.frozen? ⟨w4.heap.size, o, none⟩ = false := by intro o; rw [hV4]; (repeat rw [frozen?_alloc_cells]); simp [World.frozen?]
    have zV40 : w4.heap.size < V4.heap.size := by rw [hV4]; simp <;> omega
    have BV4 : Below w4.heap.size w4 V4 := by rw [hV4]; exact (Below.alloc (Below.refl _ _) (by simp <;> omega) _)
    have eV4 : Hid (V4.heap.size = w4.heap.size + 1) := Lib.hid (by rw [hV4]; simp)
    clear hV4
    have B5 := B5'.trans (BV4.mono B5'.size)
    have v0 := ((bcell BV4).1 _ 0 vz').trans v0'
    have v1 := ((bcell BV4).1 _ 1 vz').trans v1'
    have x0 := ((bcell BV4).1 _ 0 zx').trans x0'
    have x1 := ((bcell BV4).1 _ 1 zx').trans x1'
    have zx := Nat.lt_of_lt_of_le zx' BV4.size
    have y0' := ((bcell BV4).1 _ 0 z5).trans y0
    have y1' := ((bcell BV4).1 _ 1 z5).trans y1
    have z6 := Nat.lt_of_lt_of_le z5 BV4.size
    have s7' := nib_below s6 BV4
    clear x0' x1' zx' y0 y1 z5 v0' v1' vz' B5' s6 BV4
    refine (KP.out q1 q2 V4).mono ?_; rintro e w5 ⟨rfl, hb5⟩
    have B6 := B5.trans (hb5.mono B5.size)
    have y0 := ((bcell hb5).1 _ 0 z6).trans y0'
    have y1 := ((bcell hb5).1 _ 1 z6).trans y1'
    have x0' := ((bcell hb5).1 _ 0 zx).trans x0
    have x1' := ((bcell hb5).1 _ 1 zx).trans x1
    have zx' := Nat.lt_of_lt_of_le zx hb5.size
    have s7 := Lib.hid (nib_below s7' hb5)
    have E8 : Hid (∀ W ga, Below w5.heap.size w5 W → Nib W ga (n * 4) f → Calls Try.prog 32 #[.agg #[.int .i64 s, .slice (some ⟨g3, 0, none⟩) n n], .agg #[.int .i64 s, .slice (some ⟨ga, 0, none⟩) n n]] W fun e w' => e = .returned (.bool true) ∧ Below W.heap.size W w') :=
      Lib.hid (fun W ga hb h3 => KE.out W g3 ga (nib_below s7.out hb) h3)
    have BZ := B6
    clear hb5 y0' y1' z6 x0 x1 zx v0 v1 s7' B5 B6 KE KS KI KP s7
    go_upto_region 10 with fail
    go_region_with (first
      | (go_at_call 30; go_loud (refine (KT.out _ (by first | exact BZ | exact BZ.drew)).mono ?_); rintro e wA ⟨ga, rfl, hbA, hgA, sA1⟩;
         have kA : Below w5.heap.size w5 wA := (by first | exact hbA | exact (Below.refl _ _).drew.trans hbA);
         have xA0 := ((bcell kA).1 _ 0 zx').trans x0';
         have xA1 := ((bcell kA).1 _ 1 zx').trans x1';
         have zA := Nat.lt_of_lt_of_le zx' kA.size;
         have BA := BZ.trans (kA.mono BZ.size);
         clear hbA hgA)
      | (go_at_call 32; go_loud (refine (E8.out _ _ kA sA1).mono ?_); rintro e wB ⟨rfl, hbB⟩;
         have BB := BA.trans (hbB.mono BA.size); clear hbB))
    all_goals
      go_wp2_with fail
      go_ret
      exact ⟨rfl, by first | exact BB | exact BB.drew⟩
  · rw [if_neg hbig] at KZ
    clear hR hc1 hm1 hbig
    go_enter Try.func13, Try.ntmps13
    go_wp2_with fail
    refine (KZ.out _).mono ?_; rintro e w0 ⟨rfl, hb0⟩
    go_wp2_with fail
    go_ret
    exact ⟨rfl, HB.out.trans (hb0.mono HB.out.size)⟩
set_option maxRecDepth 100000 in
theorem firstSolution_lifted (os : Os) (started : os.Started) (H : Type) (enc : TypeId × Value → H) :
    ReturnsInHanded {} Try.checked os 13 .any (Rows.fnExactFirstSolutionSpec.pre6 enc Try.prog Try.f13 Rows.fnExactFirstSolutionRow.domain false) (Rows.fnExactFirstSolutionSpec.post enc Try.prog Try.f13 false true false false) := by
  refine returnsInHanded_of_change (C := Try.checked) own started (by kernel_rfl) Try.func13
    (ChangeSpec.witness6 (enc := enc) (C := Try.checked) false ⟨#[], #[.agg #[.int .i64 0, .slice none 0 0]], []⟩ 8 (by kernel_rfl) (by kernel_rfl) (by kernel_rfl) (by kernel_rfl)) ?_
  intro W base args ds gs before hval0 hW hcnd _
  have hval : ∀ (j : Nat) t v, Try.f13.params[j]? = some t → args[j]? = some v → Value.okWide Try.prog W .any base t v := hval0
  have hW' := hW
  obtain ⟨p, q, hA0, hV, rfl, hfz, hnd⟩ := hW
  have hA : DataW.TrodAll enc Try.prog W 0 (fun _ => true) true Try.f13.params.toList args.toList ds p := hA0
  rw [Try.params13] at hA hval
  obtain ⟨v0, vs0, d0, ds0, p0, q0, hargs, rfl, rfl, h0, r0⟩ := trodAll_cons hA
  obtain ⟨rfl, rfl, rfl⟩ := trodAll_nil r0
  obtain rfl : args = #[v0] := by cases args; simp_all
  obtain ⟨s0, A0, c0, n0, f0, rfl, hlc0, hcm0, hR0⟩ := open_puzzle (hval 0 45 v0 rfl rfl) h0
  unfold maxLen at hcm0
  refine (firstSolution_walk s0 A0 c0 n0 f0 W hlc0 hcm0 hR0).mono fun e W' ⟨he, hb⟩ => ?_
  subst he
  exact ⟨_, rfl, law_done hW' rfl (by kernel_rfl) (fun t ht => by rw [Try.params13] at ht; simp at ht; first | (subst ht; exact fineP)) rfl hb⟩
theorem firstSolution_over : Rows.fnExactFirstSolutionRow.holds Try.pinned (OpenSpec.ofChange Rows.fnExactFirstSolutionSpec) :=
  OpenClaim.holds_of_wide 13 Try.f13 rfl rfl rfl rfl rfl rfl rfl ⟨rfl, rfl, rfl, rfl, rfl⟩ rfl rfl rfl rfl rfl (by kernel_rfl) Try.func13 (by kernel_rfl)
    (of_decide_eq_true (by kernel_rfl)) (by unfold Func.isWrapper; rw [if_neg (of_decide_eq_false (by kernel_rfl))]; exact ⟨rfl, rfl⟩)
    (fun os started H enc _ => firstSolution_lifted os started H enc)
theorem firstSolution_proved : Rows.FnExactFirstSolutionSaid := firstSolution_over
end Go.Proofs.Ytakccbbdfcnjeaa
