/- The law FnExactLayerOfPeg returns true at every list of points, whatever its length and numbers, and any point, and changes nothing: the program tells the number of the layer of a peg of 1 to 30 different pegs as its model does, and fails where it does. -/
import Derived.Test.YthpbnfmfedggjaaMB
import Derived.Test.YthpbnfmfedggjaaMD
import Derived.Test.YthpbnfmfedggjaaKZ
import Derived.Deep.CutRange
import Derived.Deep.RegionWith
import Derived.Deep.DeepMust
namespace Go.Proofs.Ythpbnfmfedggjaa
open Go.ChangeShapes Go.WideShapes Go.ChangeAt Go.RowKit Go.Joins
set_option linter.unusedVariables false
set_option linter.unusedSimpArgs false
set_option maxRecDepth 4000
theorem fineL : Try.prog.readableRec 22 = true ∧ 22 < Try.prog.types.size := ⟨by kernel_rfl, of_decide_eq_true (by kernel_rfl)⟩
set_option maxHeartbeats 4000000 in
theorem layerOfPeg_walk (A : Option Addr) (c : Nat) (l : List (Int × Int)) (p1 p2 : Int) (w : World) (hcap : l.length ≤ c) (hc2 : c ≤ 9223372036854775807) (hR : Rd w w.heap.size A l) :
    Calls Try.prog 13 #[.slice A l.length c, .agg #[.int .i64 p1, .int .i64 p2]] w fun e w' => e = .returned (.bool true) ∧ Below w.heap.size w w' := by
  have K0 := Lib.hid (fun W => szPegS_any A l.length c 1048576 W (by omega) (by omega) (by omega))
  by_cases hbig : 1048576 < l.length
  · rw [if_pos (by omega)] at K0
    clear hR
    go_enter Try.func13, Try.ntmps13
    go_wp2_with fail
    obtain ⟨Wa, hWa⟩ : ∃ Wa, Wa = (w.alloc (.cells #[.int .i64 p1, .int .i64 p2] 35)) := ⟨_, rfl⟩
    rw [← hWa]
    have yWa0_0 : Wa.cell? ⟨w.heap.size, 0, none⟩ = some (.int .i64 p1) := by rw [hWa]; go_simp
    have yWa0_1 : Wa.cell? ⟨w.heap.size, 1, none⟩ = some (.int .i64 p2) := by rw [hWa]; go_simp
    have fWa0 : ∀ o, Wa.frozen? ⟨w.heap.size, o, none⟩ = false := by intro o; rw [hWa]; (repeat rw [frozen?_alloc_cells]); simp [World.frozen?]
    have zWa0 : w.heap.size < Wa.heap.size := by rw [hWa]; simp <;> omega
    have BWa : Below w.heap.size w Wa := by rw [hWa]; exact (Below.alloc (Below.refl _ _) (by simp <;> omega) _)
    have eWa : Hid (Wa.heap.size = w.heap.size + 1) := Lib.hid (by rw [hWa]; simp)
    clear hWa
    refine (K0.out _).mono ?_; rintro e _ ⟨rfl, rfl⟩
    go_wp2_with fail
    go_ret
    exact ⟨rfl, BWa⟩
  · rw [if_neg (by omega)] at K0
    have hle : l.length ≤ 1048576 := by omega
    have hz : (0 : Int) ≤ 1048576 - (l.length : Int) := by omega
    have KT := Lib.hid (fun W (hb : Below w.heap.size w W) => toPegS_any A c l W hle (rd_more (rd_below hR hb (Nat.le_refl _)) hb.size))
    have KS := Lib.hid (fun W g (h : Set W g l.length l.length l) => specLayerOfPeg_any (some ⟨g, 0, none⟩) l.length l p1 p2 W hle (Nat.le_refl _) (by omega) (rd_of_set h))
    have KI := Lib.hid (fun W g (h : Set W g l.length l.length l) => implLayerOfPeg_any (some ⟨g, 0, none⟩) l.length l p1 p2 W hle (Nat.le_refl _) (by omega) (rd_of_set h))
    have KE := Lib.hid (fun W g g' (h : Set W g l.length l.length l) (h' : Set W g' l.length l.length l) => (eqPegS_any (some ⟨g, 0, none⟩) (some ⟨g', 0, none⟩) l.length l.length l l W hle hle (rd_of_set h) (rd_of_set h')).mono fun e w' hh => (show e = .returned (.bool true) ∧ Below W.heap.size W w' from ⟨hh.1.trans (ret_bool (by simp)), hh.2⟩))
    have KP := Lib.hid (fun W => toPeg_any p1 p2 W)
    clear hR hbig hle
    generalize lvI l p1 p2 = gg0 at *
    generalize lvB l p1 p2 = gg1 at *
    go_enter Try.func13, Try.ntmps13
    go_wp2_with fail
    obtain ⟨Wa, hWa⟩ : ∃ Wa, Wa = (w.alloc (.cells #[.int .i64 p1, .int .i64 p2] 35)) := ⟨_, rfl⟩
    rw [← hWa]
    have yWa0_0 : Wa.cell? ⟨w.heap.size, 0, none⟩ = some (.int .i64 p1) := by rw [hWa]; go_simp
    have yWa0_1 : Wa.cell? ⟨w.heap.size, 1, none⟩ = some (.int .i64 p2) := by rw [hWa]; go_simp
    have fWa0 : ∀ o, Wa.frozen? ⟨w.heap.size, o, none⟩ = false := by intro o; rw [hWa]; (repeat rw [frozen?_alloc_cells]); simp [World.frozen?]
    have zWa0 : w.heap.size < Wa.heap.size := by rw [hWa]; simp <;> omega
    have BWa : Below w.heap.size w Wa := by rw [hWa]; exact (Below.alloc (Below.refl _ _) (by simp <;> omega) _)
    have eWa : Hid (Wa.heap.size = w.heap.size + 1) := Lib.hid (by rw [hWa]; simp)
    clear hWa
    clear fWa0 eWa
    refine (K0.out _).mono ?_; rintro e _ ⟨rfl, rfl⟩
    go_upto_region 5 with fail
    go_cut [6, 7] from 11 to 45 (fun p q wx => p = .int .i64 gg0 ∧ q = .bool gg1 ∧ Below w.heap.size w wx ∧ w.heap.size < wx.heap.size ∧ wx.cell? ⟨w.heap.size, 0, none⟩ = some (.int .i64 p1) ∧ wx.cell? ⟨w.heap.size, 1, none⟩ = some (.int .i64 p2))
    case first =>
      go_region_with (first
        | (go_at_call 17; go_loud (refine (KT.out _ (by first | exact BWa | exact BWa.drew)).mono ?_); rintro e wA ⟨rfl, hbA, hsA⟩;
           go_loud (have hsA' : Set wA Wa.heap.size l.length l.length l := hsA);
           go_loud (have yA0 : wA.cell? ⟨w.heap.size, 0, none⟩ = some (.int .i64 p1) := ((bcell hbA).1 _ _ (show _ < Wa.heap.size from zWa0)).trans yWa0_0);
           have yA1 : wA.cell? ⟨w.heap.size, 1, none⟩ = some (.int .i64 p2) := ((bcell hbA).1 _ _ (show _ < Wa.heap.size from zWa0)).trans yWa0_1;
           have zA : w.heap.size < wA.heap.size := Nat.lt_of_lt_of_le zWa0 hbA.size;
           have BA : Below w.heap.size w wA := BWa.drew.trans (Below.mono hbA BWa.size);
           clear hsA hbA)
        | (go_at_call 29; go_must (with_reducible refine (KP.out _).mono ?_); rintro e wB ⟨rfl, hbB⟩;
           have hsB := set_below hsA' hbB;
           have yB0 := ((bcell hbB).1 _ _ zA).trans yA0;
           have yB1 := ((bcell hbB).1 _ _ zA).trans yA1;
           have zB : w.heap.size < wB.heap.size := Nat.lt_of_lt_of_le zA hbB.size;
           have BB := BA.trans (hbB.mono BA.size);
           clear hbB)
        | (go_at_call 44; go_must (with_reducible refine (KS.out _ _ hsB).mono ?_); rintro e wC ⟨rfl, hbC⟩;
           have yC0 := ((bcell hbC).1 _ _ zB).trans yB0;
           have yC1 := ((bcell hbC).1 _ _ zB).trans yB1;
           have zC : w.heap.size < wC.heap.size := Nat.lt_of_lt_of_le zB hbC.size;
           have BC := BB.trans (hbC.mono BB.size);
           clear hbC))
      all_goals
        go_wp2_with fail
        go_meet
        case rel => exact ⟨rfl, rfl, BC, zC, yC0, yC1⟩
    case rest =>
    obtain ⟨rfl, rfl, B2, z2, y0, y1⟩ := hcut
    clear BWa yWa0_0 yWa0_1 zWa0 KS K0
    go_wp2_with fail
    refine (KT.out wc B2).mono ?_; rintro e w3 ⟨rfl, hb3, hs3⟩
    have B3 : Below w.heap.size w w3 := B2.trans (hb3.mono B2.size)
    have x0 := ((bcell hb3).1 _ _ z2).trans y0
    have x1 := ((bcell hb3).1 _ _ z2).trans y1
    have z3 : w.heap.size < w3.heap.size := Nat.lt_of_lt_of_le z2 hb3.size
    generalize wc.heap.size = g at *
    clear hb3 B2 y0 y1 z2
    go_wp2_with fail
    refine (KP.out _).mono ?_; rintro e w4 ⟨rfl, hb4⟩
    have B4 : Below w.heap.size w w4 := B3.trans (hb4.mono B3.size)
    have hs4 := set_below hs3 hb4
    clear hb4 B3 hs3 x0 x1 z3
    go_wp2_with fail
    refine (KI.out w4 _ hs4).mono ?_; rintro e w5 ⟨rfl, hb5⟩
    have B5 : Below w.heap.size w w5 := B4.trans (hb5.mono B4.size)
    have hs5 := set_below hs4 hb5
    clear hb5 B4 hs4
    go_wp2_with fail
    refine (KT.out w5 B5).mono ?_; rintro e w6 ⟨rfl, hb6, hs6⟩
    have B6 : Below w.heap.size w w6 := B5.trans (hb6.mono B5.size)
    have hs7 := set_below hs5 hb6
    generalize w5.heap.size = g' at *
    clear hb6 B5 hs5
    go_wp2_with fail
    refine (KE.out w6 _ _ hs7 hs6).mono ?_; rintro e w7 ⟨rfl, hb7⟩
    have B7 : Below w.heap.size w w7 := B6.trans (hb7.mono B6.size)
    go_wp2_with fail
    go_ret
    exact ⟨rfl, B7⟩
set_option maxRecDepth 100000 in
theorem layerOfPeg_lifted (os : Os) (started : os.Started) (H : Type) (enc : TypeId × Value → H) :
    ReturnsInHanded {} Try.checked os 13 .any (Rows.fnExactLayerOfPegSpec.pre6 enc Try.prog Try.f13 Rows.fnExactLayerOfPegRow.domain false) (Rows.fnExactLayerOfPegSpec.post enc Try.prog Try.f13 false true false false) := by
  refine returnsInHanded_of_change (C := Try.checked) own started (by kernel_rfl) Try.func13
    (ChangeSpec.witness6 (enc := enc) (C := Try.checked) false ⟨#[], #[.slice none 0 0, .agg #[.int .i64 0, .int .i64 0]], []⟩ 8 (by kernel_rfl) (by kernel_rfl) (by kernel_rfl) (by kernel_rfl)) ?_
  intro W base args ds gs before hval0 hW hcnd _
  have hval : ∀ (j : Nat) t v, Try.f13.params[j]? = some t → args[j]? = some v → Value.okWide Try.prog W .any base t v := hval0
  have hW' := hW
  obtain ⟨p, q, hA0, hV, rfl, hfz, hnd⟩ := hW
  have hA : DataW.TrodAll enc Try.prog W 0 (fun _ => true) true Try.f13.params.toList args.toList ds p := hA0
  rw [Try.params13] at hA hval
  obtain ⟨v0, vs0, d0, ds0, p0, q0, hargs, rfl, rfl, h0, r0⟩ := trodAll_cons hA
  obtain ⟨v1, vs1, d1, ds1, p1, q1, rfl, rfl, rfl, h1, r1⟩ := trodAll_cons r0
  obtain ⟨rfl, rfl, rfl⟩ := trodAll_nil r1
  obtain rfl : args = #[v0, v1] := by cases args; simp_all
  obtain ⟨A0, c0, l0, rfl, hlc0, hcm0, hR0⟩ := open_pegs (hval 0 22 v0 rfl rfl) h0
  unfold maxLen at hcm0
  obtain ⟨c1a, c1b, y1a, y1b, m1, rfl, rfl, rfl, hy1a, hy1b⟩ := open_agg2 Try.underlying35 (by kernel_rfl) cells35 (hval 1 35 v1 rfl rfl) h1
  obtain ⟨x1, e1a, rfl, w1a⟩ := DataW.trod_int Try.underlying3 hy1a
  obtain ⟨y1, e1b, rfl, w1b⟩ := DataW.trod_int Try.underlying3 hy1b
  simp at e1a e1b
  subst e1a e1b
  refine (layerOfPeg_walk A0 c0 l0 x1 y1 W hlc0 hcm0 hR0).mono fun e W' ⟨he, hb⟩ => ?_
  subst he
  exact ⟨_, rfl, law_done hW' rfl (by kernel_rfl) (fun t ht => by rw [Try.params13] at ht; simp at ht; first | (rcases ht with rfl | rfl <;> first | exact fineL | exact fine35)) rfl hb⟩
theorem layerOfPeg_over : Rows.fnExactLayerOfPegRow.holds Try.pinned (OpenSpec.ofChange Rows.fnExactLayerOfPegSpec) :=
  OpenClaim.holds_of_wide 13 Try.f13 rfl rfl rfl rfl rfl rfl rfl ⟨rfl, rfl, rfl, rfl, rfl⟩ rfl rfl rfl rfl rfl (by kernel_rfl) Try.func13 (by kernel_rfl)
    (of_decide_eq_true (by kernel_rfl)) (by unfold Func.isWrapper; rw [if_neg (of_decide_eq_false (by kernel_rfl))]; exact ⟨rfl, rfl⟩)
    (fun os started H enc _ => layerOfPeg_lifted os started H enc)
theorem layerOfPeg_proved : Rows.FnExactLayerOfPegSaid := layerOfPeg_over
end Go.Proofs.Ythpbnfmfedggjaa
