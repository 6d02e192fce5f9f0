/- The law FnExactFlatMove returns true at every list of points, whatever its length and numbers, and changes nothing: the program tells the move that lays a polygon flat as its model does. -/
import Derived.Test.YtheddoinnakneaaZFlatMove9
namespace Go.Proofs.Ytheddoinnakneaa
open Go.ChangeShapes Go.WideShapes Go.ChangeAt Go.RowKit Go.Joins
set_option linter.unusedVariables false
set_option linter.unusedSimpArgs false
set_option maxRecDepth 4000
theorem fineL : Try.prog.readableRec 22 = true ∧ 22 < Try.prog.types.size := ⟨by kernel_rfl, of_decide_eq_true (by kernel_rfl)⟩
set_option maxHeartbeats 2000000 in
theorem flatMove_walk (A : Option Addr) (c : Nat) (l : List (Int × Int)) (w : World) (hcap : l.length ≤ c) (hc2 : c ≤ 9223372036854775807) (hR : Rd w w.heap.size A l) :
    Calls Try.prog 7 #[.slice A l.length c] w fun e w' => e = .returned (.bool true) ∧ Below w.heap.size w w' := by
  have K0 := Lib.hid (szPegS_any A l.length c 1048576 w (by omega) (by omega) (by omega))
  by_cases hbig : 1048576 < l.length
  · rw [if_pos (by omega)] at K0
    clear hR
    go_enter Try.func7, Try.ntmps7
    go_wp2_with fail
    refine K0.out.mono ?_; rintro e _ ⟨rfl, rfl⟩
    go_wp2_with fail
    go_ret
    exact ⟨rfl, Below.refl _ _⟩
  · rw [if_neg (by omega)] at K0
    have hle : l.length ≤ 1048576 := by omega
    have hz : (0 : Int) ≤ 1048576 - (l.length : Int) := by omega
    have KT := Lib.hid (fun W (hb : Below w.heap.size w W) => toPegS_any A c l W hle (rd_more (rd_below hR hb (Nat.le_refl _)) hb.size))
    have KS := Lib.hid (fun W g (h : Set W g l.length l.length l) => specFlatMove_any (some ⟨g, 0, none⟩) l.length l W hle (Nat.le_refl _) (by omega) (rd_of_set h))
    have KI := Lib.hid (fun W g (h : Set W g l.length l.length l) => implFlatMove_any (some ⟨g, 0, none⟩) l.length l W hle (rd_of_set h))
    have KE := Lib.hid (fun W g g' (h : Set W g l.length l.length l) (h' : Set W g' l.length l.length l) => (eqPegS_any (some ⟨g, 0, none⟩) (some ⟨g', 0, none⟩) l.length l.length l l W hle hle (rd_of_set h) (rd_of_set h')).mono fun e w' hh => (show e = .returned (.bool true) ∧ Below W.heap.size W w' from ⟨hh.1.trans (ret_bool (by simp)), hh.2⟩))
    clear hR hbig hle
    generalize fmS l 0 = gg0 at *
    generalize fmS l 1 = gg1 at *
    generalize fmS l 2 = gg2 at *
    generalize fmS l 3 = gg3 at *
    generalize fmS l 4 = gg4 at *
    generalize fmS l 5 = gg5 at *
    generalize okF l = gg6 at *
    have KP := Lib.hid (fun W => eqMove_same gg0 gg1 gg2 gg3 gg4 gg5 W)
    go_enter Try.func7, Try.ntmps7
    go_wp2_with fail
    refine K0.out.mono ?_; rintro e _ ⟨rfl, rfl⟩
    go_wp2_with fail
    refine (KT.out w (Below.refl _ _)).mono ?_; rintro e w1 ⟨rfl, hb1, hs1⟩
    go_wp2_with fail
    refine (KS.out w1 _ hs1).mono ?_; rintro e w2 ⟨rfl, hb2⟩
    have B2 : Below w.heap.size w w2 := hb1.trans (hb2.mono hb1.size)
    clear hb1 hs1 hb2
    go_wp2_with fail
    obtain ⟨W2, hW2⟩ : ∃ W2, W2 = (w2.alloc (.cells #[.int .i64 gg0, .int .i64 gg1, .int .i64 gg2, .int .i64 gg3, .int .i64 gg4, .int .i64 gg5] 41)) := ⟨_, rfl⟩
    rw [← hW2]
    have yW20_0 : W2.cell? ⟨w2.heap.size, 0, none⟩ = some (.int .i64 gg0) := by rw [hW2]; go_simp
    have yW20_1 : W2.cell? ⟨w2.heap.size, 1, none⟩ = some (.int .i64 gg1) := by rw [hW2]; go_simp
    have yW20_2 : W2.cell? ⟨w2.heap.size, 2, none⟩ = some (.int .i64 gg2) := by rw [hW2]; go_simp
    have yW20_3 : W2.cell? ⟨w2.heap.size, 3, none⟩ = some (.int .i64 gg3) := by rw [hW2]; go_simp
    have yW20_4 : W2.cell? ⟨w2.heap.size, 4, none⟩ = some (.int .i64 gg4) := by rw [hW2]; go_simp
    have yW20_5 : W2.cell? ⟨w2.heap.size, 5, none⟩ = some (.int .i64 gg5) := by rw [hW2]; go_simp
    have fW20 : ∀ o, W2.frozen? ⟨w2.heap.size, o, none⟩ = false := by intro o; rw [hW2]; (repeat rw [frozen?_alloc_cells]); simp [World.frozen?]
    have zW20 : w2.heap.size < W2.heap.size := by rw [hW2]; simp <;> omega
    have BW2 : Below w2.heap.size w2 W2 := by rw [hW2]; exact (Below.alloc (Below.refl _ _) (by simp <;> omega) _)
    have eW2 : Hid (W2.heap.size = w2.heap.size + 1) := Lib.hid (by rw [hW2]; simp)
    clear hW2
    have E2 := Lib.hid (show At6 W2 w2.heap.size gg0 gg1 gg2 gg3 gg4 gg5 from ⟨zW20, yW20_0, yW20_1, yW20_2, yW20_3, yW20_4, yW20_5⟩)
    have B2' := B2.trans (BW2.mono B2.size)
    clear yW20_0 yW20_1 yW20_2 yW20_3 yW20_4 yW20_5 zW20 fW20 BW2 B2 eW2
    refine (KT.out W2 B2').mono ?_; rintro e w3 ⟨rfl, hb3, hs3⟩
    have B3 : Below w.heap.size w w3 := B2'.trans (hb3.mono B2'.size)
    have E3 := Lib.hid (at6_below E2.out hb3 E2.out.1)
    obtain ⟨gx, hgx⟩ : ∃ x, x = W2.heap.size := ⟨_, rfl⟩
    rw [← hgx] at hs3 ⊢
    clear hb3 B2' E2 hgx
    go_wp2_with fail
    refine (KI.out w3 _ hs3).mono ?_; rintro e w4 ⟨rfl, hb4⟩
    have B4 : Below w.heap.size w w4 := B3.trans (hb4.mono B3.size)
    have hs4 := set_below hs3 hb4
    have E4 := Lib.hid (at6_below E3.out hb4 E3.out.1)
    clear hb4 B3 hs3 E3
    go_upto_region 8 with fail
    obtain ⟨W4, hW4⟩ : ∃ W4, W4 = (w4.alloc (.cells #[.int .i64 gg0, .int .i64 gg1, .int .i64 gg2, .int .i64 gg3, .int .i64 gg4, .int .i64 gg5] 41)) := ⟨_, rfl⟩
    rw [← hW4]
    have yW40_0 : W4.cell? ⟨w4.heap.size, 0, none⟩ = some (.int .i64 gg0) := by rw [hW4]; go_simp
    have yW40_1 : W4.cell? ⟨w4.heap.size, 1, none⟩ = some (.int .i64 gg1) := by rw [hW4]; go_simp
    have yW40_2 : W4.cell? ⟨w4.heap.size, 2, none⟩ = some (.int .i64 gg2) := by rw [hW4]; go_simp
    have yW40_3 : W4.cell? ⟨w4.heap.size, 3, none⟩ = some (.int .i64 gg3) := by rw [hW4]; go_simp
    have yW40_4 : W4.cell? ⟨w4.heap.size, 4, none⟩ = some (.int .i64 gg4) := by rw [hW4]; go_simp
    have yW40_5 : W4.cell? ⟨w4.heap.size, 5, none⟩ = some (.int .i64 gg5) := by rw [hW4]; go_simp
    have fW40 : ∀ o, W4.frozen? ⟨w4.heap.size, o, none⟩ = false := by intro o; rw [hW4]; (repeat rw [frozen?_alloc_cells]); simp [World.frozen?]
    have zW40 : w4.heap.size < W4.heap.size := by rw [hW4]; simp <;> omega
    have BW4 : Below w4.heap.size w4 W4 := by rw [hW4]; exact (Below.alloc (Below.refl _ _) (by simp <;> omega) _)
    have eW4 : Hid (W4.heap.size = w4.heap.size + 1) := Lib.hid (by rw [hW4]; simp)
    clear hW4
    have B5 := B4.trans (BW4.mono B4.size)
    have hs5 := set_below hs4 BW4
    have E5 := Lib.hid (at6_below E4.out BW4 E4.out.1)
    obtain ⟨ze, c0, c1, c2, c3, c4, c5⟩ := E5.out
    clear hs4 E4 BW4 B4 eW4 fW40
    go_wp2_with fail
    refine (KP.out W4).mono ?_; rintro e w6 ⟨rfl, hb6⟩
    have B7 := B5.trans (hb6.mono B5.size)
    have hs7 := set_below hs5 hb6
    clear hb6 B5 hs5 c0 c1 c2 c3 c4 c5 ze E5 yW40_0 yW40_1 yW40_2 yW40_3 yW40_4 yW40_5 zW40
    go_wp2_with fail
    refine (KT.out w6 B7).mono ?_; rintro e w7 ⟨rfl, hb7, hs8⟩
    have B8 : Below w.heap.size w w7 := B7.trans (hb7.mono B7.size)
    have hs9 := set_below hs7 hb7
    clear hb7 B7 hs7
    go_wp2_with fail
    refine (KE.out w7 _ _ hs9 hs8).mono ?_; rintro e w8 ⟨rfl, hb8⟩
    have B9 : Below w.heap.size w w8 := B8.trans (hb8.mono B8.size)
    go_wp2_with fail
    go_ret
    exact ⟨rfl, B9⟩
set_option maxRecDepth 100000 in
theorem flatMove_lifted (os : Os) (started : os.Started) (H : Type) (enc : TypeId × Value → H) :
    ReturnsInHanded {} Try.checked os 7 .any (Rows.fnExactFlatMoveSpec.pre6 enc Try.prog Try.f7 Rows.fnExactFlatMoveRow.domain false) (Rows.fnExactFlatMoveSpec.post enc Try.prog Try.f7 false true false false) := by
  refine returnsInHanded_of_change (C := Try.checked) own started (by kernel_rfl) Try.func7
    (ChangeSpec.witness6 (enc := enc) (C := Try.checked) false ⟨#[], #[.slice none 0 0], []⟩ 8 (by kernel_rfl) (by kernel_rfl) (by kernel_rfl) (by kernel_rfl)) ?_
  intro W base args ds gs before hval0 hW hcnd _
  have hval : ∀ (j : Nat) t v, Try.f7.params[j]? = some t → args[j]? = some v → Value.okWide Try.prog W .any base t v := hval0
  have hW' := hW
  obtain ⟨p, q, hA0, hV, rfl, hfz, hnd⟩ := hW
  have hA : DataW.TrodAll enc Try.prog W 0 (fun _ => true) true Try.f7.params.toList args.toList ds p := hA0
  rw [Try.params7] at hA hval
  obtain ⟨v0, vs0, d0, ds0, p0, q0, hargs, rfl, rfl, h0, r0⟩ := trodAll_cons hA
  obtain ⟨rfl, rfl, rfl⟩ := trodAll_nil r0
  obtain rfl : args = #[v0] := by cases args; simp_all
  obtain ⟨A0, c0, l0, rfl, hlc0, hcm0, hR0⟩ := open_pegs (hval 0 22 v0 rfl rfl) h0
  unfold maxLen at hcm0
  refine (flatMove_walk A0 c0 l0 W hlc0 hcm0 hR0).mono fun e W' ⟨he, hb⟩ => ?_
  subst he
  exact ⟨_, rfl, law_done hW' rfl (by kernel_rfl) (fun t ht => by rw [Try.params7] at ht; simp at ht; first | (subst ht; exact fineL)) rfl hb⟩
theorem flatMove_over : Rows.fnExactFlatMoveRow.holds Try.pinned (OpenSpec.ofChange Rows.fnExactFlatMoveSpec) :=
  OpenClaim.holds_of_wide 7 Try.f7 rfl rfl rfl rfl rfl rfl rfl ⟨rfl, rfl, rfl, rfl, rfl⟩ rfl rfl rfl rfl rfl (by kernel_rfl) Try.func7 (by kernel_rfl)
    (of_decide_eq_true (by kernel_rfl)) (by unfold Func.isWrapper; rw [if_neg (of_decide_eq_false (by kernel_rfl))]; exact ⟨rfl, rfl⟩)
    (fun os started H enc _ => flatMove_lifted os started H enc)
theorem flatMove_proved : Rows.FnExactFlatMoveSaid := flatMove_over
end Go.Proofs.Ytheddoinnakneaa
