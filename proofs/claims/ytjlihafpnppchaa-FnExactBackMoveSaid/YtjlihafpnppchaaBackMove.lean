/- The law FnExactBackMove returns true at every six numbers, and changes nothing: the program tells the move that undoes another one as its model does. -/
import Derived.Test.YtjlihafpnppchaaMjs
import Derived.Test.YtjlihafpnppchaaMe
namespace Go.Proofs.Ytjlihafpnppchaa
open Go.ChangeShapes Go.WideShapes Go.ChangeAt Go.RowKit Go.Joins
set_option linter.unusedVariables false
set_option linter.unusedSimpArgs false
set_option maxHeartbeats 1000000 in
theorem backMove_walk (a b c d x y : Int) (w : World) :
    Calls Try.prog 8 #[.agg #[.int .i64 a, .int .i64 b, .int .i64 c, .int .i64 d, .int .i64 x, .int .i64 y]] w fun e w' => e = .returned (.bool true) ∧ Below w.heap.size w w' := by
  have KT := Lib.hid (fun W => toMove_any a b c d x y W)
  have KS := Lib.hid (fun W => specBackMove_any a b c d x y W)
  have KI := Lib.hid (fun W => implBackMove_any a b c d x y W)
  generalize bsel (goodM a b c d x y && (goodM ((a * d - b * c) * d) (-(a * d - b * c) * b) (-(a * d - b * c) * c) ((a * d - b * c) * a) (-((a * d - b * c) * d * x + -(a * d - b * c) * b * y)) (-(-(a * d - b * c) * c * x + (a * d - b * c) * a * y)))) ((a * d - b * c) * d) = v0 at *
  generalize bsel (goodM a b c d x y && (goodM ((a * d - b * c) * d) (-(a * d - b * c) * b) (-(a * d - b * c) * c) ((a * d - b * c) * a) (-((a * d - b * c) * d * x + -(a * d - b * c) * b * y)) (-(-(a * d - b * c) * c * x + (a * d - b * c) * a * y)))) (-(a * d - b * c) * b) = v1 at *
  generalize bsel (goodM a b c d x y && (goodM ((a * d - b * c) * d) (-(a * d - b * c) * b) (-(a * d - b * c) * c) ((a * d - b * c) * a) (-((a * d - b * c) * d * x + -(a * d - b * c) * b * y)) (-(-(a * d - b * c) * c * x + (a * d - b * c) * a * y)))) (-(a * d - b * c) * c) = v2 at *
  generalize bsel (goodM a b c d x y && (goodM ((a * d - b * c) * d) (-(a * d - b * c) * b) (-(a * d - b * c) * c) ((a * d - b * c) * a) (-((a * d - b * c) * d * x + -(a * d - b * c) * b * y)) (-(-(a * d - b * c) * c * x + (a * d - b * c) * a * y)))) ((a * d - b * c) * a) = v3 at *
  generalize bsel (goodM a b c d x y && (goodM ((a * d - b * c) * d) (-(a * d - b * c) * b) (-(a * d - b * c) * c) ((a * d - b * c) * a) (-((a * d - b * c) * d * x + -(a * d - b * c) * b * y)) (-(-(a * d - b * c) * c * x + (a * d - b * c) * a * y)))) (-((a * d - b * c) * d * x + -(a * d - b * c) * b * y)) = v4 at *
  generalize bsel (goodM a b c d x y && (goodM ((a * d - b * c) * d) (-(a * d - b * c) * b) (-(a * d - b * c) * c) ((a * d - b * c) * a) (-((a * d - b * c) * d * x + -(a * d - b * c) * b * y)) (-(-(a * d - b * c) * c * x + (a * d - b * c) * a * y)))) (-(-(a * d - b * c) * c * x + (a * d - b * c) * a * y)) = v5 at *
  generalize (goodM a b c d x y && (goodM ((a * d - b * c) * d) (-(a * d - b * c) * b) (-(a * d - b * c) * c) ((a * d - b * c) * a) (-((a * d - b * c) * d * x + -(a * d - b * c) * b * y)) (-(-(a * d - b * c) * c * x + (a * d - b * c) * a * y)))) = gg at *
  have KE := Lib.hid (fun W => eqMove_same v0 v1 v2 v3 v4 v5 W)
  go_enter Try.func8, Try.ntmps8
  go_wp2_with fail
  obtain ⟨W0, hW0⟩ : ∃ W0, W0 = (w.alloc (.cells #[.int .i64 a, .int .i64 b, .int .i64 c, .int .i64 d, .int .i64 x, .int .i64 y] 23)) := ⟨_, rfl⟩
  rw [← hW0]
  have yW00_0 : W0.cell? ⟨w.heap.size, 0, none⟩ = some (.int .i64 a) := by rw [hW0]; go_simp
  have yW00_1 : W0.cell? ⟨w.heap.size, 1, none⟩ = some (.int .i64 b) := by rw [hW0]; go_simp
  have yW00_2 : W0.cell? ⟨w.heap.size, 2, none⟩ = some (.int .i64 c) := by rw [hW0]; go_simp
  have yW00_3 : W0.cell? ⟨w.heap.size, 3, none⟩ = some (.int .i64 d) := by rw [hW0]; go_simp
  have yW00_4 : W0.cell? ⟨w.heap.size, 4, none⟩ = some (.int .i64 x) := by rw [hW0]; go_simp
  have yW00_5 : W0.cell? ⟨w.heap.size, 5, none⟩ = some (.int .i64 y) := by rw [hW0]; go_simp
  have fW00 : ∀ o, W0.frozen? ⟨w.heap.size, o, none⟩ = false := by intro o; rw [hW0]; (repeat rw [frozen?_alloc_cells]); simp [World.frozen?]
  have zW00 : w.heap.size < W0.heap.size := by rw [hW0]; simp <;> omega
  have BW0 : Below w.heap.size w W0 := by rw [hW0]; exact (Below.alloc (Below.refl _ _) (by simp <;> omega) _)
  have eW0 : Hid (W0.heap.size = w.heap.size + 1) := Lib.hid (by rw [hW0]; simp)
  clear hW0
  have A6 := Lib.hid (show Own6 W0 (w.heap.size) a b c d x y from ⟨⟨zW00, yW00_0, yW00_1, yW00_2, yW00_3, yW00_4, yW00_5⟩, fW00⟩)
  clear zW00 fW00 yW00_0 yW00_1 yW00_2 yW00_3 yW00_4 yW00_5 eW0
  refine (KT.out _).mono ?_; rintro e w1 ⟨rfl, hbw1⟩
  have Bw1 := BW0.trans (hbw1.mono BW0.size)
  have A6 := Lib.hid (own6_below A6.out hbw1 A6.out.1.1)
  clear hbw1 BW0
  go_wp2_with fail
  refine (KS.out _).mono ?_; rintro e w2 ⟨rfl, hbw2⟩
  have Bw2 := Bw1.trans (hbw2.mono Bw1.size)
  have A6 := Lib.hid (own6_below A6.out hbw2 A6.out.1.1)
  clear hbw2 Bw1
  obtain ⟨⟨zp, cp0, cp1, cp2, cp3, cp4, cp5⟩, fp⟩ := A6.out
  unfold Fz at fp
  go_wp2_with fail
  clear zp fp cp0 cp1 cp2 cp3 cp4 cp5
  obtain ⟨Wa, hWa⟩ : ∃ Wa, Wa = (w2.alloc (.cells #[.int .i64 v0, .int .i64 v1, .int .i64 v2, .int .i64 v3, .int .i64 v4, .int .i64 v5] 25)) := ⟨_, rfl⟩
  rw [← hWa]
  have yWa0_0 : Wa.cell? ⟨w2.heap.size, 0, none⟩ = some (.int .i64 v0) := by rw [hWa]; go_simp
  have yWa0_1 : Wa.cell? ⟨w2.heap.size, 1, none⟩ = some (.int .i64 v1) := by rw [hWa]; go_simp
  have yWa0_2 : Wa.cell? ⟨w2.heap.size, 2, none⟩ = some (.int .i64 v2) := by rw [hWa]; go_simp
  have yWa0_3 : Wa.cell? ⟨w2.heap.size, 3, none⟩ = some (.int .i64 v3) := by rw [hWa]; go_simp
  have yWa0_4 : Wa.cell? ⟨w2.heap.size, 4, none⟩ = some (.int .i64 v4) := by rw [hWa]; go_simp
  have yWa0_5 : Wa.cell? ⟨w2.heap.size, 5, none⟩ = some (.int .i64 v5) := by rw [hWa]; go_simp
  have fWa0 : ∀ o, Wa.frozen? ⟨w2.heap.size, o, none⟩ = false := by intro o; rw [hWa]; (repeat rw [frozen?_alloc_cells]); simp [World.frozen?]
  have zWa0 : w2.heap.size < Wa.heap.size := by rw [hWa]; simp <;> omega
  have BWa : Below w2.heap.size w2 Wa := by rw [hWa]; exact (Below.alloc (Below.refl _ _) (by simp <;> omega) _)
  have eWa : Hid (Wa.heap.size = w2.heap.size + 1) := Lib.hid (by rw [hWa]; simp)
  clear hWa
  have E6 := Lib.hid (show Own6 Wa (w2.heap.size) v0 v1 v2 v3 v4 v5 from ⟨⟨zWa0, yWa0_0, yWa0_1, yWa0_2, yWa0_3, yWa0_4, yWa0_5⟩, fWa0⟩)
  have BWa := Bw2.trans (BWa.mono Bw2.size)
  clear Bw2
  clear zWa0 fWa0 yWa0_0 yWa0_1 yWa0_2 yWa0_3 yWa0_4 yWa0_5 eWa
  refine (KT.out _).mono ?_; rintro e w3 ⟨rfl, hbw3⟩
  have Bw3 := BWa.trans (hbw3.mono BWa.size)
  have E6 := Lib.hid (own6_below E6.out hbw3 E6.out.1.1)
  clear hbw3 BWa
  go_wp2_with fail
  refine (KI.out _).mono ?_; rintro e w4 ⟨rfl, hbw4⟩
  have Bw4 := Bw3.trans (hbw4.mono Bw3.size)
  have E6 := Lib.hid (own6_below E6.out hbw4 E6.out.1.1)
  clear hbw4 Bw3
  obtain ⟨⟨zp, cp0, cp1, cp2, cp3, cp4, cp5⟩, fp⟩ := E6.out
  unfold Fz at fp
  go_wp2_with fail
  clear zp fp cp0 cp1 cp2 cp3 cp4 cp5
  obtain ⟨Wb, hWb⟩ : ∃ Wb, Wb = (w4.alloc (.cells #[.int .i64 v0, .int .i64 v1, .int .i64 v2, .int .i64 v3, .int .i64 v4, .int .i64 v5] 25)) := ⟨_, rfl⟩
  rw [← hWb]
  have yWb0_0 : Wb.cell? ⟨w4.heap.size, 0, none⟩ = some (.int .i64 v0) := by rw [hWb]; go_simp
  have yWb0_1 : Wb.cell? ⟨w4.heap.size, 1, none⟩ = some (.int .i64 v1) := by rw [hWb]; go_simp
  have yWb0_2 : Wb.cell? ⟨w4.heap.size, 2, none⟩ = some (.int .i64 v2) := by rw [hWb]; go_simp
  have yWb0_3 : Wb.cell? ⟨w4.heap.size, 3, none⟩ = some (.int .i64 v3) := by rw [hWb]; go_simp
  have yWb0_4 : Wb.cell? ⟨w4.heap.size, 4, none⟩ = some (.int .i64 v4) := by rw [hWb]; go_simp
  have yWb0_5 : Wb.cell? ⟨w4.heap.size, 5, none⟩ = some (.int .i64 v5) := by rw [hWb]; go_simp
  have fWb0 : ∀ o, Wb.frozen? ⟨w4.heap.size, o, none⟩ = false := by intro o; rw [hWb]; (repeat rw [frozen?_alloc_cells]); simp [World.frozen?]
  have zWb0 : w4.heap.size < Wb.heap.size := by rw [hWb]; simp <;> omega
  have BWb : Below w4.heap.size w4 Wb := by rw [hWb]; exact (Below.alloc (Below.refl _ _) (by simp <;> omega) _)
  have eWb : Hid (Wb.heap.size = w4.heap.size + 1) := Lib.hid (by rw [hWb]; simp)
  clear hWb
  have BWb := Bw4.trans (BWb.mono Bw4.size)
  clear zWb0 fWb0 yWb0_0 yWb0_1 yWb0_2 yWb0_3 yWb0_4 yWb0_5 eWb
  refine (KE.out _).mono ?_; rintro e w5 ⟨rfl, hbw5⟩
  have Bw5 := BWb.trans (hbw5.mono BWb.size)
  clear hbw5 BWb
  go_wp2_with fail
  go_ret
  exact ⟨rfl, Bw5⟩
set_option maxRecDepth 100000 in
theorem backMove_lifted (os : Os) (started : os.Started) (H : Type) (enc : TypeId × Value → H) :
    ReturnsInHanded {} Try.checked os 8 .any (Rows.fnExactBackMoveSpec.pre6 enc Try.prog Try.f8 Rows.fnExactBackMoveRow.domain false) (Rows.fnExactBackMoveSpec.post enc Try.prog Try.f8 false true false false) := by
  refine returnsInHanded_of_change (C := Try.checked) own started (by kernel_rfl) Try.func8
    (ChangeSpec.witness6 (enc := enc) (C := Try.checked) false ⟨#[], #[.agg #[.int .i64 0, .int .i64 0, .int .i64 0, .int .i64 0, .int .i64 0, .int .i64 0]], []⟩ 8 (by kernel_rfl) (by kernel_rfl) (by kernel_rfl) (by kernel_rfl)) ?_
  intro W base args ds gs before hval0 hW hcnd _
  have hval : ∀ (j : Nat) t v, Try.f8.params[j]? = some t → args[j]? = some v → Value.okWide Try.prog W .any base t v := hval0
  have hW' := hW
  obtain ⟨p, q, hA0, hV, rfl, hfz, hnd⟩ := hW
  have hA : DataW.TrodAll enc Try.prog W 0 (fun _ => true) true Try.f8.params.toList args.toList ds p := hA0
  rw [Try.params8] at hA hval
  obtain ⟨v0, vs0, d0, ds0, p0, q0, hargs, rfl, rfl, h0, r0⟩ := trodAll_cons hA
  obtain ⟨rfl, rfl, rfl⟩ := trodAll_nil r0
  obtain rfl : args = #[v0] := by cases args; simp_all
  obtain ⟨a0, b0, c0, d0, x0, y0, rfl⟩ := open_move (hval 0 23 v0 rfl rfl) h0
  refine (backMove_walk a0 b0 c0 d0 x0 y0 W).mono fun e W' ⟨he, hb⟩ => ?_
  subst he
  exact ⟨_, rfl, law_done hW' rfl (by kernel_rfl) (fun t ht => by rw [Try.params8] at ht; simp at ht; first | (subst ht; exact fineM)) rfl hb⟩
theorem backMove_over : Rows.fnExactBackMoveRow.holds Try.pinned (OpenSpec.ofChange Rows.fnExactBackMoveSpec) :=
  OpenClaim.holds_of_wide 8 Try.f8 rfl rfl rfl rfl rfl rfl rfl ⟨rfl, rfl, rfl, rfl, rfl⟩ rfl rfl rfl rfl rfl (by kernel_rfl) Try.func8 (by kernel_rfl)
    (of_decide_eq_true (by kernel_rfl)) (by unfold Func.isWrapper; rw [if_neg (of_decide_eq_false (by kernel_rfl))]; exact ⟨rfl, rfl⟩)
    (fun os started H enc _ => backMove_lifted os started H enc)
theorem backMove_proved : Rows.FnExactBackMoveSaid := backMove_over
end Go.Proofs.Ytjlihafpnppchaa
