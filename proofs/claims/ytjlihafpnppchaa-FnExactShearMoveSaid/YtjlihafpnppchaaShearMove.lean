/- The law FnExactShearMove returns true at every number, and changes nothing: the program tells the shear as its model does. -/
import Derived.Test.YtjlihafpnppchaaMg
import Derived.Test.YtjlihafpnppchaaMe
namespace Go.Proofs.Ytjlihafpnppchaa
open Go.ChangeShapes Go.WideShapes Go.ChangeAt Go.RowKit Go.Joins
set_option linter.unusedVariables false
set_option linter.unusedSimpArgs false
theorem fine3 : Try.prog.readableRec 3 = true ∧ 3 < Try.prog.types.size := ⟨by kernel_rfl, of_decide_eq_true (by kernel_rfl)⟩
set_option maxHeartbeats 1000000 in
theorem shearMove_walk (k : Int) (w : World) :
    Calls Try.prog 6 #[.int .i64 k] w fun e w' => e = .returned (.bool true) ∧ Below w.heap.size w w' := by
  have KS := Lib.hid (fun W => specShearMove_any k W)
  have KI := Lib.hid (fun W => implShearMove_any k W)
  generalize bsel (goodM 1 k 0 1 0 0) 1 = v0 at *
  generalize bsel (goodM 1 k 0 1 0 0) k = v1 at *
  generalize bsel (goodM 1 k 0 1 0 0) 0 = v2 at *
  generalize (goodM 1 k 0 1 0 0) = gg at *
  have KE := Lib.hid (fun W => eqMove_same v0 v1 v2 v0 v2 v2 W)
  go_enter Try.func6, Try.ntmps6
  go_wp2_with fail
  have Bw := Below.refl w.heap.size w
  refine (KS.out _).mono ?_; rintro e w1 ⟨rfl, hbw1⟩
  have Bw1 := Bw.trans (hbw1.mono Bw.size)
  clear hbw1 Bw
  go_wp2_with fail
  obtain ⟨Wa, hWa⟩ : ∃ Wa, Wa = (w1.alloc (.cells #[.int .i64 v0, .int .i64 v1, .int .i64 v2, .int .i64 v0, .int .i64 v2, .int .i64 v2] 25)) := ⟨_, rfl⟩
  rw [← hWa]
  have yWa0_0 : Wa.cell? ⟨w1.heap.size, 0, none⟩ = some (.int .i64 v0) := by rw [hWa]; go_simp
  have yWa0_1 : Wa.cell? ⟨w1.heap.size, 1, none⟩ = some (.int .i64 v1) := by rw [hWa]; go_simp
  have yWa0_2 : Wa.cell? ⟨w1.heap.size, 2, none⟩ = some (.int .i64 v2) := by rw [hWa]; go_simp
  have yWa0_3 : Wa.cell? ⟨w1.heap.size, 3, none⟩ = some (.int .i64 v0) := by rw [hWa]; go_simp
  have yWa0_4 : Wa.cell? ⟨w1.heap.size, 4, none⟩ = some (.int .i64 v2) := by rw [hWa]; go_simp
  have yWa0_5 : Wa.cell? ⟨w1.heap.size, 5, none⟩ = some (.int .i64 v2) := by rw [hWa]; go_simp
  have fWa0 : ∀ o, Wa.frozen? ⟨w1.heap.size, o, none⟩ = false := by intro o; rw [hWa]; (repeat rw [frozen?_alloc_cells]); simp [World.frozen?]
  have zWa0 : w1.heap.size < Wa.heap.size := by rw [hWa]; simp <;> omega
  have BWa : Below w1.heap.size w1 Wa := by rw [hWa]; exact (Below.alloc (Below.refl _ _) (by simp <;> omega) _)
  have eWa : Hid (Wa.heap.size = w1.heap.size + 1) := Lib.hid (by rw [hWa]; simp)
  clear hWa
  have BWa := Bw1.trans (BWa.mono Bw1.size)
  have E6 := Lib.hid (show Own6 Wa (w1.heap.size) v0 v1 v2 v0 v2 v2 from ⟨⟨zWa0, yWa0_0, yWa0_1, yWa0_2, yWa0_3, yWa0_4, yWa0_5⟩, fWa0⟩)
  clear zWa0 fWa0 yWa0_0 yWa0_1 yWa0_2 yWa0_3 yWa0_4 yWa0_5 eWa
  refine (KI.out _).mono ?_; rintro e w2 ⟨rfl, hbw2⟩
  have Bw2 := BWa.trans (hbw2.mono BWa.size)
  have E6 := Lib.hid (own6_below E6.out hbw2 E6.out.1.1)
  clear hbw2 BWa
  obtain ⟨⟨zp, cp0, cp1, cp2, cp3, cp4, cp5⟩, fp⟩ := E6.out
  unfold Fz at fp
  go_wp2_with fail
  clear zp fp cp0 cp1 cp2 cp3 cp4 cp5
  obtain ⟨Wb, hWb⟩ : ∃ Wb, Wb = (w2.alloc (.cells #[.int .i64 v0, .int .i64 v1, .int .i64 v2, .int .i64 v0, .int .i64 v2, .int .i64 v2] 25)) := ⟨_, rfl⟩
  rw [← hWb]
  have yWb0_0 : Wb.cell? ⟨w2.heap.size, 0, none⟩ = some (.int .i64 v0) := by rw [hWb]; go_simp
  have yWb0_1 : Wb.cell? ⟨w2.heap.size, 1, none⟩ = some (.int .i64 v1) := by rw [hWb]; go_simp
  have yWb0_2 : Wb.cell? ⟨w2.heap.size, 2, none⟩ = some (.int .i64 v2) := by rw [hWb]; go_simp
  have yWb0_3 : Wb.cell? ⟨w2.heap.size, 3, none⟩ = some (.int .i64 v0) := by rw [hWb]; go_simp
  have yWb0_4 : Wb.cell? ⟨w2.heap.size, 4, none⟩ = some (.int .i64 v2) := by rw [hWb]; go_simp
  have yWb0_5 : Wb.cell? ⟨w2.heap.size, 5, none⟩ = some (.int .i64 v2) := by rw [hWb]; go_simp
  have fWb0 : ∀ o, Wb.frozen? ⟨w2.heap.size, o, none⟩ = false := by intro o; rw [hWb]; (repeat rw [frozen?_alloc_cells]); simp [World.frozen?]
  have zWb0 : w2.heap.size < Wb.heap.size := by rw [hWb]; simp <;> omega
  have BWb : Below w2.heap.size w2 Wb := by rw [hWb]; exact (Below.alloc (Below.refl _ _) (by simp <;> omega) _)
  have eWb : Hid (Wb.heap.size = w2.heap.size + 1) := Lib.hid (by rw [hWb]; simp)
  clear hWb
  have BWb := Bw2.trans (BWb.mono Bw2.size)
  clear zWb0 fWb0 yWb0_0 yWb0_1 yWb0_2 yWb0_3 yWb0_4 yWb0_5 eWb
  refine (KE.out _).mono ?_; rintro e w3 ⟨rfl, hbw3⟩
  have Bw3 := BWb.trans (hbw3.mono BWb.size)
  clear hbw3 BWb
  go_wp2_with fail
  go_ret
  exact ⟨rfl, Bw3⟩
set_option maxRecDepth 100000 in
theorem shearMove_lifted (os : Os) (started : os.Started) (H : Type) (enc : TypeId × Value → H) :
    ReturnsInHanded {} Try.checked os 6 .any (Rows.fnExactShearMoveSpec.pre6 enc Try.prog Try.f6 Rows.fnExactShearMoveRow.domain false) (Rows.fnExactShearMoveSpec.post enc Try.prog Try.f6 false true false false) := by
  refine returnsInHanded_of_change (C := Try.checked) own started (by kernel_rfl) Try.func6
    (ChangeSpec.witness6 (enc := enc) (C := Try.checked) false ⟨#[], #[.int .i64 0], []⟩ 8 (by kernel_rfl) (by kernel_rfl) (by kernel_rfl) (by kernel_rfl)) ?_
  intro W base args ds gs before hval0 hW hcnd _
  have hval : ∀ (j : Nat) t v, Try.f6.params[j]? = some t → args[j]? = some v → Value.okWide Try.prog W .any base t v := hval0
  have hW' := hW
  obtain ⟨p, q, hA0, hV, rfl, hfz, hnd⟩ := hW
  have hA : DataW.TrodAll enc Try.prog W 0 (fun _ => true) true Try.f6.params.toList args.toList ds p := hA0
  rw [Try.params6] at hA hval
  obtain ⟨v0, vs0, d0, ds0, p0, q0, hargs, rfl, rfl, h0, r0⟩ := trodAll_cons hA
  obtain ⟨rfl, rfl, rfl⟩ := trodAll_nil r0
  obtain rfl : args = #[v0] := by cases args; simp_all
  obtain ⟨a0, rfl, rfl, rfl, w0⟩ := open_int Try.underlying3 (hval 0 3 v0 rfl rfl) h0
  refine (shearMove_walk a0 W).mono fun e W' ⟨he, hb⟩ => ?_
  subst he
  exact ⟨_, rfl, law_done hW' rfl (by kernel_rfl) (fun t ht => by rw [Try.params6] at ht; simp at ht; first | (subst ht; exact fine3)) rfl hb⟩
theorem shearMove_over : Rows.fnExactShearMoveRow.holds Try.pinned (OpenSpec.ofChange Rows.fnExactShearMoveSpec) :=
  OpenClaim.holds_of_wide 6 Try.f6 rfl rfl rfl rfl rfl rfl rfl ⟨rfl, rfl, rfl, rfl, rfl⟩ rfl rfl rfl rfl rfl (by kernel_rfl) Try.func6 (by kernel_rfl)
    (of_decide_eq_true (by kernel_rfl)) (by unfold Func.isWrapper; rw [if_neg (of_decide_eq_false (by kernel_rfl))]; exact ⟨rfl, rfl⟩)
    (fun os started H enc _ => shearMove_lifted os started H enc)
theorem shearMove_proved : Rows.FnExactShearMoveSaid := shearMove_over
end Go.Proofs.Ytjlihafpnppchaa
