/- The law FnExactStripPolygon returns true at every number, and changes nothing: the program gives the rectangle of some steps as its model does, in new memory. -/
import Derived.Test.YtchdpcndhgjkpaaCut2
import Derived.Test.YtchdpcndhgjkpaaLw
import Derived.Test.YtchdpcndhgjkpaaZ
namespace Go.Proofs.Ytchdpcndhgjkpaa
open Go.ChangeShapes Go.WideShapes Go.ChangeAt Go.RowKit Go.Joins
set_option linter.unusedVariables false
set_option linter.unusedSimpArgs false
set_option maxRecDepth 4000
theorem fine3 : Try.prog.readableRec 3 = true ∧ 3 < Try.prog.types.size := ⟨by kernel_rfl, of_decide_eq_true (by kernel_rfl)⟩
set_option maxHeartbeats 2000000 in
theorem stripPolygon_walk (a0 : Int) (w : World) :
    Calls Try.prog 5 #[.int .i64 a0] w fun e w' => e = .returned (.bool true) ∧ Below w.heap.size w w' := by
  have hm : (sel (inS a0) (strL a0)).length ≤ 1048576 := by unfold sel; split <;> simp [strL]
  have KS := Lib.hid (fun W => (specStripPolygon_any a0 W).mono fun e w' hh => retN_of_L hh)
  have KI := Lib.hid (fun W => (implStripPolygon_any a0 W).mono fun e w' hh => retN_of_L hh)
  have KE := Lib.hid (fun W => law_eq (sel (inS a0) (strL a0)) hm W)
  have KN := Lib.hid (fun W lo B A c h => markPegS_any A c (sel (inS a0) (strL a0)).length 1 lo B (pt (sel (inS a0) (strL a0))) W hm (by omega) (by omega) h)
  have KH := Lib.hid (fun W lo B A c h => heldPegS_any A c (sel (inS a0) (strL a0)).length 1 lo B W hm (by omega) (by omega) h)
  generalize pt (sel (inS a0) (strL a0)) = F at *
  generalize (sel (inS a0) (strL a0)).length = p at *
  generalize inS a0 = b at *
  go_enter Try.func5, Try.ntmps5
  go_wp2_with fail
  refine (KS.out w).mono ?_; rintro e w1 ⟨AS, cS, rfl, hb1, rS⟩
  have B1 := hb1
  have RS1 := Lib.hid rS
  have z1 := hb1.size
  clear hb1 rS
  go_wp2_with fail
  refine (KI.out w1).mono ?_; rintro e w2 ⟨AG, cG, rfl, hb2, rG⟩
  have B2 := below_grow B1 hb2
  have RG2 := Lib.hid rG
  have RS2 := Lib.hid (rw_below RS1.out hb2 (Nat.le_refl _))
  have z2 := hb2.size
  clear hb2 rG B1 RS1
  obtain ⟨lG, hlG⟩ : ∃ x, x = w1.heap.size := ⟨_, rfl⟩
  obtain ⟨uG, huG⟩ : ∃ x, x = w2.heap.size := ⟨_, rfl⟩
  rw [← hlG, ← huG] at RG2
  rw [← hlG] at RS2 z1 z2
  have y2 : uG ≤ w2.heap.size := by omega
  have y3 : lG ≤ w2.heap.size := by omega
  clear huG hlG
  go_wp2_with fail
  refine (KE.out w2 _ _ _ _ _ _ _ _ RG2.out y2 RS2.out y3).mono ?_; rintro e w3 ⟨rfl, hb3⟩
  have B3 := below_grow B2 hb3
  have RG3 := Lib.hid (rw_below RG2.out hb3 y2)
  have RS3 := Lib.hid (rw_below RS2.out hb3 y3)
  have y4 := hb3.size
  clear hb3 B2 RG2 RS2
  go_wp2_with fail
  refine (KN.out w3 _ _ _ _ RG3.out).mono ?_; rintro e w4 ⟨rfl, ho4, rG4⟩
  have B4 := only_grow B3 ho4 (by omega)
  have RG4 := Lib.hid rG4
  have RS4 := Lib.hid (rw_only RS3.out ho4 (by omega))
  have y5 := Nat.le_of_eq ho4.size.symm
  clear ho4 B3 RG3 RS3 rG4
  go_wp2_with fail
  refine (KH.out w4 _ _ _ _ RG4.out).mono ?_; rintro e _ ⟨rfl, rfl⟩
  go_wp2_with fail
  refine (KI.out w4).mono ?_; rintro e w5 ⟨AH, cH, rfl, hb5, rH⟩
  have B5 := below_grow B4 hb5
  have RG5 := Lib.hid (rw_below RG4.out hb5 (by omega))
  have RS5 := Lib.hid (rw_below RS4.out hb5 (by omega))
  have RH := Lib.hid rH
  have y6 := hb5.size
  clear hb5 B4 RG4 RS4 rH
  go_wp2_with fail
  refine (KE.out w5 _ _ _ _ _ _ _ _ RH.out (by omega) RS5.out (by omega)).mono ?_; rintro e w6 ⟨rfl, hb6⟩
  have B6 := below_grow B5 hb6
  have RG6 := Lib.hid (rw_below RG5.out hb6 (by omega))
  clear hb6 B5 RG5 RS5 RH
  go_wp2_with fail
  refine (KH.out w6 _ _ _ _ RG6.out).mono ?_; rintro e _ ⟨rfl, rfl⟩
  go_wp2_with fail
  go_ret
  exact ⟨rfl, B6⟩
set_option maxRecDepth 100000 in
theorem stripPolygon_lifted (os : Os) (started : os.Started) (H : Type) (enc : TypeId × Value → H) :
    ReturnsInHanded {} Try.checked os 5 .any (Rows.fnExactStripPolygonSpec.pre6 enc Try.prog Try.f5 Rows.fnExactStripPolygonRow.domain false) (Rows.fnExactStripPolygonSpec.post enc Try.prog Try.f5 false true false false) := by
  refine returnsInHanded_of_change (C := Try.checked) own started (by kernel_rfl) Try.func5
    (ChangeSpec.witness6 (enc := enc) (C := Try.checked) false ⟨#[], #[.int .i64 0], []⟩ 8 (by kernel_rfl) (by kernel_rfl) (by kernel_rfl) (by kernel_rfl)) ?_
  intro W base args ds gs before hval0 hW hcnd _
  have hval : ∀ (j : Nat) t v, Try.f5.params[j]? = some t → args[j]? = some v → Value.okWide Try.prog W .any base t v := hval0
  have hW' := hW
  obtain ⟨p, q, hA0, hV, rfl, hfz, hnd⟩ := hW
  have hA : DataW.TrodAll enc Try.prog W 0 (fun _ => true) true Try.f5.params.toList args.toList ds p := hA0
  rw [Try.params5] at hA hval
  obtain ⟨v0, vs0, d0, ds0, p0, q0, hargs, rfl, rfl, h0, r0⟩ := trodAll_cons hA
  obtain ⟨rfl, rfl, rfl⟩ := trodAll_nil r0
  obtain rfl : args = #[v0] := by cases args; simp_all
  obtain ⟨a0, rfl, rfl, rfl, w0⟩ := open_int Try.underlying3 (hval 0 3 v0 rfl rfl) h0
  refine (stripPolygon_walk a0 W).mono fun e W' ⟨he, hb⟩ => ?_
  subst he
  exact ⟨_, rfl, law_done hW' rfl (by kernel_rfl) (fun t ht => by rw [Try.params5] at ht; simp at ht; first | (subst ht; exact fine3)) rfl hb⟩
theorem stripPolygon_over : Rows.fnExactStripPolygonRow.holds Try.pinned (OpenSpec.ofChange Rows.fnExactStripPolygonSpec) :=
  OpenClaim.holds_of_wide 5 Try.f5 rfl rfl rfl rfl rfl rfl rfl ⟨rfl, rfl, rfl, rfl, rfl⟩ rfl rfl rfl rfl rfl (by kernel_rfl) Try.func5 (by kernel_rfl)
    (of_decide_eq_true (by kernel_rfl)) (by unfold Func.isWrapper; rw [if_neg (of_decide_eq_false (by kernel_rfl))]; exact ⟨rfl, rfl⟩)
    (fun os started H enc _ => stripPolygon_lifted os started H enc)
theorem stripPolygon_proved : Rows.FnExactStripPolygonSaid := stripPolygon_over
end Go.Proofs.Ytchdpcndhgjkpaa
