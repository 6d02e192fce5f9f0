/- The law FnExactIsPolygon returns true at every list of points, whatever its length and numbers, and changes nothing: the program tells which lists are polygons as its model does. -/
import Derived.Test.YtmbogkcdelfjlaaY
import Derived.Test.YtmbogkcdelfjlaaZ
namespace Go.Proofs.Ytmbogkcdelfjlaa
open Go.ChangeShapes Go.WideShapes Go.ChangeAt Go.RowKit Go.Joins
set_option linter.unusedVariables false
set_option linter.unusedSimpArgs false
set_option maxRecDepth 4000
theorem fineL : Try.prog.readableRec 22 = true ∧ 22 < Try.prog.types.size := ⟨by kernel_rfl, of_decide_eq_true (by kernel_rfl)⟩
set_option maxRecDepth 100000 in
theorem isPolygon_lifted (os : Os) (started : os.Started) (H : Type) (enc : TypeId × Value → H) :
    ReturnsInHanded {} Try.checked os 3 .any (Rows.fnExactIsPolygonSpec.pre6 enc Try.prog Try.f3 Rows.fnExactIsPolygonRow.domain false) (Rows.fnExactIsPolygonSpec.post enc Try.prog Try.f3 false true false false) := by
  refine returnsInHanded_of_change (C := Try.checked) own started (by kernel_rfl) Try.func3
    (ChangeSpec.witness6 (enc := enc) (C := Try.checked) false ⟨#[], #[.slice none 0 0], []⟩ 8 (by kernel_rfl) (by kernel_rfl) (by kernel_rfl) (by kernel_rfl)) ?_
  intro W base args ds gs before hval0 hW hcnd _
  have hval : ∀ (j : Nat) t v, Try.f3.params[j]? = some t → args[j]? = some v → Value.okWide Try.prog W .any base t v := hval0
  have hW' := hW
  obtain ⟨p, q, hA0, hV, rfl, hfz, hnd⟩ := hW
  have hA : DataW.TrodAll enc Try.prog W 0 (fun _ => true) true Try.f3.params.toList args.toList ds p := hA0
  rw [Try.params3] at hA hval
  obtain ⟨v0, vs0, d0, ds0, p0, q0, hargs, rfl, rfl, h0, r0⟩ := trodAll_cons hA
  obtain ⟨rfl, rfl, rfl⟩ := trodAll_nil r0
  obtain rfl : args = #[v0] := by cases args; simp_all
  obtain ⟨A, c, l, rfl, hlc, hcm, hR⟩ := open_pegs (hval 0 22 v0 rfl rfl) h0
  unfold maxLen at hcm
  refine (isPolygon_walk A c l W hlc hcm hR).mono fun e W' ⟨he, hb⟩ => ?_
  subst he
  exact ⟨_, rfl, law_done hW' rfl (by kernel_rfl) (fun t ht => by rw [Try.params3] at ht; simp at ht; subst ht; exact fineL) rfl hb⟩
theorem isPolygon_over : Rows.fnExactIsPolygonRow.holds Try.pinned (OpenSpec.ofChange Rows.fnExactIsPolygonSpec) :=
  OpenClaim.holds_of_wide 3 Try.f3 rfl rfl rfl rfl rfl rfl rfl ⟨rfl, rfl, rfl, rfl, rfl⟩ rfl rfl rfl rfl rfl (by kernel_rfl) Try.func3 (by kernel_rfl)
    (of_decide_eq_true (by kernel_rfl)) (by unfold Func.isWrapper; rw [if_neg (of_decide_eq_false (by kernel_rfl))]; exact ⟨rfl, rfl⟩)
    (fun os started H enc _ => isPolygon_lifted os started H enc)
theorem isPolygon_proved : Rows.FnExactIsPolygonSaid := isPolygon_over
end Go.Proofs.Ytmbogkcdelfjlaa
