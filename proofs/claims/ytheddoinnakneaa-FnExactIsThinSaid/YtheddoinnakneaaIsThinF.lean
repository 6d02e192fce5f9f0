/- The law FnExactIsThin returns true at every list of points, whatever its length and numbers, and changes nothing: the program tells whether a polygon is thin as its model does. -/
import Derived.Test.YtheddoinnakneaaZIsThin8
namespace Go.Proofs.Ytheddoinnakneaa
open Go.ChangeShapes Go.WideShapes Go.ChangeAt Go.RowKit Go.Joins
set_option linter.unusedVariables false
set_option linter.unusedSimpArgs false
set_option maxRecDepth 4000
theorem fineL : Try.prog.readableRec 22 = true ∧ 22 < Try.prog.types.size := ⟨by kernel_rfl, of_decide_eq_true (by kernel_rfl)⟩
theorem isThin_walk (A : Option Addr) (c : Nat) (l : List (Int × Int)) (w : World) (hcap : l.length ≤ c) (hc2 : c ≤ 9223372036854775807) (hR : Rd w w.heap.size A l) :
    Calls Try.prog 6 #[.slice A l.length c] w fun e w' => e = .returned (.bool true) ∧ Below w.heap.size w w' := by
  have K0 := Lib.hid (szPegS_any A l.length c 1048576 w (by omega) (by omega) (by omega))
  by_cases hbig : 1048576 < l.length
  · rw [if_pos (by omega)] at K0
    clear hR
    go_enter Try.func6, Try.ntmps6
    go_wp2_with fail
    refine K0.out.mono ?_; rintro e _ ⟨rfl, rfl⟩
    go_wp2_with fail
    go_ret
    exact ⟨rfl, Below.refl _ _⟩
  · rw [if_neg (by omega)] at K0
    have hle : l.length ≤ 1048576 := by omega
    have hz : (0 : Int) ≤ 1048576 - (l.length : Int) := by omega
    have KT := Lib.hid (fun W (hb : Below w.heap.size w W) => toPegS_any A c l W hle (rd_more (rd_below hR hb (Nat.le_refl _)) hb.size))
    have KS := Lib.hid (fun W g (h : Set W g l.length l.length l) => specIsThin_any (some ⟨g, 0, none⟩) l.length l W hle (Nat.le_refl _) (by omega) (rd_of_set h))
    have KI := Lib.hid (fun W g (h : Set W g l.length l.length l) => implIsThin_any (some ⟨g, 0, none⟩) l.length l W hle (rd_of_set h))
    have KE := Lib.hid (fun W g g' (h : Set W g l.length l.length l) (h' : Set W g' l.length l.length l) => (eqPegS_any (some ⟨g, 0, none⟩) (some ⟨g', 0, none⟩) l.length l.length l l W hle hle (rd_of_set h) (rd_of_set h')).mono fun e w' hh => (show e = .returned (.bool true) ∧ Below W.heap.size W w' from ⟨hh.1.trans (ret_bool (by simp)), hh.2⟩))
    clear hR hbig hle
    generalize thS l = gg0 at *
    generalize goodB l = gg1 at *
    go_enter Try.func6, Try.ntmps6
    go_wp2_with fail
    refine K0.out.mono ?_; rintro e _ ⟨rfl, rfl⟩
    go_wp2_with fail
    refine (KT.out w (Below.refl _ _)).mono ?_; rintro e w1 ⟨rfl, hb1, hs1⟩
    go_wp2_with fail
    refine (KS.out w1 _ hs1).mono ?_; rintro e w2 ⟨rfl, hb2⟩
    have B2 : Below w.heap.size w w2 := hb1.trans (hb2.mono hb1.size)
    clear hb1 hs1 hb2
    go_wp2_with fail
    refine (KT.out w2 B2).mono ?_; rintro e w3 ⟨rfl, hb3, hs3⟩
    have B3 : Below w.heap.size w w3 := B2.trans (hb3.mono B2.size)
    generalize w2.heap.size = g at *
    clear hb3 B2
    go_wp2_with fail
    refine (KI.out w3 _ hs3).mono ?_; rintro e w4 ⟨rfl, hb4⟩
    have B4 : Below w.heap.size w w4 := B3.trans (hb4.mono B3.size)
    have hs4 := set_below hs3 hb4
    clear hb4 B3 hs3
    go_wp2_with fail
    refine (KT.out w4 B4).mono ?_; rintro e w5 ⟨rfl, hb5, hs5⟩
    have B5 : Below w.heap.size w w5 := B4.trans (hb5.mono B4.size)
    have hs6 := set_below hs4 hb5
    generalize w4.heap.size = g' at *
    clear hb5 B4 hs4
    go_wp2_with fail
    refine (KE.out w5 _ _ hs6 hs5).mono ?_; rintro e w6 ⟨rfl, hb6⟩
    have B6 : Below w.heap.size w w6 := B5.trans (hb6.mono B5.size)
    go_wp2_with fail
    go_ret
    exact ⟨rfl, B6⟩
set_option maxRecDepth 100000 in
theorem isThin_lifted (os : Os) (started : os.Started) (H : Type) (enc : TypeId × Value → H) :
    ReturnsInHanded {} Try.checked os 6 .any (Rows.fnExactIsThinSpec.pre6 enc Try.prog Try.f6 Rows.fnExactIsThinRow.domain false) (Rows.fnExactIsThinSpec.post enc Try.prog Try.f6 false true false false) := by
  refine returnsInHanded_of_change (C := Try.checked) own started (by kernel_rfl) Try.func6
    (ChangeSpec.witness6 (enc := enc) (C := Try.checked) false ⟨#[], #[.slice none 0 0], []⟩ 8 (by kernel_rfl) (by kernel_rfl) (by kernel_rfl) (by kernel_rfl)) ?_
  intro W base args ds gs before hval0 hW hcnd _
  have hval : ∀ (j : Nat) t v, Try.f6.params[j]? = some t → args[j]? = some v → Value.okWide Try.prog W .any base t v := hval0
  have hW' := hW
  obtain ⟨p, q, hA0, hV, rfl, hfz, hnd⟩ := hW
  have hA : DataW.TrodAll enc Try.prog W 0 (fun _ => true) true Try.f6.params.toList args.toList ds p := hA0
  rw [Try.params6] at hA hval
  obtain ⟨v0, vs0, d0, ds0, p0, q0, hargs, rfl, rfl, h0, r0⟩ := trodAll_cons hA
  obtain ⟨rfl, rfl, rfl⟩ := trodAll_nil r0
  obtain rfl : args = #[v0] := by cases args; simp_all
  obtain ⟨A0, c0, l0, rfl, hlc0, hcm0, hR0⟩ := open_pegs (hval 0 22 v0 rfl rfl) h0
  unfold maxLen at hcm0
  refine (isThin_walk A0 c0 l0 W hlc0 hcm0 hR0).mono fun e W' ⟨he, hb⟩ => ?_
  subst he
  exact ⟨_, rfl, law_done hW' rfl (by kernel_rfl) (fun t ht => by rw [Try.params6] at ht; simp at ht; first | (subst ht; exact fineL)) rfl hb⟩
theorem isThin_over : Rows.fnExactIsThinRow.holds Try.pinned (OpenSpec.ofChange Rows.fnExactIsThinSpec) :=
  OpenClaim.holds_of_wide 6 Try.f6 rfl rfl rfl rfl rfl rfl rfl ⟨rfl, rfl, rfl, rfl, rfl⟩ rfl rfl rfl rfl rfl (by kernel_rfl) Try.func6 (by kernel_rfl)
    (of_decide_eq_true (by kernel_rfl)) (by unfold Func.isWrapper; rw [if_neg (of_decide_eq_false (by kernel_rfl))]; exact ⟨rfl, rfl⟩)
    (fun os started H enc _ => isThin_lifted os started H enc)
theorem isThin_proved : Rows.FnExactIsThinSaid := isThin_over
end Go.Proofs.Ytheddoinnakneaa
