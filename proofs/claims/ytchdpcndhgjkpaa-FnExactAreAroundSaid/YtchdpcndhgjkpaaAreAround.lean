/- The law FnExactAreAround returns true at every list of numbers, whatever its length and numbers, and changes nothing: the program tells whether a list is around as its model does. -/
import Derived.Test.YtchdpcndhgjkpaaRi7
import Derived.Test.YtchdpcndhgjkpaaCiM
import Derived.Test.YtchdpcndhgjkpaaZ
namespace Go.Proofs.Ytchdpcndhgjkpaa
open Go.ChangeShapes Go.WideShapes Go.ChangeAt Go.RowKit Go.Joins
set_option linter.unusedVariables false
set_option linter.unusedSimpArgs false
set_option maxRecDepth 4000
theorem fineI : Try.prog.readableRec 34 = true ∧ 34 < Try.prog.types.size := ⟨by kernel_rfl, of_decide_eq_true (by kernel_rfl)⟩
theorem rwi_below' {w w' : World} {lo B n : Nat} {A : Option Addr} {f : Nat → Int} (h : RwI w lo B A n f) (hb : Below w.heap.size w w') (hB : B ≤ w.heap.size) : RwI w' lo B A n f := rwi_block h (fun k _ hk => hb.block k (by omega))
set_option maxHeartbeats 1000000 in
theorem areAround_walk (A : Option Addr) (c n : Nat) (f : Nat → Int) (w : World) (hcap : n ≤ c) (hc2 : c ≤ 9223372036854775807) (hR : RdI w w.heap.size A n f) :
    Calls Try.prog 8 #[.slice A n c] w fun e w' => e = .returned (.bool true) ∧ Below w.heap.size w w' := by
  by_cases hbig : 1048576 < n
  · have hbi : (1048576 : Int) < (n : Int) := by omega
    clear hR
    go_enter Try.func8, Try.ntmps8
    go_wp2_with fail
    go_ret
    exact ⟨rfl, Below.refl _ _⟩
  · have hni : ¬ (1048576 : Int) < (n : Int) := by omega
    have hle : n ≤ 1048576 := by omega
    have KT := Lib.hid (fun W (hb : Below w.heap.size w W) => toIntS_any A c n f W hle (rdi_below hR hb (Nat.le_refl _)))
    have KS := Lib.hid (fun W g lo (h : RwI W lo W.heap.size (some ⟨g, 0, none⟩) n f) => specAreAround_any (some ⟨g, 0, none⟩) n n f W hle (rdi_of_rw h (Nat.le_refl _)))
    have KI := Lib.hid (fun W g lo (h : RwI W lo W.heap.size (some ⟨g, 0, none⟩) n f) => implAreAround_any (some ⟨g, 0, none⟩) n n f W hle (rdi_of_rw h (Nat.le_refl _)))
    have KE := Lib.hid (fun W A A' lo B lo' B' (h : RwI W lo B A n f) hB (h' : RwI W lo' B' A' n f) hB' => eqIntS_same A A' n n n lo B lo' B' f W hle h hB h' hB')
    clear hR hbig
    generalize arB2 f n = gg0 at *
    generalize numB f n = gg1 at *
    go_enter Try.func8, Try.ntmps8
    go_wp2_with fail
    refine (KT.out w (Below.refl _ _)).mono ?_; rintro e w1 ⟨rfl, hb1, hs1⟩
    go_wp2_with fail
    refine (KS.out w1 _ _ hs1).mono ?_; rintro e w2 ⟨rfl, hb2⟩
    have B2 : Below w.heap.size w w2 := hb1.trans (hb2.mono hb1.size)
    clear hb1 hs1 hb2
    go_wp2_with fail
    refine (KT.out w2 B2).mono ?_; rintro e w3 ⟨rfl, hb3, hs3⟩
    have B3 : Below w.heap.size w w3 := B2.trans (hb3.mono B2.size)
    generalize w2.heap.size = g at *
    clear hb3 B2
    go_wp2_with fail
    refine (KI.out w3 _ _ hs3).mono ?_; rintro e w4 ⟨rfl, hb4⟩
    have B4 : Below w.heap.size w w4 := B3.trans (hb4.mono B3.size)
    have hs4 := rwi_below' hs3 hb4 (Nat.le_refl _)
    have z34 := hb4.size
    generalize w3.heap.size = u3 at *
    clear hb4 B3 hs3
    go_wp2_with fail
    refine (KT.out w4 B4).mono ?_; rintro e w5 ⟨rfl, hb5, hs5⟩
    have B5 : Below w.heap.size w w5 := B4.trans (hb5.mono B4.size)
    have hs6 := rwi_below' hs4 hb5 z34
    have z45 := hb5.size
    generalize w4.heap.size = g' at *
    clear hb5 B4 hs4
    go_wp2_with fail
    refine (KE.out w5 _ _ _ _ _ _ hs6 (by omega) hs5 (Nat.le_refl _)).mono ?_; rintro e w6 ⟨rfl, hb6⟩
    have B6 : Below w.heap.size w w6 := B5.trans (hb6.mono B5.size)
    go_wp2_with fail
    go_ret
    exact ⟨rfl, B6⟩
set_option maxRecDepth 100000 in
theorem areAround_lifted (os : Os) (started : os.Started) (H : Type) (enc : TypeId × Value → H) :
    ReturnsInHanded {} Try.checked os 8 .any (Rows.fnExactAreAroundSpec.pre6 enc Try.prog Try.f8 Rows.fnExactAreAroundRow.domain false) (Rows.fnExactAreAroundSpec.post enc Try.prog Try.f8 false true false false) := by
  refine returnsInHanded_of_change (C := Try.checked) own started (by kernel_rfl) Try.func8
    (ChangeSpec.witness6 (enc := enc) (C := Try.checked) false ⟨#[], #[.slice none 0 0], []⟩ 8 (by kernel_rfl) (by kernel_rfl) (by kernel_rfl) (by kernel_rfl)) ?_
  intro W base args ds gs before hval0 hW hcnd _
  have hval : ∀ (j : Nat) t v, Try.f8.params[j]? = some t → args[j]? = some v → Value.okWide Try.prog W .any base t v := hval0
  have hW' := hW
  obtain ⟨p, q, hA0, hV, rfl, hfz, hnd⟩ := hW
  have hA : DataW.TrodAll enc Try.prog W 0 (fun _ => true) true Try.f8.params.toList args.toList ds p := hA0
  rw [Try.params8] at hA hval
  obtain ⟨v0, vs0, d0, ds0, p0, q0, hargs, rfl, rfl, h0, r0⟩ := trodAll_cons hA
  obtain ⟨rfl, rfl, rfl⟩ := trodAll_nil r0
  obtain rfl : args = #[v0] := by cases args; simp_all
  obtain ⟨A0, c0, n0, f0, rfl, hlc0, hcm0, hR0⟩ := open_numbers (hval 0 34 v0 rfl rfl) h0
  unfold maxLen at hcm0
  refine (areAround_walk A0 c0 n0 f0 W hlc0 hcm0 hR0).mono fun e W' ⟨he, hb⟩ => ?_
  subst he
  exact ⟨_, rfl, law_done hW' rfl (by kernel_rfl) (fun t ht => by rw [Try.params8] at ht; simp at ht; first | (subst ht; exact fineI)) rfl hb⟩
theorem areAround_over : Rows.fnExactAreAroundRow.holds Try.pinned (OpenSpec.ofChange Rows.fnExactAreAroundSpec) :=
  OpenClaim.holds_of_wide 8 Try.f8 rfl rfl rfl rfl rfl rfl rfl ⟨rfl, rfl, rfl, rfl, rfl⟩ rfl rfl rfl rfl rfl (by kernel_rfl) Try.func8 (by kernel_rfl)
    (of_decide_eq_true (by kernel_rfl)) (by unfold Func.isWrapper; rw [if_neg (of_decide_eq_false (by kernel_rfl))]; exact ⟨rfl, rfl⟩)
    (fun os started H enc _ => areAround_lifted os started H enc)
theorem areAround_proved : Rows.FnExactAreAroundSaid := areAround_over
end Go.Proofs.Ytchdpcndhgjkpaa
