/- The law FnExactPutPeg returns true at every list of numbers, whatever its length and numbers, and any number, and changes nothing: the program puts a 1 into a list as its model does, in new memory. -/
import Derived.Test.YtacabmbajadbgaaPu5
import Derived.Test.YtacabmbajadbgaaLx
import Derived.Test.YtacabmbajadbgaaZ
namespace Go.Proofs.Ytacabmbajadbgaa
open Go.ChangeShapes Go.WideShapes Go.ChangeAt Go.RowKit Go.Joins
set_option linter.unusedVariables false
set_option linter.unusedSimpArgs false
set_option maxRecDepth 4000
theorem fineL : Try.prog.readableRec 41 = true ∧ 41 < Try.prog.types.size := ⟨by kernel_rfl, of_decide_eq_true (by kernel_rfl)⟩
theorem fine3 : Try.prog.readableRec 3 = true ∧ 3 < Try.prog.types.size := ⟨by kernel_rfl, of_decide_eq_true (by kernel_rfl)⟩
theorem pu_le (n : Nat) (f : Nat → Int) (u : Int) (hn : n ≤ 1048576) : puN f n u ≤ 1048576 := by
  unfold puN
  split
  · next h =>
    have := (numB_T (f := f) (n := n) (by unfold puB at h; simp at h; exact h.1)).2.1
    omega
  · omega
set_option maxHeartbeats 2000000 in
theorem putPeg_walk (A : Option Addr) (c n : Nat) (f : Nat → Int) (u : Int) (w : World) (hcap : n ≤ c) (hc2 : c ≤ 9223372036854775807) (hR : RdI w w.heap.size A n f) :
    Calls Try.prog 11 #[.slice A n c, .int .i64 u] w fun e w' => e = .returned (.bool true) ∧ Below w.heap.size w w' := by
  by_cases hbig : 1048576 < n
  · have hbi : (1048576 : Int) < (n : Int) := by omega
    clear hR
    go_enter Try.func11, Try.ntmps11
    go_wp2_with fail
    go_ret
    exact ⟨rfl, Below.refl _ _⟩
  · have hni : ¬ (1048576 : Int) < (n : Int) := by omega
    have hle : n ≤ 1048576 := by omega
    have hm : (puN f n u) ≤ 1048576 := by exact pu_le n f u hle
    have KT := Lib.hid (fun W (hb : Below w.heap.size w W) => toIntS_full A c n f W hle (rdi_below hR hb (Nat.le_refl _)))
    have KS := Lib.hid (fun W g (h : Nis W g n f) => specPutPeg_any (some ⟨g, 0, none⟩) n n f u W hle rfl (nis_rd h))
    have KI := Lib.hid (fun W g (h : Nis W g n f) => implPutPeg_any (some ⟨g, 0, none⟩) n n f u W hle (nis_rd h))
    have KE := Lib.hid (fun W lo B lo' B' c c' A A' h hB h' hB' => eqIntS_same A A' c c' (puN f n u) lo B lo' B' (puF f n u.toNat) W hm h hB h' hB')
    have KX := Lib.hid (fun W g g' c c' (h : Nis W g n f) (h' : Nis W g' n f) => nis_eq c c' hle h h')
    have KM := Lib.hid (fun W g c (h : Nis W g n f) => nis_mark c hle h)
    have KN := Lib.hid (fun W lo B A c h => markIntS_any A c (puN f n u) 1 lo B (puF f n u.toNat) W hm (by omega) (by omega) h)
    have KH := Lib.hid (fun W lo B A c h => heldIntS_any A c (puN f n u) 1 lo B W hm (by omega) (by omega) h)
    clear hR hbig
    generalize (puF f n u.toNat) = F at *
    generalize (puN f n u) = p at *
    generalize (puB f n u) = b at *
    go_enter Try.func11, Try.ntmps11
    go_wp2_with fail
    refine (KT.out w (Below.refl _ _)).mono ?_; rintro e w1 ⟨rfl, B1, s1⟩
    go_wp2_with fail
    refine (KS.out w1 _ s1).mono ?_; rintro e w2 ⟨AS, cS, rfl, hb2, rS⟩
    have B2 := below_grow B1 hb2
    have z1 := B1.size
    have z2 := hb2.size
    have RS := Lib.hid rS
    clear s1 hb2 rS B1
    go_wp2_with fail
    refine (KT.out w2 B2).mono ?_; rintro e w3 ⟨rfl, hb3, s3⟩
    have B3 := below_grow B2 hb3
    have z3 := s3.1
    have SX := Lib.hid s3
    have RS3 := Lib.hid (rwi_below RS.out hb3 (Nat.le_refl _))
    clear s3 hb3 B2 RS
    obtain ⟨gx, hgx⟩ : ∃ gx, gx = w2.heap.size := ⟨_, rfl⟩
    obtain ⟨lS, hlS⟩ : ∃ x, x = w1.heap.size := ⟨_, rfl⟩
    rw [← hgx] at SX RS3 z3 z2 ⊢
    rw [← hlS] at RS3 z1 z2
    clear hgx hlS
    go_wp2_with fail
    refine (KI.out w3 gx SX.out).mono ?_; rintro e w4 ⟨AG, cG, rfl, hb4, rG⟩
    have B4 := below_grow B3 hb4
    have z4 := hb4.size
    have RG := Lib.hid rG
    have SX4 := Lib.hid (nis_below SX.out hb4)
    have RS4 := Lib.hid (rwi_below RS3.out hb4 (by omega))
    clear hb4 rG B3 SX RS3
    obtain ⟨lG, hlG⟩ : ∃ x, x = w3.heap.size := ⟨_, rfl⟩
    obtain ⟨uG, huG⟩ : ∃ x, x = w4.heap.size := ⟨_, rfl⟩
    rw [← hlG, ← huG] at RG
    rw [← hlG] at z3 z4
    rw [← huG] at z4
    have y4 : uG ≤ w4.heap.size := by omega
    have y5 : gx ≤ w4.heap.size := by omega
    clear huG hlG
    go_wp2_with fail
    refine (KE.out w4 _ _ _ _ _ _ _ _ RG.out y4 RS4.out y5).mono ?_; rintro e w5 ⟨rfl, hb5⟩
    have B5 := below_grow B4 hb5
    have RG5 := Lib.hid (rwi_below RG.out hb5 y4)
    have RS5 := Lib.hid (rwi_below RS4.out hb5 y5)
    have SX5 := Lib.hid (nis_below SX4.out hb5)
    have y6 := hb5.size
    clear hb5 B4 RG RS4 SX4
    go_wp2_with fail
    refine (KT.out w5 B5).mono ?_; rintro e w6 ⟨rfl, hb6, s6⟩
    have B6 := below_grow B5 hb6
    have RG6 := Lib.hid (rwi_below RG5.out hb6 (by omega))
    have RS6 := Lib.hid (rwi_below RS5.out hb6 (by omega))
    have SX6 := Lib.hid (nis_below SX5.out hb6)
    have ST6 := Lib.hid s6
    have y7 := hb6.size
    clear hb6 B5 RG5 RS5 SX5 s6
    go_wp2_with fail
    refine (KX.out w6 _ _ _ _ SX6.out ST6.out).mono ?_; rintro e w7 ⟨rfl, hb7⟩
    have B7 := below_grow B6 hb7
    have RG7 := Lib.hid (rwi_below RG6.out hb7 (by omega))
    have RS7 := Lib.hid (rwi_below RS6.out hb7 (by omega))
    have SX7 := Lib.hid (nis_below SX6.out hb7)
    have y8 := hb7.size
    clear hb7 B6 RG6 RS6 SX6 ST6
    go_wp2_with fail
    refine (KM.out w7 gx _ SX7.out).mono ?_; rintro e w8 ⟨rfl, ho8⟩
    have B8 := only_grow B7 ho8 (by omega)
    have RG8 := Lib.hid (rwi_only RG7.out ho8 (by omega))
    have RS8 := Lib.hid (rwi_only RS7.out ho8 (by omega))
    have y9 := Nat.le_of_eq ho8.size.symm
    clear ho8 B7 RG7 RS7 SX7
    go_wp2_with fail
    refine (KE.out w8 _ _ _ _ _ _ _ _ RG8.out (by omega) RS8.out (by omega)).mono ?_; rintro e w9 ⟨rfl, hb9⟩
    have B9 := below_grow B8 hb9
    have RG9 := Lib.hid (rwi_below RG8.out hb9 (by omega))
    have RS9 := Lib.hid (rwi_below RS8.out hb9 (by omega))
    have y10 := hb9.size
    clear hb9 B8 RG8 RS8
    go_wp2_with fail
    refine (KN.out w9 _ _ _ _ RG9.out).mono ?_; rintro e w10 ⟨rfl, ho10, rG10⟩
    have B10 := only_grow B9 ho10 (by omega)
    have RG10 := Lib.hid rG10
    have RS10 := Lib.hid (rwi_only RS9.out ho10 (by omega))
    have y11 := Nat.le_of_eq ho10.size.symm
    clear ho10 B9 RG9 RS9 rG10
    go_wp2_with fail
    refine (KH.out w10 _ _ _ _ RG10.out).mono ?_; rintro e _ ⟨rfl, rfl⟩
    go_wp2_with fail
    refine (KT.out w10 B10).mono ?_; rintro e w11 ⟨rfl, hb11, s11⟩
    have B11 := below_grow B10 hb11
    have RG11 := Lib.hid (rwi_below RG10.out hb11 (by omega))
    have RS11 := Lib.hid (rwi_below RS10.out hb11 (by omega))
    have ST11 := Lib.hid s11
    have y12 := hb11.size
    clear hb11 B10 RG10 RS10 s11
    go_wp2_with fail
    refine (KI.out w11 _ ST11.out).mono ?_; rintro e w12 ⟨AH, cH, rfl, hb12, rH⟩
    have B12 := below_grow B11 hb12
    have RG12 := Lib.hid (rwi_below RG11.out hb12 (by omega))
    have RS12 := Lib.hid (rwi_below RS11.out hb12 (by omega))
    have RH := Lib.hid rH
    have y13 := hb12.size
    clear hb12 B11 RG11 RS11 rH ST11
    go_wp2_with fail
    refine (KE.out w12 _ _ _ _ _ _ _ _ RH.out (by omega) RS12.out (by omega)).mono ?_; rintro e w13 ⟨rfl, hb13⟩
    have B13 := below_grow B12 hb13
    have RG13 := Lib.hid (rwi_below RG12.out hb13 (by omega))
    clear hb13 B12 RG12 RS12 RH
    go_wp2_with fail
    refine (KH.out w13 _ _ _ _ RG13.out).mono ?_; rintro e _ ⟨rfl, rfl⟩
    go_wp2_with fail
    go_ret
    exact ⟨rfl, B13⟩
set_option maxRecDepth 100000 in
theorem putPeg_lifted (os : Os) (started : os.Started) (H : Type) (enc : TypeId × Value → H) :
    ReturnsInHanded {} Try.checked os 11 .any (Rows.fnExactPutPegSpec.pre6 enc Try.prog Try.f11 Rows.fnExactPutPegRow.domain false) (Rows.fnExactPutPegSpec.post enc Try.prog Try.f11 false true false false) := by
  refine returnsInHanded_of_change (C := Try.checked) own started (by kernel_rfl) Try.func11
    (ChangeSpec.witness6 (enc := enc) (C := Try.checked) false ⟨#[], #[.slice none 0 0, .int .i64 0], []⟩ 8 (by kernel_rfl) (by kernel_rfl) (by kernel_rfl) (by kernel_rfl)) ?_
  intro W base args ds gs before hval0 hW hcnd _
  have hval : ∀ (j : Nat) t v, Try.f11.params[j]? = some t → args[j]? = some v → Value.okWide Try.prog W .any base t v := hval0
  have hW' := hW
  obtain ⟨p, q, hA0, hV, rfl, hfz, hnd⟩ := hW
  have hA : DataW.TrodAll enc Try.prog W 0 (fun _ => true) true Try.f11.params.toList args.toList ds p := hA0
  rw [Try.params11] at hA hval
  obtain ⟨v0, vs0, d0, ds0, p0, q0, hargs, rfl, rfl, h0, r0⟩ := trodAll_cons hA
  obtain ⟨v1, vs1, d1, ds1, p1, q1, rfl, rfl, rfl, h1, r1⟩ := trodAll_cons r0
  obtain ⟨rfl, rfl, rfl⟩ := trodAll_nil r1
  obtain rfl : args = #[v0, v1] := by cases args; simp_all
  obtain ⟨A0, c0, n0, f0, rfl, hlc0, hcm0, hR0⟩ := open_numbers (hval 0 41 v0 rfl rfl) h0
  unfold maxLen at hcm0
  obtain ⟨a1, rfl, rfl, rfl, w1⟩ := open_int Try.underlying3 (hval 1 3 v1 rfl rfl) h1
  refine (putPeg_walk A0 c0 n0 f0 a1 W hlc0 hcm0 hR0).mono fun e W' ⟨he, hb⟩ => ?_
  subst he
  exact ⟨_, rfl, law_done hW' rfl (by kernel_rfl) (fun t ht => by rw [Try.params11] at ht; simp at ht; first | (rcases ht with rfl | rfl <;> first | exact fineL | exact fine3)) rfl hb⟩
theorem putPeg_over : Rows.fnExactPutPegRow.holds Try.pinned (OpenSpec.ofChange Rows.fnExactPutPegSpec) :=
  OpenClaim.holds_of_wide 11 Try.f11 rfl rfl rfl rfl rfl rfl rfl ⟨rfl, rfl, rfl, rfl, rfl⟩ rfl rfl rfl rfl rfl (by kernel_rfl) Try.func11 (by kernel_rfl)
    (of_decide_eq_true (by kernel_rfl)) (by unfold Func.isWrapper; rw [if_neg (of_decide_eq_false (by kernel_rfl))]; exact ⟨rfl, rfl⟩)
    (fun os started H enc _ => putPeg_lifted os started H enc)
theorem putPeg_proved : Rows.FnExactPutPegSaid := putPeg_over
end Go.Proofs.Ytacabmbajadbgaa
