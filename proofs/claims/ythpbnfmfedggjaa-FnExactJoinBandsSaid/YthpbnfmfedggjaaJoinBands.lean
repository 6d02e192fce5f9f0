/- The law FnExactJoinBands returns true at every two lists of points, whatever their lengths and numbers, and changes nothing: the program tells the band of the pegs of two lists together as its model does, fails where it does, and its answer owns its memory. -/
import Derived.Test.YthpbnfmfedggjaaJe
import Derived.Test.YthpbnfmfedggjaaLw
import Derived.Test.YthpbnfmfedggjaaZ
namespace Go.Proofs.Ythpbnfmfedggjaa
open Go.ChangeShapes Go.WideShapes Go.ChangeAt Go.RowKit Go.Joins
set_option linter.unusedVariables false
set_option linter.unusedSimpArgs false
set_option maxRecDepth 4000
theorem fineL : Try.prog.readableRec 22 = true ∧ 22 < Try.prog.types.size := ⟨by kernel_rfl, of_decide_eq_true (by kernel_rfl)⟩
theorem law_mark2 (l : List (Int × Int)) (k : Int) (h1 : 1 ≤ k) (h2 : k ≤ 3000000) (hl : l.length ≤ 1048576) (W : World) (g c : Nat) (h : Set W g l.length l.length l) :
    Calls Try.prog 22 #[.slice (some ⟨g, 0, none⟩) l.length c, .int .i64 k] W fun e w' => e = .returned (.int .i64 (k + 2 * (l.length : Int))) ∧ Only g (g + 1) W w' :=
  (markPegS_any _ c l.length k g (g + 1) (pt l) W hl h1 (by omega) (rw_of_set h)).mono fun e w' hh => ⟨hh.1, hh.2.1⟩
theorem set_only2 {w W : World} {g n k lo : Nat} {l : List (Int × Int)} (h : Set w g n k l) (ho : Only lo (lo + 1) w W) (hg : lo < g) : Set W g n k l := by
  obtain ⟨h1, h2, h3⟩ := h
  have hc : ∀ o, W.cell? ⟨g, o, none⟩ = w.cell? ⟨g, o, none⟩ := fun o => World.cell?_of_block (ho.block g (by omega))
  have hf : ∀ o, W.frozen? ⟨g, o, none⟩ = w.frozen? ⟨g, o, none⟩ := fun o => World.frozen?_of_block (ho.block g (by omega))
  refine ⟨by have := ho.size; omega, fun i hi => ?_, fun i p hi e => ?_⟩
  · obtain ⟨a, b, c, d⟩ := h2 i hi
    rw [hc, hc, hf, hf]; exact ⟨a, b, c, d⟩
  · rw [hc, hc]; exact h3 i p hi e
set_option maxHeartbeats 4000000 in
theorem joinBands_walk (A : Option Addr) (c : Nat) (l : List (Int × Int)) (A' : Option Addr) (c' : Nat) (r : List (Int × Int)) (w : World) (hcap : l.length ≤ c) (hc2 : c ≤ 9223372036854775807) (hR : Rd w w.heap.size A l) (hcap' : r.length ≤ c') (hc2' : c' ≤ 9223372036854775807) (hR' : Rd w w.heap.size A' r) :
    Calls Try.prog 8 #[.slice A l.length c, .slice A' r.length c'] w fun e w' => e = .returned (.bool true) ∧ Below w.heap.size w w' := by
  have K0 := Lib.hid (szPegS_any A l.length c 1048576 w (by omega) (by omega) (by omega))
  by_cases hbig : 1048576 < l.length
  · rw [if_pos (by omega)] at K0
    clear hR hR'
    go_enter Try.func8, Try.ntmps8
    go_wp2_with fail
    refine K0.out.mono ?_; rintro e _ ⟨rfl, rfl⟩
    go_wp2_with fail
    go_ret
    exact ⟨rfl, Below.refl _ _⟩
  rw [if_neg (by omega)] at K0
  have K1 := Lib.hid (szPegS_any A' r.length c' (1048576 - (l.length : Int)) w (by omega) (by omega) (by omega))
  have hle : l.length ≤ 1048576 := by omega
  have hz : (0 : Int) ≤ 1048576 - (l.length : Int) := by omega
  by_cases hbig2 : (1048576 : Int) - l.length < r.length
  · rw [if_pos (by omega)] at K1
    clear hR hR' hbig hbig2
    go_enter Try.func8, Try.ntmps8
    go_wp2_with fail
    refine K0.out.mono ?_; rintro e _ ⟨rfl, rfl⟩
    go_wp2_with fail
    refine K1.out.mono ?_; rintro e _ ⟨rfl, rfl⟩
    go_wp2_with fail
    go_ret
    exact ⟨rfl, Below.refl _ _⟩
  · rw [if_neg (by omega)] at K1
    have hle' : r.length ≤ 1048576 := by omega
    have hz2 : (0 : Int) ≤ 1048576 - (l.length : Int) - (r.length : Int) := by omega
    have hm : (sel (joB l r) (band (joinL l r))).length ≤ 1048576 := by exact jo_le l r
    have KT := Lib.hid (fun W (hb : Below w.heap.size w W) => toPegS_any A c l W hle (rd_more (rd_below hR hb (Nat.le_refl _)) hb.size))
    have KU := Lib.hid (fun W (hb : Below w.heap.size w W) => toPegS_any A' c' r W hle' (rd_more (rd_below hR' hb (Nat.le_refl _)) hb.size))
    have KS := Lib.hid (fun W g g' (h : Set W g l.length l.length l) (h' : Set W g' r.length r.length r) => (specJoinBands_any (some ⟨g, 0, none⟩) l.length l (some ⟨g', 0, none⟩) r.length r W hle (Nat.le_refl _) (by omega) (rd_of_set h) hle' (Nat.le_refl _) (by omega) (rd_of_set h')).mono fun e w' hh => retN_of_L hh)
    have KI := Lib.hid (fun W g g' (h : Set W g l.length l.length l) (h' : Set W g' r.length r.length r) => (implJoinBands_any (some ⟨g, 0, none⟩) l.length l (some ⟨g', 0, none⟩) r.length r W hle (Nat.le_refl _) (by omega) (rd_of_set h) hle' (Nat.le_refl _) (by omega) (rd_of_set h')).mono fun e w' hh => retN_of_L hh)
    have KE := Lib.hid (fun W => law_eq (sel (joB l r) (band (joinL l r))) hm W)
    have KX := Lib.hid (fun W => law_eqX l hle W)
    have KY := Lib.hid (fun W => law_eqX r hle' W)
    have KM := Lib.hid (fun W => law_mark l hle W)
    have KM2 := Lib.hid (fun W => law_mark2 r (1 + 2 * (l.length : Int)) (by omega) (by omega) hle' W)
    have KN := Lib.hid (fun W lo B A c h => markPegS_any A c (sel (joB l r) (band (joinL l r))).length 1 lo B (pt (sel (joB l r) (band (joinL l r)))) W hm (by omega) (by omega) h)
    have KH := Lib.hid (fun W lo B A c h => heldPegS_any A c (sel (joB l r) (band (joinL l r))).length 1 lo B W hm (by omega) (by omega) h)
    clear hR hR' hbig hbig2
    generalize pt (sel (joB l r) (band (joinL l r))) = F at *
    generalize (sel (joB l r) (band (joinL l r))).length = p at *
    generalize (joB l r) = b at *
    go_enter Try.func8, Try.ntmps8
    go_wp2_with fail
    refine K0.out.mono ?_; rintro e _ ⟨rfl, rfl⟩
    go_wp2_with fail
    refine K1.out.mono ?_; rintro e _ ⟨rfl, rfl⟩
    go_wp2_with fail
    refine (KT.out w (Below.refl _ _)).mono ?_; rintro e w0 ⟨rfl, B0, s0⟩
    go_wp2_with fail
    refine (KU.out w0 B0).mono ?_; rintro e w1 ⟨rfl, hb1, s1⟩
    have B1 := below_grow B0 hb1
    have s01 := set_below s0 hb1
    have z0 := B0.size
    clear s0 hb1
    go_wp2_with fail
    refine (KS.out w1 _ _ s01 s1).mono ?_; rintro e w2 ⟨AS, cS, rfl, hb2, rS⟩
    have B2 := below_grow B1 hb2
    have z1 := B1.size
    have z2 := hb2.size
    have RS := Lib.hid rS
    clear s1 s01 hb2 rS B1 B0
    go_wp2_with fail
    refine (KT.out w2 B2).mono ?_; rintro e w3a ⟨rfl, hb3a, s3a⟩
    have B3a := below_grow B2 hb3a
    have z3a := s3a.1
    have RS3a := Lib.hid (rw_below RS.out hb3a (Nat.le_refl _))
    clear hb3a B2 RS
    go_wp2_with fail
    refine (KU.out w3a B3a).mono ?_; rintro e w3 ⟨rfl, hb3, s3⟩
    have B3 := below_grow B3a hb3
    have z3 := s3.1
    have z3b := hb3.size
    have SX := Lib.hid (set_below s3a hb3)
    have SY := Lib.hid s3
    have RS3 := Lib.hid (rw_below RS3a.out hb3 (by omega))
    clear s3 s3a hb3 B3a RS3a
    obtain ⟨gx, hgx⟩ : ∃ gx, gx = w2.heap.size := ⟨_, rfl⟩
    obtain ⟨gy, hgy⟩ : ∃ gy, gy = w3a.heap.size := ⟨_, rfl⟩
    obtain ⟨lS, hlS⟩ : ∃ x, x = w1.heap.size := ⟨_, rfl⟩
    rw [← hgx] at SX RS3 z3a z2 ⊢
    rw [← hgy] at SY z3a z3 z3b ⊢
    rw [← hlS] at RS3 z1 z2
    clear hgx hlS hgy
    go_wp2_with fail
    refine (KI.out w3 gx gy SX.out SY.out).mono ?_; rintro e w4 ⟨AG, cG, rfl, hb4, rG⟩
    have B4 := below_grow B3 hb4
    have z4 := hb4.size
    have RG := Lib.hid rG
    have SX4 := Lib.hid (set_below SX.out hb4)
    have SY4 := Lib.hid (set_below SY.out hb4)
    have RS4 := Lib.hid (rw_below RS3.out hb4 (by omega))
    clear hb4 rG B3 SX SY RS3
    obtain ⟨lG, hlG⟩ : ∃ x, x = w3.heap.size := ⟨_, rfl⟩
    obtain ⟨uG, huG⟩ : ∃ x, x = w4.heap.size := ⟨_, rfl⟩
    rw [← hlG, ← huG] at RG
    rw [← hlG] at z3 z3b z4
    rw [← huG] at z4
    have y4 : uG ≤ w4.heap.size := by omega
    have y5 : gx ≤ w4.heap.size := by omega
    clear huG hlG
    go_wp2_with fail
    refine (KE.out w4 _ _ _ _ _ _ _ _ RG.out y4 RS4.out y5).mono ?_; rintro e w5 ⟨rfl, hb5⟩
    have B5 := below_grow B4 hb5
    have RG5 := Lib.hid (rw_below RG.out hb5 y4)
    have RS5 := Lib.hid (rw_below RS4.out hb5 y5)
    have SX5 := Lib.hid (set_below SX4.out hb5)
    have SY5 := Lib.hid (set_below SY4.out hb5)
    have y6 := hb5.size
    clear hb5 B4 RG RS4 SX4 SY4
    go_wp2_with fail
    refine (KT.out w5 B5).mono ?_; rintro e w6 ⟨rfl, hb6, s6⟩
    have B6 := below_grow B5 hb6
    have RG6 := Lib.hid (rw_below RG5.out hb6 (by omega))
    have RS6 := Lib.hid (rw_below RS5.out hb6 (by omega))
    have SX6 := Lib.hid (set_below SX5.out hb6)
    have SY6 := Lib.hid (set_below SY5.out hb6)
    have ST6 := Lib.hid s6
    have y7 := hb6.size
    clear hb6 B5 RG5 RS5 SX5 SY5 s6
    go_wp2_with fail
    refine (KX.out w6 _ _ _ _ SX6.out ST6.out).mono ?_; rintro e w7a ⟨rfl, hb7a⟩
    have B7a := below_grow B6 hb7a
    have RG7a := Lib.hid (rw_below RG6.out hb7a (by omega))
    have RS7a := Lib.hid (rw_below RS6.out hb7a (by omega))
    have SX7a := Lib.hid (set_below SX6.out hb7a)
    have SY7a := Lib.hid (set_below SY6.out hb7a)
    have y8a := hb7a.size
    clear hb7a B6 RG6 RS6 SX6 SY6 ST6
    go_wp2_with fail
    refine (KU.out w7a B7a).mono ?_; rintro e w7b ⟨rfl, hb7b, s7b⟩
    have B7b := below_grow B7a hb7b
    have RG7b := Lib.hid (rw_below RG7a.out hb7b (by omega))
    have RS7b := Lib.hid (rw_below RS7a.out hb7b (by omega))
    have SX7b := Lib.hid (set_below SX7a.out hb7b)
    have SY7b := Lib.hid (set_below SY7a.out hb7b)
    have ST7b := Lib.hid s7b
    have y8b := hb7b.size
    clear hb7b B7a RG7a RS7a SX7a SY7a s7b
    go_wp2_with fail
    refine (KY.out w7b _ _ _ _ SY7b.out ST7b.out).mono ?_; rintro e w7 ⟨rfl, hb7⟩
    have B7 := below_grow B7b hb7
    have RG7 := Lib.hid (rw_below RG7b.out hb7 (by omega))
    have RS7 := Lib.hid (rw_below RS7b.out hb7 (by omega))
    have SX7 := Lib.hid (set_below SX7b.out hb7)
    have SY7 := Lib.hid (set_below SY7b.out hb7)
    have y8 := hb7.size
    clear hb7 B7b RG7b RS7b SX7b SY7b ST7b
    go_wp2_with fail
    refine (KM.out w7 gx _ SX7.out).mono ?_; rintro e w8a ⟨rfl, ho8a⟩
    have B8a := only_grow B7 ho8a (by omega)
    have RG8a := Lib.hid (rw_only RG7.out ho8a (by omega))
    have RS8a := Lib.hid (rw_only RS7.out ho8a (by omega))
    have SY8a := Lib.hid (set_only2 SY7.out ho8a (by omega))
    have y9a := Nat.le_of_eq ho8a.size.symm
    clear ho8a B7 RG7 RS7 SX7 SY7
    go_wp2_with fail
    refine (KM2.out w8a gy _ SY8a.out).mono ?_; rintro e w8 ⟨rfl, ho8⟩
    have B8 := only_grow B8a ho8 (by omega)
    have RG8 := Lib.hid (rw_only RG8a.out ho8 (by omega))
    have RS8 := Lib.hid (rw_only RS8a.out ho8 (by omega))
    have y9 := Nat.le_of_eq ho8.size.symm
    clear ho8 B8a RG8a RS8a SY8a
    go_wp2_with fail
    refine (KE.out w8 _ _ _ _ _ _ _ _ RG8.out (by omega) RS8.out (by omega)).mono ?_; rintro e w9 ⟨rfl, hb9⟩
    have B9 := below_grow B8 hb9
    have RG9 := Lib.hid (rw_below RG8.out hb9 (by omega))
    have RS9 := Lib.hid (rw_below RS8.out hb9 (by omega))
    have y10 := hb9.size
    clear hb9 B8 RG8 RS8
    go_wp2_with fail
    refine (KN.out w9 _ _ _ _ RG9.out).mono ?_; rintro e w10 ⟨rfl, ho10, rG10⟩
    have B10 := only_grow B9 ho10 (by omega)
    have RG10 := Lib.hid rG10
    have RS10 := Lib.hid (rw_only RS9.out ho10 (by omega))
    have y11 := Nat.le_of_eq ho10.size.symm
    clear ho10 B9 RG9 RS9 rG10
    go_wp2_with fail
    refine (KH.out w10 _ _ _ _ RG10.out).mono ?_; rintro e _ ⟨rfl, rfl⟩
    go_wp2_with fail
    refine (KT.out w10 B10).mono ?_; rintro e w11a ⟨rfl, hb11a, s11a⟩
    have B11a := below_grow B10 hb11a
    have RG11a := Lib.hid (rw_below RG10.out hb11a (by omega))
    have RS11a := Lib.hid (rw_below RS10.out hb11a (by omega))
    have y12a := hb11a.size
    clear hb11a B10 RG10 RS10
    go_wp2_with fail
    refine (KU.out w11a B11a).mono ?_; rintro e w11 ⟨rfl, hb11, s11⟩
    have B11 := below_grow B11a hb11
    have RG11 := Lib.hid (rw_below RG11a.out hb11 (by omega))
    have RS11 := Lib.hid (rw_below RS11a.out hb11 (by omega))
    have ST11a := Lib.hid (set_below s11a hb11)
    have ST11 := Lib.hid s11
    have y12 := hb11.size
    clear hb11 B11a RG11a RS11a s11 s11a
    go_wp2_with fail
    refine (KI.out w11 _ _ ST11a.out ST11.out).mono ?_; rintro e w12 ⟨AH, cH, rfl, hb12, rH⟩
    have B12 := below_grow B11 hb12
    have RG12 := Lib.hid (rw_below RG11.out hb12 (by omega))
    have RS12 := Lib.hid (rw_below RS11.out hb12 (by omega))
    have RH := Lib.hid rH
    have y13 := hb12.size
    clear hb12 B11 RG11 RS11 rH ST11 ST11a
    go_wp2_with fail
    refine (KE.out w12 _ _ _ _ _ _ _ _ RH.out (by omega) RS12.out (by omega)).mono ?_; rintro e w13 ⟨rfl, hb13⟩
    have B13 := below_grow B12 hb13
    have RG13 := Lib.hid (rw_below RG12.out hb13 (by omega))
    clear hb13 B12 RG12 RS12 RH
    go_wp2_with fail
    refine (KH.out w13 _ _ _ _ RG13.out).mono ?_; rintro e _ ⟨rfl, rfl⟩
    go_wp2_with fail
    go_ret
    exact ⟨rfl, B13⟩
set_option maxRecDepth 100000 in
theorem joinBands_lifted (os : Os) (started : os.Started) (H : Type) (enc : TypeId × Value → H) :
    ReturnsInHanded {} Try.checked os 8 .any (Rows.fnExactJoinBandsSpec.pre6 enc Try.prog Try.f8 Rows.fnExactJoinBandsRow.domain false) (Rows.fnExactJoinBandsSpec.post enc Try.prog Try.f8 false true false false) := by
  refine returnsInHanded_of_change (C := Try.checked) own started (by kernel_rfl) Try.func8
    (ChangeSpec.witness6 (enc := enc) (C := Try.checked) false ⟨#[], #[.slice none 0 0, .slice none 0 0], []⟩ 8 (by kernel_rfl) (by kernel_rfl) (by kernel_rfl) (by kernel_rfl)) ?_
  intro W base args ds gs before hval0 hW hcnd _
  have hval : ∀ (j : Nat) t v, Try.f8.params[j]? = some t → args[j]? = some v → Value.okWide Try.prog W .any base t v := hval0
  have hW' := hW
  obtain ⟨p, q, hA0, hV, rfl, hfz, hnd⟩ := hW
  have hA : DataW.TrodAll enc Try.prog W 0 (fun _ => true) true Try.f8.params.toList args.toList ds p := hA0
  rw [Try.params8] at hA hval
  obtain ⟨v0, vs0, d0, ds0, p0, q0, hargs, rfl, rfl, h0, r0⟩ := trodAll_cons hA
  obtain ⟨v1, vs1, d1, ds1, p1, q1, rfl, rfl, rfl, h1, r1⟩ := trodAll_cons r0
  obtain ⟨rfl, rfl, rfl⟩ := trodAll_nil r1
  obtain rfl : args = #[v0, v1] := by cases args; simp_all
  obtain ⟨A0, c0, l0, rfl, hlc0, hcm0, hR0⟩ := open_pegs (hval 0 22 v0 rfl rfl) h0
  unfold maxLen at hcm0
  obtain ⟨A1, c1, l1, rfl, hlc1, hcm1, hR1⟩ := open_pegs (hval 1 22 v1 rfl rfl) h1
  unfold maxLen at hcm1
  refine (joinBands_walk A0 c0 l0 A1 c1 l1 W hlc0 hcm0 hR0 hlc1 hcm1 hR1).mono fun e W' ⟨he, hb⟩ => ?_
  subst he
  exact ⟨_, rfl, law_done hW' rfl (by kernel_rfl) (fun t ht => by rw [Try.params8] at ht; simp at ht; first | (subst ht; exact fineL)) rfl hb⟩
theorem joinBands_over : Rows.fnExactJoinBandsRow.holds Try.pinned (OpenSpec.ofChange Rows.fnExactJoinBandsSpec) :=
  OpenClaim.holds_of_wide 8 Try.f8 rfl rfl rfl rfl rfl rfl rfl ⟨rfl, rfl, rfl, rfl, rfl⟩ rfl rfl rfl rfl rfl (by kernel_rfl) Try.func8 (by kernel_rfl)
    (of_decide_eq_true (by kernel_rfl)) (by unfold Func.isWrapper; rw [if_neg (of_decide_eq_false (by kernel_rfl))]; exact ⟨rfl, rfl⟩)
    (fun os started H enc _ => joinBands_lifted os started H enc)
theorem joinBands_proved : Rows.FnExactJoinBandsSaid := joinBands_over
end Go.Proofs.Ythpbnfmfedggjaa
