/- contracts: straight lines of a board by their steps, the model; CountStraight on both sides -/
import Derived.Test.YtmhdbodmpohdnaaOo
import Derived.Test.YtmhdbodmpohdnaaOp
namespace Go.Proofs.Ytmhdbodmpohdnaa
open Go.ChangeShapes Go.WideShapes Go.ChangeAt Go.RowKit Go.Joins
set_option linter.unusedVariables false
set_option linter.unusedSimpArgs false
set_option maxRecDepth 4000
theorem prd_bd {x y : Int} (h1 : 0 ≤ x) (h2 : x ≤ 12) (h3 : 0 ≤ y) (h4 : y ≤ 12) : 0 ≤ x * y ∧ x * y ≤ 144 := by
  have a1 := mul_bd (x := x) (y := y) (m := 12) (n := 12) (by omega) (by omega) (by omega) (by omega)
  have a0 := Int.mul_nonneg h1 h3
  omega
theorem prk_bd {x y : Int} (h1 : 0 ≤ x) (h2 : x ≤ 12) (h3 : 0 ≤ y) (h4 : y ≤ 12) : 0 ≤ x * y ∧ x * y ≤ 144 := prd_bd h1 h2 h3 h4
theorem mx_bd {w k : Int} (h1 : w ≤ 12) (h2 : 0 ≤ k) : 0 ≤ max 0 (w - k) ∧ max 0 (w - k) ≤ 12 := by omega
theorem mx_le {w j k : Int} (h2 : j ≤ k) : max 0 (w - k) ≤ max 0 (w - j) := by omega
theorem stI_bd {w h x y p : Int} (hw : 0 ≤ w ∧ w ≤ 12) (hh : 0 ≤ h ∧ h ≤ 12) (hx : 0 ≤ x ∧ x ≤ 12) (hy : 0 ≤ y ∧ y ≤ 12) (hp : 1 ≤ p ∧ p ≤ 12) : 0 ≤ stI w h x y p ∧ stI w h x y p ≤ 288 := by
  obtain ⟨a1, a2⟩ := prk_bd (x := p - 1) (y := x) (by omega) (by omega) (by omega) (by omega)
  obtain ⟨a3, a4⟩ := prk_bd (x := p - 1) (y := y) (by omega) (by omega) (by omega) (by omega)
  obtain ⟨a5, a6⟩ := prk_bd (x := p - 1 + 1) (y := x) (by omega) (by omega) (by omega) (by omega)
  obtain ⟨a7, a8⟩ := prk_bd (x := p - 1 + 1) (y := y) (by omega) (by omega) (by omega) (by omega)
  have e1 : (p - 1 + 1) * x = (p - 1) * x + x := by rw [Int.add_mul, Int.one_mul]
  have e2 : (p - 1 + 1) * y = (p - 1) * y + y := by rw [Int.add_mul, Int.one_mul]
  obtain ⟨b1, b2⟩ := mx_bd (w := w) (k := (p - 1) * x) (by omega) a1
  obtain ⟨b3, b4⟩ := mx_bd (w := h) (k := (p - 1) * y) (by omega) a3
  obtain ⟨b5, b6⟩ := mx_bd (w := w) (k := (p - 1 + 1) * x) (by omega) a5
  obtain ⟨b7, b8⟩ := mx_bd (w := h) (k := (p - 1 + 1) * y) (by omega) a7
  have m1 := mx_le (w := w) (j := (p - 1) * x) (k := (p - 1 + 1) * x) (by omega)
  have m2 := mx_le (w := h) (j := (p - 1) * y) (k := (p - 1 + 1) * y) (by omega)
  obtain ⟨c1, c2⟩ := prd_bd b1 b2 b3 b4
  obtain ⟨c3, c4⟩ := prd_bd b5 b6 b7 b8
  have m3 := Int.mul_le_mul m1 m2 b7 b1
  unfold stI
  split <;> omega
set_option maxHeartbeats 2000000 in
theorem ctStarts_any (w h x y p : Int) (W : World) (hw : 0 ≤ w ∧ w ≤ 12) (hh : 0 ≤ h ∧ h ≤ 12) (hx : 0 ≤ x ∧ x ≤ 12) (hy : 0 ≤ y ∧ y ≤ 12) (hp : 1 ≤ p ∧ p ≤ 12) :
    Calls Try.prog 69 #[.int .i64 w, .int .i64 h, .int .i64 x, .int .i64 y, .int .i64 p] W fun e w' => e = .returned (.int .i64 (stI w h x y p)) ∧ Below W.heap.size W w' := by
  obtain ⟨a1, a2⟩ := prk_bd (x := p - 1) (y := x) (by omega) (by omega) (by omega) (by omega)
  obtain ⟨a3, a4⟩ := prk_bd (x := p - 1) (y := y) (by omega) (by omega) (by omega) (by omega)
  obtain ⟨a5, a6⟩ := prk_bd (x := p) (y := x) (by omega) (by omega) (by omega) (by omega)
  obtain ⟨a7, a8⟩ := prk_bd (x := p) (y := y) (by omega) (by omega) (by omega) (by omega)
  obtain ⟨b1, b2⟩ := mx_bd (w := w) (k := (p - 1) * x) (by omega) a1
  obtain ⟨b3, b4⟩ := mx_bd (w := h) (k := (p - 1) * y) (by omega) a3
  obtain ⟨b5, b6⟩ := mx_bd (w := w) (k := p * x) (by omega) a5
  obtain ⟨b7, b8⟩ := mx_bd (w := h) (k := p * y) (by omega) a7
  obtain ⟨c1, c2⟩ := prd_bd b1 b2 b3 b4
  obtain ⟨c3, c4⟩ := prd_bd b5 b6 b7 b8
  have K1 := Lib.hid (fun W => l1Most_any 0 (w - (p - 1) * x) W)
  have K2 := Lib.hid (fun W => l1Most_any 0 (h - (p - 1) * y) W)
  have K3 := Lib.hid (fun W => l1Most_any 0 (w - p * x) W)
  have K4 := Lib.hid (fun W => l1Most_any 0 (h - p * y) W)
  have HS : Hid (stI w h x y p = (max 0 (w - (p - 1) * x) * max 0 (h - (p - 1) * y) - max 0 (w - p * x) * max 0 (h - p * y)) * (if 0 < x ∧ 0 < y then 2 else 1)) := Lib.hid (by unfold stI; rw [Int.sub_add_cancel])
  generalize stI w h x y p = r at *
  generalize max 0 (w - (p - 1) * x) = m1 at *
  generalize max 0 (h - (p - 1) * y) = m2 at *
  generalize max 0 (w - p * x) = m3 at *
  generalize max 0 (h - p * y) = m4 at *
  obtain ⟨hw1, hw2⟩ := hw
  obtain ⟨hh1, hh2⟩ := hh
  obtain ⟨hp1, hp2⟩ := hp
  by_cases gx : 0 < x
  · by_cases gy : 0 < y
    · have HR : Hid (r = (m1 * m2 - m3 * m4) * 2) := Lib.hid (by rw [HS.out, if_pos ⟨gx, gy⟩])
      clear HS
      go_enter Try.func69, Try.ntmps69
      go_wp2_with fail
      refine (K1.out _).mono ?_; rintro e _ ⟨rfl, rfl⟩
      go_wp2_with fail
      refine (K2.out _).mono ?_; rintro e _ ⟨rfl, rfl⟩
      go_wp2_with fail
      refine (K3.out _).mono ?_; rintro e _ ⟨rfl, rfl⟩
      go_wp2_with fail
      refine (K4.out _).mono ?_; rintro e _ ⟨rfl, rfl⟩
      go_wp2_with fail
      go_ret
      exact ⟨ret_int HR.out.symm, Below.refl _ _⟩
    · have HR : Hid (r = (m1 * m2 - m3 * m4)) := Lib.hid (by rw [HS.out, if_neg (by omega), Int.mul_one])
      clear HS
      go_enter Try.func69, Try.ntmps69
      go_wp2_with fail
      refine (K1.out _).mono ?_; rintro e _ ⟨rfl, rfl⟩
      go_wp2_with fail
      refine (K2.out _).mono ?_; rintro e _ ⟨rfl, rfl⟩
      go_wp2_with fail
      refine (K3.out _).mono ?_; rintro e _ ⟨rfl, rfl⟩
      go_wp2_with fail
      refine (K4.out _).mono ?_; rintro e _ ⟨rfl, rfl⟩
      go_wp2_with fail
      go_ret
      exact ⟨ret_int HR.out.symm, Below.refl _ _⟩
  · have HR : Hid (r = (m1 * m2 - m3 * m4)) := Lib.hid (by rw [HS.out, if_neg (by omega), Int.mul_one])
    clear HS
    go_enter Try.func69, Try.ntmps69
    go_wp2_with fail
    refine (K1.out _).mono ?_; rintro e _ ⟨rfl, rfl⟩
    go_wp2_with fail
    refine (K2.out _).mono ?_; rintro e _ ⟨rfl, rfl⟩
    go_wp2_with fail
    refine (K3.out _).mono ?_; rintro e _ ⟨rfl, rfl⟩
    go_wp2_with fail
    refine (K4.out _).mono ?_; rintro e _ ⟨rfl, rfl⟩
    go_wp2_with fail
    go_ret
    exact ⟨ret_int HR.out.symm, Below.refl _ _⟩
set_option maxHeartbeats 4000000 in
theorem ctLines_any (nw nh : Nat) (p : Int) (w : World) (h1 : nw ≤ 12) (h2 : nh ≤ 12) (hp : 1 ≤ p ∧ p ≤ 12) :
    Calls Try.prog 58 #[.int .i64 nw, .int .i64 nh, .int .i64 p] w fun e w' => e = .returned (.int .i64 (lnI nw nh p)) ∧ Below w.heap.size w w' := by
  have KG : Hid (∀ (x y : Nat) W, x < nw → y < nh → Calls Try.prog 60 #[.int .i64 (x : Int), .int .i64 (y : Int)] W fun e w' => e = .returned (.int .i64 (gcI x y)) ∧ Below W.heap.size W w') :=
    Lib.hid (fun x y W hx hy => pgCommon_any (x : Int) (y : Int) W (by omega) (by omega) (by omega) (by omega))
  have KT : Hid (∀ (x y : Nat) W, x < nw → y < nh → Calls Try.prog 69 #[.int .i64 (nw : Int), .int .i64 (nh : Int), .int .i64 (x : Int), .int .i64 (y : Int), .int .i64 p] W fun e w' => e = .returned (.int .i64 (stI nw nh x y p)) ∧ Below W.heap.size W w') :=
    Lib.hid (fun x y W hx hy => ctStarts_any _ _ _ _ _ W (by omega) (by omega) (by omega) (by omega) hp)
  have HF : Hid (∀ x y, lnF nw nh p x y = if gcI x y = 1 then stI nw nh x y p else 0) := Lib.hid (fun x y => rfl)
  have HB1 : ∀ x y, x < nw → y < nh → 0 ≤ lnF nw nh p x y ∧ lnF nw nh p x y ≤ 288 := fun x y hx hy => by
    have := stI_bd (w := nw) (h := nh) (x := x) (y := y) (p := p) (by omega) (by omega) (by omega) (by omega) hp
    unfold lnF
    split <;> omega
  have HP : Hid (∀ x y : Nat, x < nw → y < nh → 0 ≤ stI nw nh x y p ∧ stI nw nh x y p ≤ 288) := Lib.hid (fun x y hx hy => stI_bd (by omega) (by omega) (by omega) (by omega) hp)
  have HR : Hid (∀ x k, x < nw → k ≤ nh → 0 ≤ sm (lnF nw nh p x) k ∧ sm (lnF nw nh p x) k ≤ 3456) := Lib.hid (fun x k hx hk => by
    have := sm_bd (f := lnF nw nh p x) (c := 288) (n := k) (fun i hi => HB1 x i hx (by omega))
    omega)
  have HS : Hid (∀ k, k ≤ nw → 0 ≤ sm (fun x => sm (lnF nw nh p x) nh) k ∧ sm (fun x => sm (lnF nw nh p x) nh) k ≤ 41472) := Lib.hid (fun k hk => by
    have := sm_bd (f := fun x => sm (lnF nw nh p x) nh) (c := 3456) (n := k) (fun i hi => HR.out i nh (by omega) (Nat.le_refl _))
    omega)
  have HS1 : Hid (∀ k, sm (fun x => sm (lnF nw nh p x) nh) (k + 1) = sm (fun x => sm (lnF nw nh p x) nh) k + sm (lnF nw nh p k) nh) := Lib.hid (fun k => rfl)
  have HR1 : Hid (∀ x k, sm (lnF nw nh p x) (k + 1) = sm (lnF nw nh p x) k + lnF nw nh p x k) := Lib.hid (fun x k => rfl)
  have HR0 : Hid (∀ x, sm (lnF nw nh p x) 0 = 0) := Lib.hid (fun x => rfl)
  have HS0 : Hid (sm (fun x => sm (lnF nw nh p x) nh) 0 = 0) := Lib.hid rfl
  clear HB1
  unfold lnI
  generalize sm (fun x => sm (lnF nw nh p x) nh) = S at *
  obtain ⟨R, hR⟩ : ∃ R : Nat → Nat → Int, R = fun x k => sm (lnF nw nh p x) k := ⟨_, rfl⟩
  have eR : ∀ x k, sm (lnF nw nh p x) k = R x k := fun x k => by rw [hR]
  simp only [eR] at HR HS1 HR1 HR0
  generalize lnF nw nh p = G at *
  clear hR eR hp
  go_enter Try.func58, Try.ntmps58
  go_wp2_with fail
  go_loopg [7, 8] nw (fun g s x wr => ∃ i : Nat, i ≤ nw ∧ g = nw - i ∧ x = .int .i64 i ∧ s = .int .i64 (S i) ∧ Below w.heap.size w wr)
  case atStart => exact ⟨0, Nat.zero_le _, rfl, rfl, by rw [HS0.out], Below.refl _ _⟩
  case round =>
    obtain ⟨i, hi, hg, rfl, rfl, hB⟩ := hrel
    rename World => wo
    have HGK := Lib.hid hg
    clear hg
    obtain ⟨s1, s2⟩ := HS.out i hi
    by_cases hlt : i < nw
    · have HSi := Lib.hid (HS1.out i)
      have HRi := Lib.hid (fun k hk => HR.out i k hlt hk)
      have HRi0 := Lib.hid (HR0.out i)
      have HRi1 := Lib.hid (HR1.out i)
      have KGi := Lib.hid (fun y W hy => KG.out i y W hlt hy)
      have KTi := Lib.hid (fun y W hy => KT.out i y W hlt hy)
      have HPi := Lib.hid (fun y hy => HP.out i y hlt hy)
      have HFi := Lib.hid (HF.out i)
      generalize S i = t0 at *
      generalize R i = Ri at *
      generalize G i = Gi at *
      go_wp2_with fail
      go_loopg [7, 9] nh (fun g s y wr => ∃ j : Nat, j ≤ nh ∧ g = nh - j ∧ y = .int .i64 j ∧ s = .int .i64 (t0 + Ri j) ∧ Below w.heap.size w wr)
      case atStart => exact ⟨0, Nat.zero_le _, rfl, rfl, by rw [HRi0.out, Int.add_zero], hB⟩
      case round =>
        clear hB
        obtain ⟨j, hj, hg, rfl, rfl, hB⟩ := hrel
        rename World => wi
        have HGJ := Lib.hid hg
        clear hg
        obtain ⟨r1, r2⟩ := HRi.out j hj
        by_cases hlj : j < nh
        · obtain ⟨p1, p2⟩ := HPi.out j hlj
          have HF1 := Lib.hid ((HRi1.out j).trans (by rw [HFi.out j]))
          have KGj := Lib.hid (fun W => KGi.out j W hlj)
          have KTj := Lib.hid (fun W => KTi.out j W hlj)
          generalize Ri j = t1 at *
          generalize gcI i j = gg at *
          generalize stI nw nh i j p = ss at *
          go_wp2_with fail
          refine (KGj.out wi).mono ?_; rintro e w4 ⟨rfl, hb4⟩
          have B4 := hB.trans (hb4.mono hB.size)
          clear hb4 hB KGj
          by_cases hs : gg = 1
          · have HK1 := Lib.hid (HF1.out.trans (by rw [if_pos hs]))
            subst hs
            clear HF1
            go_wp2_with fail
            refine (KTj.out w4).mono ?_; rintro e w5 ⟨rfl, hb5⟩
            have B5 := B4.trans (hb5.mono B4.size)
            clear hb5 B4 KTj
            go_wp2_with fail
            go_roundg (nh - (j + 1))
            case measure => have := HGJ.out; omega
            case rel => exact ⟨j + 1, by omega, rfl, by go_num, by rw [HK1.out, Int.add_assoc], B5⟩
          · have HK1 := Lib.hid (HF1.out.trans (by rw [if_neg hs, Int.add_zero]))
            clear HF1 KTj
            go_wp2_with fail
            go_roundg (nh - (j + 1))
            case measure => have := HGJ.out; omega
            case rel => exact ⟨j + 1, by omega, rfl, by go_num, by rw [HK1.out], B4⟩
        · obtain rfl : j = nh := by omega
          go_wp2_with fail
          go_roundg (nw - (i + 1))
          case measure => have := HGK.out; omega
          case rel => exact ⟨i + 1, by omega, rfl, by go_num, by rw [HSi.out], hB⟩
    · obtain rfl : i = nw := by omega
      go_wp2_with fail
      go_ret
      exact ⟨rfl, hB⟩
end Go.Proofs.Ytmhdbodmpohdnaa
