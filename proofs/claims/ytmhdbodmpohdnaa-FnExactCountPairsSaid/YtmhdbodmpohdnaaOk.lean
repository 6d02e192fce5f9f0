/- contracts: pairs with so many steps, both sides -/
import Derived.Test.YtmhdbodmpohdnaaOj
namespace Go.Proofs.Ytmhdbodmpohdnaa
open Go.ChangeShapes Go.WideShapes Go.ChangeAt Go.RowKit Go.Joins
set_option linter.unusedVariables false
set_option linter.unusedSimpArgs false
set_option maxRecDepth 4000
set_option maxHeartbeats 4000000 in
theorem ctSteps_any (nw nh : Nat) (st : Int) (w : World) (h1 : nw ≤ 12) (h2 : nh ≤ 12) :
    Calls Try.prog 48 #[.int .i64 nw, .int .i64 nh, .int .i64 st] w fun e w' => e = .returned (.int .i64 (ctN nw nh st)) ∧ Below w.heap.size w w' := by
  have KG : Hid (∀ (x y : Nat) W, x < nw → y < nh → Calls Try.prog 60 #[.int .i64 (x : Int), .int .i64 (y : Int)] W fun e w' => e = .returned (.int .i64 (gcI x y)) ∧ Below W.heap.size W w') :=
    Lib.hid (fun x y W hx hy => pgCommon_any (x : Int) (y : Int) W (by omega) (by omega) (by omega) (by omega))
  have HF : Hid (∀ x y, ctF nw nh st x y = if gcI x y = st then ((nw : Int) - (x : Int)) * ((nh : Int) - (y : Int)) * (if 0 < x ∧ 0 < y then 2 else 1) else 0) := Lib.hid (fun x y => rfl)
  have HP : Hid (∀ x y, x < nw → y < nh → 0 ≤ ((nw : Int) - (x : Int)) * ((nh : Int) - (y : Int)) ∧ ((nw : Int) - (x : Int)) * ((nh : Int) - (y : Int)) ≤ 144) := Lib.hid (fun x y hx hy => (plF_bd h1 h2 hx hy).1)
  have HR : Hid (∀ x k, x < nw → k ≤ nh → 0 ≤ sm (ctF nw nh st x) k ∧ sm (ctF nw nh st x) k ≤ 3456) := Lib.hid (fun x k hx hk => ctR_bd st h1 h2 hx hk)
  have HS : Hid (∀ k, k ≤ nw → 0 ≤ sm (fun x => sm (ctF nw nh st x) nh) k ∧ sm (fun x => sm (ctF nw nh st x) nh) k ≤ 41472) := Lib.hid (fun k hk => ctS_bd st h1 h2 hk)
  have HS1 : Hid (∀ k, sm (fun x => sm (ctF nw nh st x) nh) (k + 1) = sm (fun x => sm (ctF nw nh st x) nh) k + sm (ctF nw nh st k) nh) := Lib.hid (fun k => rfl)
  have HR1 : Hid (∀ x k, sm (ctF nw nh st x) (k + 1) = sm (ctF nw nh st x) k + ctF nw nh st x k) := Lib.hid (fun x k => rfl)
  have HR0 : Hid (∀ x, sm (ctF nw nh st x) 0 = 0) := Lib.hid (fun x => rfl)
  have HS0 : Hid (sm (fun x => sm (ctF nw nh st x) nh) 0 = 0) := Lib.hid rfl
  unfold ctN
  generalize sm (fun x => sm (ctF nw nh st x) nh) = S at *
  obtain ⟨R, hR⟩ : ∃ R : Nat → Nat → Int, R = fun x k => sm (ctF nw nh st x) k := ⟨_, rfl⟩
  have eR : ∀ x k, sm (ctF nw nh st x) k = R x k := fun x k => by rw [hR]
  simp only [eR] at HR HS1 HR1 HR0
  generalize ctF nw nh st = G at *
  clear hR eR
  go_enter Try.func48, Try.ntmps48
  go_wp2_with fail
  go_loopg [7, 8] nw (fun g s x wr => ∃ i : Nat, i ≤ nw ∧ g = nw - i ∧ x = .int .i64 i ∧ s = .int .i64 (S i) ∧ Below w.heap.size w wr)
  case atStart => exact ⟨0, Nat.zero_le _, rfl, rfl, by rw [HS0.out], Below.refl _ _⟩
  case round =>
    obtain ⟨i, hi, hg, rfl, rfl, hB⟩ := hrel
    rename World => wo
    have HGK := Lib.hid hg
    clear hg
    obtain ⟨s1, s2⟩ := HS.out i hi
    by_cases hlt : i < nw
    · have HSi := Lib.hid (HS1.out i)
      have HRi := Lib.hid (fun k hk => HR.out i k hlt hk)
      have HRi0 := Lib.hid (HR0.out i)
      have HRi1 := Lib.hid (HR1.out i)
      have KGi := Lib.hid (fun y W hy => KG.out i y W hlt hy)
      have HPi := Lib.hid (fun y hy => HP.out i y hlt hy)
      have HFi := Lib.hid (HF.out i)
      generalize S i = t0 at *
      generalize R i = Ri at *
      generalize G i = Gi at *
      go_wp2_with fail
      go_loopg [7, 9] nh (fun g s y wr => ∃ j : Nat, j ≤ nh ∧ g = nh - j ∧ y = .int .i64 j ∧ s = .int .i64 (t0 + Ri j) ∧ Below w.heap.size w wr)
      case atStart => exact ⟨0, Nat.zero_le _, rfl, rfl, by rw [HRi0.out, Int.add_zero], hB⟩
      case round =>
        clear hB
        obtain ⟨j, hj, hg, rfl, rfl, hB⟩ := hrel
        rename World => wi
        have HGJ := Lib.hid hg
        clear hg
        obtain ⟨r1, r2⟩ := HRi.out j hj
        by_cases hlj : j < nh
        · obtain ⟨p1, p2⟩ := HPi.out j hlj
          have HF1 := Lib.hid ((HRi1.out j).trans (by rw [HFi.out j]))
          have KGj := Lib.hid (fun W => KGi.out j W hlj)
          generalize Ri j = t1 at *
          generalize gcI i j = gg at *
          go_wp2_with fail
          refine (KGj.out wi).mono ?_; rintro e w4 ⟨rfl, hb4⟩
          have B4 := hB.trans (hb4.mono hB.size)
          clear hb4 hB KGj
          by_cases hs : gg = st
          · have HK1 := Lib.hid (HF1.out.trans (by rw [if_pos hs]))
            subst hs
            clear HF1
            by_cases hi0 : 0 < i
            · by_cases hj0 : 0 < j
              · have HK2 := Lib.hid (HK1.out.trans (by rw [if_pos ⟨hi0, hj0⟩]))
                clear HK1
                go_wp2_with fail
                go_roundg (nh - (j + 1))
                case measure => have := HGJ.out; omega
                case rel => exact ⟨j + 1, by omega, rfl, by go_num, by rw [HK2.out, Int.add_assoc], B4⟩
              · have HK2 := Lib.hid (HK1.out.trans (by rw [if_neg (by omega), Int.mul_one]))
                clear HK1
                go_wp2_with fail
                go_roundg (nh - (j + 1))
                case measure => have := HGJ.out; omega
                case rel => exact ⟨j + 1, by omega, rfl, by go_num, by rw [HK2.out, Int.add_assoc], B4⟩
            · have HK2 := Lib.hid (HK1.out.trans (by rw [if_neg (by omega), Int.mul_one]))
              clear HK1
              go_wp2_with fail
              go_roundg (nh - (j + 1))
              case measure => have := HGJ.out; omega
              case rel => exact ⟨j + 1, by omega, rfl, by go_num, by rw [HK2.out, Int.add_assoc], B4⟩
          · have HK1 := Lib.hid (HF1.out.trans (by rw [if_neg hs, Int.add_zero]))
            clear HF1
            go_wp2_with fail
            go_roundg (nh - (j + 1))
            case measure => have := HGJ.out; omega
            case rel => exact ⟨j + 1, by omega, rfl, by go_num, by rw [HK1.out], B4⟩
        · obtain rfl : j = nh := by omega
          go_wp2_with fail
          go_roundg (nw - (i + 1))
          case measure => have := HGK.out; omega
          case rel => exact ⟨i + 1, by omega, rfl, by go_num, by rw [HSi.out], hB⟩
    · obtain rfl : i = nw := by omega
      go_wp2_with fail
      go_ret
      exact ⟨rfl, hB⟩
end Go.Proofs.Ytmhdbodmpohdnaa
