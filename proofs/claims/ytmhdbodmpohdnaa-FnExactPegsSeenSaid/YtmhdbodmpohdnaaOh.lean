/- contract: pegs that are seen from one, the model -/
import Derived.Test.YtmhdbodmpohdnaaOg
namespace Go.Proofs.Ytmhdbodmpohdnaa
open Go.ChangeShapes Go.WideShapes Go.ChangeAt Go.RowKit Go.Joins
set_option linter.unusedVariables false
set_option linter.unusedSimpArgs false
set_option maxRecDepth 4000
set_option maxHeartbeats 4000000 in
theorem specPegsSeen_any (w h p1 p2 : Int) (W : World) :
    Calls Try.prog 21 #[.int .i64 w, .int .i64 h, .agg #[.int .i64 p1, .int .i64 p2]] W fun e w' => e = .returned (.tuple #[.int .i64 (sawN w h p1 p2), .bool (sawB w h p1 p2)]) ∧ Below W.heap.size W w' := by
  unfold sawN sawB
  have K := Lib.hid (fun W => ctBoard_any w h 12 W)
  by_cases hg : bdB 12 w h = true
  · obtain ⟨h1, h2, h3, h4⟩ := bdB_true hg
    rw [hg] at K ⊢
    rw [Bool.true_and]
    have KX := Lib.hid (fun W => l1In_any p1 0 (w - 1) W)
    have KY := Lib.hid (fun W => l1In_any p2 0 (h - 1) W)
    by_cases ho : ofB w h p1 p2 = true
    · obtain ⟨q1, q2, q3, q4⟩ := ofB_true ho
      rw [show (decide (0 ≤ p1) && decide (p1 ≤ w - 1)) = true by simp; omega] at KX
      rw [show (decide (0 ≤ p2) && decide (p2 ≤ h - 1)) = true by simp; omega] at KY
      have hp : Sz p1 p2 := by unfold Sz; omega
      have nw : w.toNat ≤ 12 := by omega
      have nh : h.toNat ≤ 12 := by omega
      have KP := Lib.hid (fun W => ctPegs_any w.toNat h.toNat W nw nh)
      rw [show ((w.toNat : Nat) : Int) = w by omega, show ((h.toNat : Nat) : Int) = h by omega] at KP
      have h5 := bd_mul nw nh
      have KS : Hid (∀ k W, k < w.toNat * h.toNat → Calls Try.prog 45 #[.agg #[.int .i64 p1, .int .i64 p2], .agg #[.int .i64 (bX h.toNat k).1, .int .i64 (bX h.toNat k).2]] W fun e w' => e = .returned (.int .i64 (stepN p1 p2 (bX h.toNat k).1 (bX h.toNat k).2)) ∧ Below W.heap.size W w') :=
        Lib.hid (fun k W hk => pgStep_any _ _ _ _ W hp (bX_sz nw nh hk))
      have HN : Hid (∀ k, sm (awF p1 p2 1 h.toNat) (k + 1) = sm (awF p1 p2 1 h.toNat) k + if stepN p1 p2 (bX h.toNat k).1 (bX h.toNat k).2 = 1 then 1 else 0) := Lib.hid (fun k => rfl)
      have HB : Hid (∀ k, k ≤ w.toNat * h.toNat → 0 ≤ sm (awF p1 p2 1 h.toNat) k ∧ sm (awF p1 p2 1 h.toNat) k ≤ 144) := Lib.hid (fun k hk => aw_bd _ _ _ _ hk h5)
      have H0 : Hid (sm (awF p1 p2 1 h.toNat) 0 = 0) := Lib.hid rfl
      have HSS : Hid (∀ q1 q2 : Int, q1 = p1 → q2 = p2 → stepN p1 p2 q1 q2 = 0) := Lib.hid (fun q1 q2 e1 e2 => by rw [e1, e2]; exact stepN_self _ _)
      rw [ho, bdV_t]
      generalize sm (awF p1 p2 1 h.toNat) = F at *
      generalize bX h.toNat = f at *
      generalize w.toNat * h.toNat = n at *
      clear hg ho nw nh hp q1 q2 q3 q4
      go_enter Try.func21, Try.ntmps21
      go_wp2_with fail
      obtain ⟨W0, hW0⟩ : ∃ W0, W0 = (W.alloc (.cells #[.int .i64 p1, .int .i64 p2] 28)) := ⟨_, rfl⟩
      rw [← hW0]
      have yW00_0 : W0.cell? ⟨W.heap.size, 0, none⟩ = some (.int .i64 p1) := by rw [hW0]; go_simp
      have yW00_1 : W0.cell? ⟨W.heap.size, 1, none⟩ = some (.int .i64 p2) := by rw [hW0]; go_simp
      have fW00 : ∀ o, W0.frozen? ⟨W.heap.size, o, none⟩ = false := by intro o; rw [hW0]; (repeat rw [frozen?_alloc_cells]); simp [World.frozen?]
      have zW00 : W.heap.size < W0.heap.size := by rw [hW0]; simp <;> omega
      have BW0 : Below W.heap.size W W0 := by rw [hW0]; exact (Below.alloc (Below.refl _ _) (by simp <;> omega) _)
      have eW0 : Hid (W0.heap.size = W.heap.size + 1) := Lib.hid (by rw [hW0]; simp)
      clear hW0
      refine (K.out W0).mono ?_; rintro e w1 ⟨rfl, hb1⟩
      have y0 := ((bcell hb1).1 _ 0 zW00).trans yW00_0
      have y1 := ((bcell hb1).1 _ 1 zW00).trans yW00_1
      have z1 := Nat.lt_of_lt_of_le zW00 hb1.size
      have BB := BW0.trans (hb1.mono BW0.size)
      clear hb1 yW00_0 yW00_1 fW00 zW00 eW0 BW0 K
      go_wp2_with fail
      refine (KX.out _).mono ?_; rintro e _ ⟨rfl, rfl⟩
      go_wp2_with fail
      refine (KY.out _).mono ?_; rintro e _ ⟨rfl, rfl⟩
      go_wp2_with fail
      refine (KP.out w1).mono ?_; intro e w2 hret
      obtain ⟨A, c, rfl, hc1, hc2, hb2, hrd⟩ := retP_read hret
      have HC := Lib.hid hrd
      have y2 := ((bcell hb2).1 _ 0 z1).trans y0
      have y3 := ((bcell hb2).1 _ 1 z1).trans y1
      have z2 := Nat.lt_of_lt_of_le z1 hb2.size
      have B2 := BB.trans (hb2.mono BB.size)
      unfold maxLen at hc2
      clear hret hrd hb2 y0 y1 z1 BB KP KX KY
      go_wp2_with fail
      go_loopg [8, 35] n (fun g s i wr => ∃ k : Nat, k ≤ n ∧ g = n - k ∧ i = .int .i64 k ∧ s = .int .i64 (F k) ∧ Below w2.heap.size w2 wr)
      case atStart => exact ⟨0, Nat.zero_le _, rfl, rfl, by rw [H0.out], Below.refl _ _⟩
      case round =>
        obtain ⟨k, hk, hg, rfl, rfl, hB⟩ := hrel
        rename World => wo
        have HGK := Lib.hid hg
        clear hg
        obtain ⟨s1, s2⟩ := HB.out k hk
        by_cases hlt : k < n
        · obtain ⟨b, off, hA, hb, x1, x2⟩ := HC.out wo hB k hlt
          subst hA
          have HNk := Lib.hid (HN.out k)
          have KSk := Lib.hid (fun W => KS.out k W hlt)
          have zB := hB.size
          have zo := Nat.lt_of_lt_of_le z2 zB
          have zb := Nat.lt_of_lt_of_le hb zB
          have v0 := ((bcell hB).1 _ 0 z2).trans y2
          have v1 := ((bcell hB).1 _ 1 z2).trans y3
          have HSk := Lib.hid (HSS.out (f k).1 (f k).2)
          generalize F k = t at *
          generalize stepN p1 p2 (f k).1 (f k).2 = sN at *
          obtain ⟨q1, q2, hqe⟩ : ∃ q1 q2, f k = (q1, q2) := ⟨_, _, rfl⟩
          rw [hqe] at x1 x2 KSk HSk
          clear hqe
          have BQ := Below.alloc hB zB (.cells #[.int .i64 q1, .int .i64 q2] 28)
          by_cases he : q1 = p1
          · subst he
            by_cases hf : q2 = p2
            · subst hf
              have e0 := HSk.out rfl rfl
              have HK1 := Lib.hid (HNk.out.trans (by rw [if_neg (by omega), Int.add_zero]))
              clear HNk e0 HSk KSk
              go_wp2_with fail
              go_roundg (n - (k + 1))
              case measure => have := HGK.out; omega
              case rel => exact ⟨k + 1, by omega, rfl, by go_num, by rw [HK1.out], BQ⟩
            · have hne := hf
              clear hf
              clear HSk BQ
              go_wp2_with fail
              obtain ⟨Wc, hWc⟩ : ∃ Wc, Wc = (wo.alloc (.cells #[.int .i64 q1, .int .i64 q2] 28)) := ⟨_, rfl⟩
              rw [← hWc]
              have yWc0_0 : Wc.cell? ⟨wo.heap.size, 0, none⟩ = some (.int .i64 q1) := by rw [hWc]; go_simp
              have yWc0_1 : Wc.cell? ⟨wo.heap.size, 1, none⟩ = some (.int .i64 q2) := by rw [hWc]; go_simp
              have fWc0 : ∀ o, Wc.frozen? ⟨wo.heap.size, o, none⟩ = false := by intro o; rw [hWc]; (repeat rw [frozen?_alloc_cells]); simp [World.frozen?]
              have zWc0 : wo.heap.size < Wc.heap.size := by rw [hWc]; simp <;> omega
              have BWc : Below wo.heap.size wo Wc := by rw [hWc]; exact (Below.alloc (Below.refl _ _) (by simp <;> omega) _)
              have eWc : Hid (Wc.heap.size = wo.heap.size + 1) := Lib.hid (by rw [hWc]; simp)
              clear hWc
              have BC := hB.trans (BWc.mono zB)
              refine (KSk.out Wc).mono ?_; rintro e w4 ⟨rfl, hb4⟩
              have B4 := BC.trans (hb4.mono BC.size)
              clear x1 x2 v0 v1 yWc0_0 yWc0_1 fWc0 zWc0 eWc BWc hb4 KSk hne
              by_cases hs : sN = 1
              · have HK1 := Lib.hid (HNk.out.trans (by rw [if_pos hs]))
                subst hs
                clear HNk
                go_wp2_with fail
                go_roundg (n - (k + 1))
                case measure => have := HGK.out; omega
                case rel => exact ⟨k + 1, by omega, rfl, by go_num, by rw [HK1.out], B4⟩
              · have HK1 := Lib.hid (HNk.out.trans (by rw [if_neg hs, Int.add_zero]))
                clear HNk
                go_wp2_with fail
                go_roundg (n - (k + 1))
                case measure => have := HGK.out; omega
                case rel => exact ⟨k + 1, by omega, rfl, by go_num, by rw [HK1.out], B4⟩
          · have hne := he
            clear he
            clear HSk BQ
            go_wp2_with fail
            obtain ⟨Wc, hWc⟩ : ∃ Wc, Wc = (wo.alloc (.cells #[.int .i64 q1, .int .i64 q2] 28)) := ⟨_, rfl⟩
            rw [← hWc]
            have yWc0_0 : Wc.cell? ⟨wo.heap.size, 0, none⟩ = some (.int .i64 q1) := by rw [hWc]; go_simp
            have yWc0_1 : Wc.cell? ⟨wo.heap.size, 1, none⟩ = some (.int .i64 q2) := by rw [hWc]; go_simp
            have fWc0 : ∀ o, Wc.frozen? ⟨wo.heap.size, o, none⟩ = false := by intro o; rw [hWc]; (repeat rw [frozen?_alloc_cells]); simp [World.frozen?]
            have zWc0 : wo.heap.size < Wc.heap.size := by rw [hWc]; simp <;> omega
            have BWc : Below wo.heap.size wo Wc := by rw [hWc]; exact (Below.alloc (Below.refl _ _) (by simp <;> omega) _)
            have eWc : Hid (Wc.heap.size = wo.heap.size + 1) := Lib.hid (by rw [hWc]; simp)
            clear hWc
            have BC := hB.trans (BWc.mono zB)
            refine (KSk.out Wc).mono ?_; rintro e w4 ⟨rfl, hb4⟩
            have B4 := BC.trans (hb4.mono BC.size)
            clear x1 x2 v0 v1 yWc0_0 yWc0_1 fWc0 zWc0 eWc BWc hb4 KSk hne
            by_cases hs : sN = 1
            · have HK1 := Lib.hid (HNk.out.trans (by rw [if_pos hs]))
              subst hs
              clear HNk
              go_wp2_with fail
              go_roundg (n - (k + 1))
              case measure => have := HGK.out; omega
              case rel => exact ⟨k + 1, by omega, rfl, by go_num, by rw [HK1.out], B4⟩
            · have HK1 := Lib.hid (HNk.out.trans (by rw [if_neg hs, Int.add_zero]))
              clear HNk
              go_wp2_with fail
              go_roundg (n - (k + 1))
              case measure => have := HGK.out; omega
              case rel => exact ⟨k + 1, by omega, rfl, by go_num, by rw [HK1.out], B4⟩
        · obtain rfl : k = n := by omega
          go_wp2_with fail
          go_ret2
          exact ⟨rfl, B2.trans (hB.mono B2.size)⟩
    · have hof : ofB w h p1 p2 = false := by simpa using ho
      have hq := ofB_false hof
      rw [hof, bdV_f]
      clear hg ho hof
      by_cases hx : 0 ≤ p1 ∧ p1 ≤ w - 1
      · rw [show (decide (0 ≤ p1) && decide (p1 ≤ w - 1)) = true by simp; omega] at KX
        rw [show (decide (0 ≤ p2) && decide (p2 ≤ h - 1)) = false by simp; omega] at KY
        clear hx hq
        go_enter Try.func21, Try.ntmps21
        go_wp2_with fail
        obtain ⟨W0, hW0⟩ : ∃ W0, W0 = (W.alloc (.cells #[.int .i64 p1, .int .i64 p2] 28)) := ⟨_, rfl⟩
        rw [← hW0]
        have yW00_0 : W0.cell? ⟨W.heap.size, 0, none⟩ = some (.int .i64 p1) := by rw [hW0]; go_simp
        have yW00_1 : W0.cell? ⟨W.heap.size, 1, none⟩ = some (.int .i64 p2) := by rw [hW0]; go_simp
        have fW00 : ∀ o, W0.frozen? ⟨W.heap.size, o, none⟩ = false := by intro o; rw [hW0]; (repeat rw [frozen?_alloc_cells]); simp [World.frozen?]
        have zW00 : W.heap.size < W0.heap.size := by rw [hW0]; simp <;> omega
        have BW0 : Below W.heap.size W W0 := by rw [hW0]; exact (Below.alloc (Below.refl _ _) (by simp <;> omega) _)
        have eW0 : Hid (W0.heap.size = W.heap.size + 1) := Lib.hid (by rw [hW0]; simp)
        clear hW0
        refine (K.out W0).mono ?_; rintro e w1 ⟨rfl, hb1⟩
        have y0 := ((bcell hb1).1 _ 0 zW00).trans yW00_0
        have y1 := ((bcell hb1).1 _ 1 zW00).trans yW00_1
        have BB := BW0.trans (hb1.mono BW0.size)
        clear hb1 yW00_0 yW00_1 fW00 zW00 eW0 BW0 K
        go_wp2_with fail
        refine (KX.out _).mono ?_; rintro e _ ⟨rfl, rfl⟩
        go_wp2_with fail
        refine (KY.out _).mono ?_; rintro e _ ⟨rfl, rfl⟩
        go_wp2_with fail
        go_ret2
        exact ⟨rfl, BB⟩
      · rw [show (decide (0 ≤ p1) && decide (p1 ≤ w - 1)) = false by simp; omega] at KX
        clear hx hq KY
        go_enter Try.func21, Try.ntmps21
        go_wp2_with fail
        obtain ⟨W0, hW0⟩ : ∃ W0, W0 = (W.alloc (.cells #[.int .i64 p1, .int .i64 p2] 28)) := ⟨_, rfl⟩
        rw [← hW0]
        have yW00_0 : W0.cell? ⟨W.heap.size, 0, none⟩ = some (.int .i64 p1) := by rw [hW0]; go_simp
        have yW00_1 : W0.cell? ⟨W.heap.size, 1, none⟩ = some (.int .i64 p2) := by rw [hW0]; go_simp
        have fW00 : ∀ o, W0.frozen? ⟨W.heap.size, o, none⟩ = false := by intro o; rw [hW0]; (repeat rw [frozen?_alloc_cells]); simp [World.frozen?]
        have zW00 : W.heap.size < W0.heap.size := by rw [hW0]; simp <;> omega
        have BW0 : Below W.heap.size W W0 := by rw [hW0]; exact (Below.alloc (Below.refl _ _) (by simp <;> omega) _)
        have eW0 : Hid (W0.heap.size = W.heap.size + 1) := Lib.hid (by rw [hW0]; simp)
        clear hW0
        refine (K.out W0).mono ?_; rintro e w1 ⟨rfl, hb1⟩
        have y0 := ((bcell hb1).1 _ 0 zW00).trans yW00_0
        have y1 := ((bcell hb1).1 _ 1 zW00).trans yW00_1
        have BB := BW0.trans (hb1.mono BW0.size)
        clear hb1 yW00_0 yW00_1 fW00 zW00 eW0 BW0 K
        go_wp2_with fail
        refine (KX.out _).mono ?_; rintro e _ ⟨rfl, rfl⟩
        go_wp2_with fail
        go_ret2
        exact ⟨rfl, BB⟩
  · have hf : bdB 12 w h = false := by simpa using hg
    rw [hf] at K ⊢
    rw [Bool.false_and, bdV_f]
    clear hg hf
    go_enter Try.func21, Try.ntmps21
    go_wp2_with fail
    obtain ⟨W0, hW0⟩ : ∃ W0, W0 = (W.alloc (.cells #[.int .i64 p1, .int .i64 p2] 28)) := ⟨_, rfl⟩
    rw [← hW0]
    have yW00_0 : W0.cell? ⟨W.heap.size, 0, none⟩ = some (.int .i64 p1) := by rw [hW0]; go_simp
    have yW00_1 : W0.cell? ⟨W.heap.size, 1, none⟩ = some (.int .i64 p2) := by rw [hW0]; go_simp
    have fW00 : ∀ o, W0.frozen? ⟨W.heap.size, o, none⟩ = false := by intro o; rw [hW0]; (repeat rw [frozen?_alloc_cells]); simp [World.frozen?]
    have zW00 : W.heap.size < W0.heap.size := by rw [hW0]; simp <;> omega
    have BW0 : Below W.heap.size W W0 := by rw [hW0]; exact (Below.alloc (Below.refl _ _) (by simp <;> omega) _)
    have eW0 : Hid (W0.heap.size = W.heap.size + 1) := Lib.hid (by rw [hW0]; simp)
    clear hW0
    refine (K.out W0).mono ?_; rintro e w1 ⟨rfl, hb1⟩
    have BB := BW0.trans (hb1.mono BW0.size)
    clear hb1 yW00_0 yW00_1 fW00 zW00 eW0 BW0 K
    go_wp2_with fail
    go_ret2
    exact ⟨rfl, BB⟩
end Go.Proofs.Ytmhdbodmpohdnaa
