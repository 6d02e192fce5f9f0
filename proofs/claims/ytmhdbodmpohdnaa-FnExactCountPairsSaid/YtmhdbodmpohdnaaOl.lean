/- contracts: CountPairs, both sides -/
import Derived.Test.YtmhdbodmpohdnaaOk
namespace Go.Proofs.Ytmhdbodmpohdnaa
open Go.ChangeShapes Go.WideShapes Go.ChangeAt Go.RowKit Go.Joins
set_option linter.unusedVariables false
set_option linter.unusedSimpArgs false
set_option maxRecDepth 4000
def stB (st : Int) : Bool := decide (1 ≤ st) && decide (st ≤ 12)
def prB (w h st : Int) : Bool := bdB 12 w h && stB st
def prV (w h st : Int) : Int := bdV (prB w h st) (ctN w.toNat h.toNat st)
theorem stB_true {st : Int} (q : stB st = true) : 1 ≤ st ∧ st ≤ 12 := by
  unfold stB at q
  simp at q
  omega
theorem stB_false {st : Int} (q : stB st = false) : ¬ (1 ≤ st ∧ st ≤ 12) := by
  unfold stB at q
  simp at q
  omega
set_option maxHeartbeats 2000000 in
theorem specCountPairs_any (w h st : Int) (W : World) :
    Calls Try.prog 24 #[.int .i64 w, .int .i64 h, .int .i64 st] W fun e w' => e = .returned (.tuple #[.int .i64 (prV w h st), .bool (prB w h st)]) ∧ Below W.heap.size W w' := by
  unfold prV prB
  have K := Lib.hid (ctBoard_any w h 12 W)
  by_cases hg : bdB 12 w h = true
  · obtain ⟨h1, h2, h3, h4⟩ := bdB_true hg
    rw [hg] at K ⊢
    rw [Bool.true_and]
    have KX := Lib.hid (fun W => (show Calls Try.prog 43 #[.int .i64 st, .int .i64 1, .int .i64 12] W fun e w' => e = .returned (.bool (stB st)) ∧ W = w' from l1In_any st 1 12 W))
    have KC := Lib.hid (fun W => ctSteps_any w.toNat h.toNat st W (by omega) (by omega))
    rw [show ((w.toNat : Nat) : Int) = w by omega, show ((h.toNat : Nat) : Int) = h by omega] at KC
    generalize ctN w.toNat h.toNat st = v at *
    by_cases hs : stB st = true
    · rw [hs] at KX ⊢
      rw [bdV_t]
      clear hg hs
      go_enter Try.func24, Try.ntmps24
      go_wp2_with fail
      refine K.out.mono ?_; rintro e w1 ⟨rfl, hb1⟩
      go_wp2_with fail
      refine (KX.out _).mono ?_; rintro e _ ⟨rfl, rfl⟩
      go_wp2_with fail
      refine (KC.out _).mono ?_; rintro e w2 ⟨rfl, hb2⟩
      go_wp2_with fail
      go_ret2
      exact ⟨rfl, hb1.trans (hb2.mono hb1.size)⟩
    · have hsf : stB st = false := by simpa using hs
      rw [hsf] at KX ⊢
      rw [bdV_f]
      clear hg hs hsf
      go_enter Try.func24, Try.ntmps24
      go_wp2_with fail
      refine K.out.mono ?_; rintro e w1 ⟨rfl, hb1⟩
      go_wp2_with fail
      refine (KX.out _).mono ?_; rintro e _ ⟨rfl, rfl⟩
      go_wp2_with fail
      go_ret2
      exact ⟨rfl, hb1⟩
  · have hf : bdB 12 w h = false := by simpa using hg
    rw [hf] at K ⊢
    rw [Bool.false_and, bdV_f]
    clear hg hf
    go_enter Try.func24, Try.ntmps24
    go_wp2_with fail
    refine K.out.mono ?_; rintro e w1 ⟨rfl, hb1⟩
    go_wp2_with fail
    go_ret2
    exact ⟨rfl, hb1⟩
set_option maxHeartbeats 4000000 in
theorem implCountPairs_any (w h st : Int) (W : World) :
    Calls Try.prog 25 #[.int .i64 w, .int .i64 h, .int .i64 st] W fun e w' => e = .returned (.tuple #[.int .i64 (prV w h st), .bool (prB w h st)]) ∧ Below W.heap.size W w' := by
  unfold prV prB
  by_cases hg : bdB 12 w h = true
  · have K := Lib.hid (fun W => boardUpTo_t 12 w h W hg)
    obtain ⟨h1, h2, h3, h4⟩ := bdB_true hg
    rw [hg, Bool.true_and]
    by_cases hs : stB st = true
    · obtain ⟨t1, t2⟩ := stB_true hs
      rw [hs, bdV_t]
      have nw : w.toNat ≤ 12 := by omega
      have nh : h.toNat ≤ 12 := by omega
      have n3 := bd_mul nw nh
      have KP := Lib.hid (fun W => boardPegs_any w.toNat h.toNat W nw nh)
      have KA := Lib.hid (fun k W (hk : k < w.toNat * h.toNat) => countAway_any w.toNat h.toNat (bX h.toNat k).1 (bX h.toNat k).2 st W nw nh (bX_sz nw nh hk))
      rw [show ((w.toNat : Nat) : Int) = w by omega, show ((h.toNat : Nat) : Int) = h by omega] at KP KA
      have hE := pr_ct (w := w.toNat) (h := h.toNat) t1
      have HE : Hid (prN w.toNat h.toNat st = 2 * ctN w.toNat h.toNat st) := Lib.hid hE
      have HB := Lib.hid (fun k hk => prR_bd (w := w.toNat) (h := h.toNat) (k := k) st n3 hk)
      have HN : Hid (∀ k, sm (fun k => sm (awF (bX h.toNat k).1 (bX h.toNat k).2 st h.toNat) (w.toNat * h.toNat)) (k + 1) = sm (fun k => sm (awF (bX h.toNat k).1 (bX h.toNat k).2 st h.toNat) (w.toNat * h.toNat)) k + sm (awF (bX h.toNat k).1 (bX h.toNat k).2 st h.toNat) (w.toNat * h.toNat)) := Lib.hid (fun k => rfl)
      have H0 : Hid (sm (fun k => sm (awF (bX h.toNat k).1 (bX h.toNat k).2 st h.toNat) (w.toNat * h.toNat)) 0 = 0) := Lib.hid rfl
      have HA : Hid (∀ k, 0 ≤ sm (awF (bX h.toNat k).1 (bX h.toNat k).2 st h.toNat) (w.toNat * h.toNat) ∧ sm (awF (bX h.toNat k).1 (bX h.toNat k).2 st h.toNat) (w.toNat * h.toNat) ≤ 144) := Lib.hid (fun k => aw_bd _ _ _ _ (Nat.le_refl _) n3)
      unfold prN at HE
      clear hE
      generalize sm (fun k => sm (awF (bX h.toNat k).1 (bX h.toNat k).2 st h.toNat) (w.toNat * h.toNat)) = S at *
      obtain ⟨R, hR⟩ : ∃ R : Nat → Int, R = fun k => sm (awF (bX h.toNat k).1 (bX h.toNat k).2 st h.toNat) (w.toNat * h.toNat) := ⟨_, rfl⟩
      have eR : ∀ k, sm (awF (bX h.toNat k).1 (bX h.toNat k).2 st h.toNat) (w.toNat * h.toNat) = R k := fun k => by rw [hR]
      simp only [eR] at KA HN HA
      clear hR eR
      generalize ctN w.toNat h.toNat st = V at *
      generalize bX h.toNat = f at *
      generalize w.toNat * h.toNat = n at *
      have g1 : ¬ st < 1 := by omega
      have g2 : ¬ 12 < st := by omega
      clear hg hs nw nh
      go_enter Try.func25, Try.ntmps25
      go_wp2_with fail
      refine (K.out W).mono ?_; rintro e w1 ⟨rfl, hb1⟩
      go_wp2_with fail
      obtain ⟨W2, hW2⟩ : ∃ W2, W2 = (w1.alloc (.cells #[.int .i64 w, .int .i64 h] 34)) := ⟨_, rfl⟩
      rw [← hW2]
      have yW20_0 : W2.cell? ⟨w1.heap.size, 0, none⟩ = some (.int .i64 w) := by rw [hW2]; go_simp
      have yW20_1 : W2.cell? ⟨w1.heap.size, 1, none⟩ = some (.int .i64 h) := by rw [hW2]; go_simp
      have fW20 : ∀ o, W2.frozen? ⟨w1.heap.size, o, none⟩ = false := by intro o; rw [hW2]; (repeat rw [frozen?_alloc_cells]); simp [World.frozen?]
      have zW20 : w1.heap.size < W2.heap.size := by rw [hW2]; simp <;> omega
      have BW2 : Below w1.heap.size w1 W2 := by rw [hW2]; exact (Below.alloc (Below.refl _ _) (by simp <;> omega) _)
      have eW2 : Hid (W2.heap.size = w1.heap.size + 1) := Lib.hid (by rw [hW2]; simp)
      clear hW2
      have B2 := hb1.trans (BW2.mono hb1.size)
      refine (KP.out W2).mono ?_; intro e w2 hret
      obtain ⟨A, c, rfl, hc1, hc2, hb2, hrd⟩ := retP_read hret
      have HC := Lib.hid hrd
      have y0 := ((bcell hb2).1 _ 0 zW20).trans yW20_0
      have y1 := ((bcell hb2).1 _ 1 zW20).trans yW20_1
      have z2 := Nat.lt_of_lt_of_le zW20 hb2.size
      have B3 := B2.trans (hb2.mono B2.size)
      unfold maxLen at hc2
      clear hret hrd hb2 hb1 B2 KP K yW20_0 yW20_1 fW20 zW20 eW2 BW2
      go_wp2_with fail
      go_loopg [10, 32] n (fun g s i wr => ∃ k : Nat, k ≤ n ∧ g = n - k ∧ i = .int .i64 k ∧ s = .int .i64 (S k) ∧ Below w2.heap.size w2 wr)
      case atStart => exact ⟨0, Nat.zero_le _, rfl, rfl, by rw [H0.out], Below.refl _ _⟩
      case round =>
        obtain ⟨k, hk, hg, rfl, rfl, hB⟩ := hrel
        rename World => wo
        have HGK := Lib.hid hg
        clear hg
        obtain ⟨s1, s2⟩ := HB.out k hk
        by_cases hlt : k < n
        · obtain ⟨b, off, hA, hb, x1, x2⟩ := HC.out wo hB k hlt
          subst hA
          have HNk := Lib.hid (HN.out k)
          have KAk := Lib.hid (fun W => KA.out k W hlt)
          obtain ⟨a1, a2⟩ := HA.out k
          have zB := hB.size
          have zo := Nat.lt_of_lt_of_le z2 zB
          have zb := Nat.lt_of_lt_of_le hb zB
          have v0 := ((bcell hB).1 _ 0 z2).trans y0
          have v1 := ((bcell hB).1 _ 1 z2).trans y1
          generalize S k = t at *
          generalize R k = r at *
          obtain ⟨q1, q2, hqe⟩ : ∃ q1 q2, f k = (q1, q2) := ⟨_, _, rfl⟩
          rw [hqe] at x1 x2 KAk
          clear hqe
          go_wp2_with fail
          obtain ⟨Wc, hWc⟩ : ∃ Wc, Wc = (wo.alloc (.cells #[.int .i64 q1, .int .i64 q2] 28)) := ⟨_, rfl⟩
          rw [← hWc]
          have yWc0_0 : Wc.cell? ⟨wo.heap.size, 0, none⟩ = some (.int .i64 q1) := by rw [hWc]; go_simp
          have yWc0_1 : Wc.cell? ⟨wo.heap.size, 1, none⟩ = some (.int .i64 q2) := by rw [hWc]; go_simp
          have fWc0 : ∀ o, Wc.frozen? ⟨wo.heap.size, o, none⟩ = false := by intro o; rw [hWc]; (repeat rw [frozen?_alloc_cells]); simp [World.frozen?]
          have zWc0 : wo.heap.size < Wc.heap.size := by rw [hWc]; simp <;> omega
          have BWc : Below wo.heap.size wo Wc := by rw [hWc]; exact (Below.alloc (Below.refl _ _) (by simp <;> omega) _)
          have eWc : Hid (Wc.heap.size = wo.heap.size + 1) := Lib.hid (by rw [hWc]; simp)
          clear hWc
          have BC := hB.trans (BWc.mono zB)
          refine (KAk.out Wc).mono ?_; rintro e w4 ⟨rfl, hb4⟩
          have B4 := BC.trans (hb4.mono BC.size)
          clear x1 x2 v0 v1 yWc0_0 yWc0_1 fWc0 zWc0 eWc BWc hb4 KAk
          go_wp2_with fail
          go_roundg (n - (k + 1))
          case measure => have := HGK.out; omega
          case rel => exact ⟨k + 1, by omega, rfl, by go_num, by rw [HNk.out], B4⟩
        · obtain rfl : k = n := by omega
          have eV : Hid ((S k) / 2 = V) := Lib.hid (by rw [HE.out]; omega)
          go_wp2_with fail
          go_ret2
          exact ⟨by rw [eV.out]; rfl, B3.trans (hB.mono B3.size)⟩
    · have hsf : stB st = false := by simpa using hs
      have hq := stB_false hsf
      rw [hsf, bdV_f]
      clear hg hs hsf
      by_cases g1 : st < 1
      · go_enter Try.func25, Try.ntmps25
        go_wp2_with fail
        refine (K.out W).mono ?_; rintro e w1 ⟨rfl, hb1⟩
        have BA := Below.alloc hb1 hb1.size (.cells #[.int .i64 w, .int .i64 h] 34)
        go_wp2_with fail
        go_ret2
        exact ⟨rfl, BA⟩
      · have g2 : 12 < st := by omega
        go_enter Try.func25, Try.ntmps25
        go_wp2_with fail
        refine (K.out W).mono ?_; rintro e w1 ⟨rfl, hb1⟩
        have BA := Below.alloc hb1 hb1.size (.cells #[.int .i64 w, .int .i64 h] 34)
        go_wp2_with fail
        go_ret2
        exact ⟨rfl, BA⟩
  · have hf : bdB 12 w h = false := by simpa using hg
    have K := Lib.hid (fun W => boardUpTo_f 12 w h W hf)
    rw [hf, Bool.false_and, bdV_f]
    clear hg hf
    go_enter Try.func25, Try.ntmps25
    go_wp2_with fail
    refine (K.out W).mono ?_; rintro e w1 ⟨rfl, hb1⟩
    have BA := Below.alloc hb1 hb1.size (.cells #[.int .i64 0, .int .i64 0] 34)
    go_wp2_with fail
    go_ret2
    exact ⟨rfl, BA⟩
end Go.Proofs.Ytmhdbodmpohdnaa
