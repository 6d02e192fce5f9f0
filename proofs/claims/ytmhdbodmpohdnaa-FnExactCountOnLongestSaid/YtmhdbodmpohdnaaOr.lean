/- contracts: CountStraight and CountOnLongest, both sides -/
import Derived.Test.YtmhdbodmpohdnaaOq
import Derived.Test.YtmhdbodmpohdnaaOc
namespace Go.Proofs.Ytmhdbodmpohdnaa
open Go.ChangeShapes Go.WideShapes Go.ChangeAt Go.RowKit Go.Joins
set_option linter.unusedVariables false
set_option linter.unusedSimpArgs false
set_option maxRecDepth 4000
/-- a list of lines that came back from a call, read later -/
theorem retT_read {w w1 : World} {L : List (Int × Int × Int)} {e : Ending} (h : RetT w L e w1) :
    ∃ A c, e = .returned (.slice A L.length c) ∧ L.length ≤ c ∧ c ≤ maxLen ∧ Below w.heap.size w w1 ∧ ∀ W, Below w1.heap.size w1 W → ∀ i p, L[i]? = some p → ∃ g, A = some ⟨g, 0, none⟩ ∧ g < w1.heap.size ∧ W.cell? ⟨g, i * 3, none⟩ = some (.int .i64 p.1) ∧ W.cell? ⟨g, i * 3 + 1, none⟩ = some (.int .i64 p.2.1) ∧ W.cell? ⟨g, i * 3 + 2, none⟩ = some (.int .i64 p.2.2) := by
  obtain ⟨v, rfl, hb, hr⟩ := h
  have h0 := hr
  obtain ⟨h1, h2⟩ := hr
  rcases h2 with ⟨hv, hn⟩ | ⟨g, cap, cur, hv, hg, hh, hc, hm, hs, ht⟩
  · refine ⟨none, 0, by rw [hv, hn], by omega, by simp [maxLen], hb, fun W hW i p hi => ?_⟩
    have := (List.getElem?_eq_some_iff.1 hi).1
    omega
  · subst hv
    have hlt := (World.ownsRow.lt h0 g rfl).2
    refine ⟨some ⟨g, 0, none⟩, cap, rfl, hc, hm, hb, fun W hW i p hi => ⟨g, rfl, hlt, ?_⟩⟩
    have hil := (List.getElem?_eq_some_iff.1 hi).1
    obtain ⟨f1, f2, f3⟩ := flat3_get L i p hi
    exact ⟨(hW.cell (p := ⟨g, i * 3, none⟩) hlt).trans ((World.ownsRow.cellAt h0 (i * 3) (by omega)).trans f1), (hW.cell (p := ⟨g, i * 3 + 1, none⟩) hlt).trans ((World.ownsRow.cellAt h0 (i * 3 + 1) (by omega)).trans f2), (hW.cell (p := ⟨g, i * 3 + 2, none⟩) hlt).trans ((World.ownsRow.cellAt h0 (i * 3 + 2) (by omega)).trans f3)⟩
def strV (w h : Int) : Int := lnI w.toNat h.toNat 2
def lonV (w h : Int) : Int := if w = 1 ∧ h = 1 then 0 else lnI w.toNat h.toNat (max w h)
set_option maxHeartbeats 2000000 in
theorem specCountStraight_any (w h : Int) (W : World) :
    Calls Try.prog 32 #[.int .i64 w, .int .i64 h] W fun e w' => e = .returned (.tuple #[.int .i64 (bdV (bdB 12 w h) (strV w h)), .bool (bdB 12 w h)]) ∧ Below W.heap.size W w' := by
  have K := Lib.hid (ctBoard_any w h 12 W)
  by_cases hg : bdB 12 w h = true
  · obtain ⟨h1, h2, h3, h4⟩ := bdB_true hg
    have KC := Lib.hid (fun W => ctLines_any w.toNat h.toNat 2 W (by omega) (by omega) (by omega))
    rw [show ((w.toNat : Nat) : Int) = w by omega, show ((h.toNat : Nat) : Int) = h by omega] at KC
    rw [hg] at K ⊢
    rw [bdV_t]
    unfold strV
    generalize lnI w.toNat h.toNat 2 = v at *
    clear hg
    go_enter Try.func32, Try.ntmps32
    go_wp2_with fail
    refine K.out.mono ?_; rintro e w1 ⟨rfl, hb1⟩
    go_wp2_with fail
    refine (KC.out w1).mono ?_; rintro e w2 ⟨rfl, hb2⟩
    go_wp2_with fail
    go_ret2
    exact ⟨rfl, hb1.trans (hb2.mono hb1.size)⟩
  · have hf : bdB 12 w h = false := by simpa using hg
    rw [hf] at K ⊢
    rw [bdV_f]
    clear hg hf
    go_enter Try.func32, Try.ntmps32
    go_wp2_with fail
    refine K.out.mono ?_; rintro e w1 ⟨rfl, hb1⟩
    go_wp2_with fail
    go_ret2
    exact ⟨rfl, hb1⟩
set_option maxHeartbeats 2000000 in
theorem implCountStraight_any (w h : Int) (W : World) :
    Calls Try.prog 33 #[.int .i64 w, .int .i64 h] W fun e w' => e = .returned (.tuple #[.int .i64 (bdV (bdB 12 w h) (strV w h)), .bool (bdB 12 w h)]) ∧ Below W.heap.size W w' := by
  by_cases hg : bdB 12 w h = true
  · have K := Lib.hid (boardUpTo_t 12 w h W hg)
    obtain ⟨h1, h2, h3, h4⟩ := bdB_true hg
    have KT := Lib.hid (fun W => straights_any w.toNat h.toNat W (by omega) (by omega))
    rw [show ((w.toNat : Nat) : Int) = w by omega, show ((h.toNat : Nat) : Int) = h by omega] at KT
    have HV : Hid ((((stS w.toNat h.toNat (w.toNat * h.toNat)).length : Nat) : Int) = strV w h) := Lib.hid (tot_is (by omega) (by omega) (by omega) (by omega))
    rw [hg, bdV_t]
    generalize strV w h = v at *
    generalize stS w.toNat h.toNat (w.toNat * h.toNat) = L at *
    clear hg
    go_enter Try.func33, Try.ntmps33
    go_wp2_with fail
    refine K.out.mono ?_; rintro e w1 ⟨rfl, hb1⟩
    go_wp2_with fail
    obtain ⟨W2, hW2⟩ : ∃ W2, W2 = (w1.alloc (.cells #[.int .i64 w, .int .i64 h] 34)) := ⟨_, rfl⟩
    rw [← hW2]
    have yW20_0 : W2.cell? ⟨w1.heap.size, 0, none⟩ = some (.int .i64 w) := by rw [hW2]; go_simp
    have yW20_1 : W2.cell? ⟨w1.heap.size, 1, none⟩ = some (.int .i64 h) := by rw [hW2]; go_simp
    have fW20 : ∀ o, W2.frozen? ⟨w1.heap.size, o, none⟩ = false := by intro o; rw [hW2]; (repeat rw [frozen?_alloc_cells]); simp [World.frozen?]
    have zW20 : w1.heap.size < W2.heap.size := by rw [hW2]; simp <;> omega
    have BW2 : Below w1.heap.size w1 W2 := by rw [hW2]; exact (Below.alloc (Below.refl _ _) (by simp <;> omega) _)
    have eW2 : Hid (W2.heap.size = w1.heap.size + 1) := Lib.hid (by rw [hW2]; simp)
    clear hW2
    have B2 := hb1.trans (BW2.mono hb1.size)
    refine (KT.out W2).mono ?_; intro e w2 hret
    obtain ⟨A, c, rfl, hc1, hc2, hb2, hrd⟩ := retT_read hret
    have B3 := B2.trans (hb2.mono B2.size)
    unfold maxLen at hc2
    clear hret hrd hb2 hb1 B2 KT K yW20_0 yW20_1 fW20 zW20 eW2 BW2
    generalize L.length = n at *
    go_wp2_with fail
    go_ret2
    exact ⟨by rw [← HV.out]; rfl, B3⟩
  · have hf : bdB 12 w h = false := by simpa using hg
    have K := Lib.hid (boardUpTo_f 12 w h W hf)
    rw [hf, bdV_f]
    clear hg hf
    go_enter Try.func33, Try.ntmps33
    go_wp2_with fail
    refine K.out.mono ?_; rintro e w1 ⟨rfl, hb1⟩
    have BA := Below.alloc hb1 hb1.size (.cells #[.int .i64 0, .int .i64 0] 34)
    go_wp2_with fail
    go_ret2
    exact ⟨rfl, BA⟩
set_option maxHeartbeats 2000000 in
theorem specCountOnLongest_any (w h : Int) (W : World) :
    Calls Try.prog 36 #[.int .i64 w, .int .i64 h] W fun e w' => e = .returned (.tuple #[.int .i64 (bdV (bdB 12 w h) (lonV w h)), .bool (bdB 12 w h)]) ∧ Below W.heap.size W w' := by
  have K := Lib.hid (ctBoard_any w h 12 W)
  by_cases hg : bdB 12 w h = true
  · obtain ⟨h1, h2, h3, h4⟩ := bdB_true hg
    have KC := Lib.hid (fun W => ctLines_any w.toNat h.toNat (max w h) W (by omega) (by omega) (by omega))
    have KM := Lib.hid (fun W => l1Most_any w h W)
    rw [show ((w.toNat : Nat) : Int) = w by omega, show ((h.toNat : Nat) : Int) = h by omega] at KC
    rw [hg] at K ⊢
    rw [bdV_t]
    unfold lonV
    generalize lnI w.toNat h.toNat (max w h) = v at *
    generalize max w h = M at *
    clear hg
    by_cases g1 : w = 1
    · by_cases g2 : h = 1
      · subst g1; subst g2
        rw [if_pos ⟨rfl, rfl⟩]
        go_enter Try.func36, Try.ntmps36
        go_wp2_with fail
        refine K.out.mono ?_; rintro e w1 ⟨rfl, hb1⟩
        go_wp2_with fail
        go_ret2
        exact ⟨rfl, hb1⟩
      · subst g1
        rw [if_neg (by omega)]
        go_enter Try.func36, Try.ntmps36
        go_wp2_with fail
        refine K.out.mono ?_; rintro e w1 ⟨rfl, hb1⟩
        go_wp2_with fail
        refine (KM.out _).mono ?_; rintro e _ ⟨rfl, rfl⟩
        go_wp2_with fail
        refine (KC.out w1).mono ?_; rintro e w2 ⟨rfl, hb2⟩
        go_wp2_with fail
        go_ret2
        exact ⟨rfl, hb1.trans (hb2.mono hb1.size)⟩
    · rw [if_neg (by omega)]
      go_enter Try.func36, Try.ntmps36
      go_wp2_with fail
      refine K.out.mono ?_; rintro e w1 ⟨rfl, hb1⟩
      go_wp2_with fail
      refine (KM.out _).mono ?_; rintro e _ ⟨rfl, rfl⟩
      go_wp2_with fail
      refine (KC.out w1).mono ?_; rintro e w2 ⟨rfl, hb2⟩
      go_wp2_with fail
      go_ret2
      exact ⟨rfl, hb1.trans (hb2.mono hb1.size)⟩
  · have hf : bdB 12 w h = false := by simpa using hg
    rw [hf] at K ⊢
    rw [bdV_f]
    clear hg hf
    go_enter Try.func36, Try.ntmps36
    go_wp2_with fail
    refine K.out.mono ?_; rintro e w1 ⟨rfl, hb1⟩
    go_wp2_with fail
    go_ret2
    exact ⟨rfl, hb1⟩
set_option maxHeartbeats 4000000 in
theorem implCountOnLongest_any (w h : Int) (W : World) :
    Calls Try.prog 37 #[.int .i64 w, .int .i64 h] W fun e w' => e = .returned (.tuple #[.int .i64 (bdV (bdB 12 w h) (lonV w h)), .bool (bdB 12 w h)]) ∧ Below W.heap.size W w' := by
  by_cases hg : bdB 12 w h = true
  · have K := Lib.hid (boardUpTo_t 12 w h W hg)
    obtain ⟨h1, h2, h3, h4⟩ := bdB_true hg
    have KT := Lib.hid (fun W => straights_any w.toNat h.toNat W (by omega) (by omega))
    rw [show ((w.toNat : Nat) : Int) = w by omega, show ((h.toNat : Nat) : Int) = h by omega] at KT
    have hv := lon_is (w := w.toNat) (h := h.toNat) (by omega) (by omega) (by omega) (by omega)
    rw [show ((w.toNat : Nat) : Int) = w by omega, show ((h.toNat : Nat) : Int) = h by omega] at hv
    have HV : Hid (((cntT (max w h) (stS w.toNat h.toNat (w.toNat * h.toNat)) : Nat) : Int) = lonV w h) := Lib.hid (by
      rw [hv]
      unfold lonV
      by_cases g : w = 1 ∧ h = 1
      · rw [if_pos g, if_pos (by omega)]
      · rw [if_neg g, if_neg (by omega)])
    have hlen := stS_len w.toNat h.toNat (w.toNat * h.toNat) (Nat.le_refl _)
    have h144 := bd_mul (show w.toNat ≤ 12 by omega) (show h.toNat ≤ 12 by omega)
    have hl2 := Nat.mul_le_mul h144 h144
    have hl3 : (stS w.toNat h.toNat (w.toNat * h.toNat)).length ≤ 20736 := by omega
    rw [hg, bdV_t]
    clear hlen h144 hl2 hv
    generalize lonV w h = v at *
    generalize stS w.toNat h.toNat (w.toNat * h.toNat) = L at *
    obtain ⟨M, hM⟩ : ∃ M, M = max w h := ⟨_, rfl⟩
    have HMM := Lib.hid hM
    rw [← hM] at HV
    clear hg hM
    have HN : Hid (∀ k p, L[k]? = some p → cntT M (L.take (k + 1)) = cntT M (L.take k) + if p.2.2 = M then 1 else 0) := Lib.hid (fun k p hk => by
      rw [List.take_add_one, hk, cntT_app]
      simp [cntT])
    have HB : Hid (∀ k, k ≤ L.length → cntT M (L.take k) ≤ k) := Lib.hid (fun k hk => by
      have := cntT_le M (L.take k)
      rw [List.length_take] at this
      omega)
    have H0 : Hid (cntT M (L.take 0) = 0) := Lib.hid (by simp [cntT])
    have HE : Hid (cntT M (L.take L.length) = cntT M L) := Lib.hid (by rw [List.take_length])
    have HG : Hid (∀ k, k < L.length → ∃ p1 p2 p3, L[k]? = some (p1, p2, p3)) := Lib.hid (fun k hk => ⟨_, _, _, List.getElem?_eq_getElem hk⟩)
    go_enter Try.func37, Try.ntmps37
    go_wp2_with fail
    refine K.out.mono ?_; rintro e w1 ⟨rfl, hb1⟩
    go_wp2_with fail
    obtain ⟨W2, hW2⟩ : ∃ W2, W2 = (w1.alloc (.cells #[.int .i64 w, .int .i64 h] 34)) := ⟨_, rfl⟩
    rw [← hW2]
    have yW20_0 : W2.cell? ⟨w1.heap.size, 0, none⟩ = some (.int .i64 w) := by rw [hW2]; go_simp
    have yW20_1 : W2.cell? ⟨w1.heap.size, 1, none⟩ = some (.int .i64 h) := by rw [hW2]; go_simp
    have fW20 : ∀ o, W2.frozen? ⟨w1.heap.size, o, none⟩ = false := by intro o; rw [hW2]; (repeat rw [frozen?_alloc_cells]); simp [World.frozen?]
    have zW20 : w1.heap.size < W2.heap.size := by rw [hW2]; simp <;> omega
    have BW2 : Below w1.heap.size w1 W2 := by rw [hW2]; exact (Below.alloc (Below.refl _ _) (by simp <;> omega) _)
    have eW2 : Hid (W2.heap.size = w1.heap.size + 1) := Lib.hid (by rw [hW2]; simp)
    clear hW2
    have B2 := hb1.trans (BW2.mono hb1.size)
    refine (KT.out W2).mono ?_; intro e w2 hret
    obtain ⟨A, c, rfl, hc1, hc2, hb2, hrd⟩ := retT_read hret
    have HC := Lib.hid hrd
    have B3 := B2.trans (hb2.mono B2.size)
    unfold maxLen at hc2
    clear hret hrd hb2 hb1 B2 KT K yW20_0 yW20_1 fW20 zW20 eW2 BW2
    obtain ⟨C, hC⟩ : ∃ C : Nat → Nat, C = fun k => cntT M (L.take k) := ⟨_, rfl⟩
    have eC : ∀ k, cntT M (L.take k) = C k := fun k => by rw [hC]
    simp only [eC] at HN HB H0 HE
    generalize hn : L.length = n at *
    have HNN := Lib.hid hn
    clear hn hC eC
    go_wp2_with fail
    go_loopg [8, 22] n (fun g s i wr => ∃ k : Nat, k ≤ n ∧ g = n - k ∧ i = .int .i64 k ∧ s = .int .i64 ((C k : Nat) : Int) ∧ Below w2.heap.size w2 wr)
    case atStart => exact ⟨0, Nat.zero_le _, rfl, rfl, by rw [H0.out]; rfl, Below.refl _ _⟩
    case round =>
      obtain ⟨k, hk, hg, rfl, rfl, hB⟩ := hrel
      rename World => wo
      have HGK := Lib.hid hg
      clear hg
      have hs1 := HB.out k hk
      by_cases hlt : k < n
      · obtain ⟨p1, p2, p3, hp⟩ := HG.out k hlt
        obtain ⟨b, hA, hb, x1, x2, x3⟩ := HC.out wo hB k _ hp
        subst hA
        have HNk := Lib.hid (HN.out k _ hp)
        simp only at x1 x2 x3 HNk
        have zB := hB.size
        have zb := Nat.lt_of_lt_of_le hb zB
        have hmm : max w h = M := HMM.out.symm
        have mx : ∀ x y : Int, (if x < y then y else x) = max x y := fun x y => by omega
        have BQ := Below.alloc hB zB (.cells #[.int .i64 p1, .int .i64 p2, .int .i64 p3] 64)
        generalize C k = t at *
        clear hp
        by_cases hq : p3 = M
        · have HK1 := Lib.hid (HNk.out.trans (by rw [if_pos hq]))
          subst hq
          clear HNk
          go_wp2_with fail
          go_roundg (n - (k + 1))
          case measure => have := HGK.out; omega
          case rel => exact ⟨k + 1, by omega, rfl, by go_num, by rw [HK1.out]; go_num, BQ⟩
        · have HK1 := Lib.hid (HNk.out.trans (by rw [if_neg hq, Nat.add_zero]))
          clear HNk
          go_wp2_with fail
          go_roundg (n - (k + 1))
          case measure => have := HGK.out; omega
          case rel => exact ⟨k + 1, by omega, rfl, by go_num, by rw [HK1.out], BQ⟩
      · obtain rfl : k = n := by omega
        have eV : Hid (((C k : Nat) : Int) = v) := Lib.hid (by rw [HE.out]; exact HV.out)
        go_wp2_with fail
        go_ret2
        exact ⟨by rw [eV.out]; rfl, B3.trans (hB.mono B3.size)⟩
  · have hf : bdB 12 w h = false := by simpa using hg
    have K := Lib.hid (boardUpTo_f 12 w h W hf)
    rw [hf, bdV_f]
    clear hg hf
    go_enter Try.func37, Try.ntmps37
    go_wp2_with fail
    refine K.out.mono ?_; rintro e w1 ⟨rfl, hb1⟩
    have BA := Below.alloc hb1 hb1.size (.cells #[.int .i64 0, .int .i64 0] 34)
    go_wp2_with fail
    go_ret2
    exact ⟨rfl, BA⟩
end Go.Proofs.Ytmhdbodmpohdnaa
