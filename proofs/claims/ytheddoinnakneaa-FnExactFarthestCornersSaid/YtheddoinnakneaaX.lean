/- contract: the program's test of a polygon -/
import Derived.Test.YtheddoinnakneaaW
namespace Go.Proofs.Ytheddoinnakneaa
open Go.ChangeShapes Go.WideShapes Go.ChangeAt Go.RowKit Go.Joins
set_option linter.unusedVariables false
set_option linter.unusedSimpArgs false
set_option maxRecDepth 4000
set_option maxHeartbeats 4000000 in
theorem implIsPolygon_any (A : Option Addr) (c : Nat) (l : List (Int × Int)) (w : World) (hn : l.length ≤ 1048576) (hR : Rd w w.heap.size A l) :
    Calls Try.prog 55 #[.slice A l.length c] w fun e w' => e = .returned (.bool (goodB l)) ∧ Below w.heap.size w w' := by
  have KA := Lib.hid (fun W hb => arePegs_any A c l W hn (rd_more (rd_below hR hb (Nat.le_refl _)) hb.size))
  by_cases hlo : l.length < 3
  · have hng : Hid (goodB l = false) := Lib.hid (goodB_false (fun h => by have := h.few; omega))
    have d1 : ((l.length : Int) < 3) := by omega
    clear hR
    go_enter Try.func55, Try.ntmps55
    go_wp2_with fail
    go_ret
    exact ⟨ret_bool hng.out.symm, Below.refl _ _⟩
  · by_cases hhi : 10 < l.length
    · have hng : Hid (goodB l = false) := Lib.hid (goodB_false (fun h => by have := h.few; omega))
      have d1 : ¬ ((l.length : Int) < 3) := by omega
      have d2 : ((10 : Int) < (l.length : Int)) := by omega
      clear hR
      go_enter Try.func55, Try.ntmps55
      go_wp2_with fail
      go_ret
      exact ⟨ret_bool hng.out.symm, Below.refl _ _⟩
    · have d1 : ¬ ((l.length : Int) < 3) := by omega
      have d2 : ¬ ((10 : Int) < (l.length : Int)) := by omega
      by_cases hpg : pegsB l = true
      · have K1 := Lib.hid (KA.out w (Below.refl _ _))
        rw [hpg] at K1
        have hpe := (pegsB_iff l).1 hpg
        have HPE := Lib.hid hpe
        have KC := Lib.hid (fun W (hb : Below w.heap.size w W) => cornersAround_any A c l W (by omega) (by omega) (rd_more (rd_below hR hb (Nat.le_refl _)) hb.size))
        have HFEW := Lib.hid (show 3 ≤ l.length ∧ l.length ≤ 10 by omega)
        have HG := Lib.hid (fun h => goodB_false (l := l) h)
        have HT := Lib.hid (fun h => goodB_true (l := l) h)
        clear hpg hpe KA hR
        have hL1 : ((3 : Int) ≤ (l.length : Int)) := by omega
        have hL2 : ((l.length : Int) ≤ 10) := by omega
        clear hlo hhi
        generalize hN : l.length = n at *
        have HN := Lib.hid hN
        clear hN
        go_enter Try.func55, Try.ntmps55
        go_wp2_with fail
        refine K1.out.mono ?_; rintro e w1 ⟨rfl, hb1⟩
        go_wp2_with fail
        refine (KC.out w1 hb1).mono ?_; rintro e w2 ⟨rfl, hb2, hSC⟩
        have B2 : Below w.heap.size w w2 := hb1.trans (hb2.mono hb1.size)
        have hw1 := hb1.size
        obtain ⟨g, hg⟩ : ∃ g, g = w1.heap.size := ⟨_, rfl⟩
        rw [← hg] at hSC ⊢
        have hgs : g < w2.heap.size := hSC.1
        have CE : Hid (∀ W, Below w2.heap.size w2 W → ∀ i, i < n → (W.cell? ⟨g, i * 6, none⟩ = some (.int .i64 (vx l i).1) ∧ W.cell? ⟨g, i * 6 + 1, none⟩ = some (.int .i64 (vx l i).2) ∧ W.cell? ⟨g, i * 6 + 2, none⟩ = some (.int .i64 (vx l (i + n - 1)).1) ∧ W.cell? ⟨g, i * 6 + 3, none⟩ = some (.int .i64 (vx l (i + n - 1)).2) ∧ W.cell? ⟨g, i * 6 + 4, none⟩ = some (.int .i64 (vx l (i + 1)).1) ∧ W.cell? ⟨g, i * 6 + 5, none⟩ = some (.int .i64 (vx l (i + 1)).2))) := Lib.hid (fun W hW i hi => by
          obtain ⟨c0, c1, c2, c3, c4, c5⟩ := hSC.2.2 i hi
          have hc := (bcell hW).1
          exact ⟨(hc _ _ hgs).trans c0, (hc _ _ hgs).trans c1, (hc _ _ hgs).trans c2, (hc _ _ hgs).trans c3, (hc _ _ hgs).trans c4, (hc _ _ hgs).trans c5⟩)
        have TR : Hid (∀ W, Below w2.heap.size w2 W → Below w.heap.size w W) := Lib.hid (fun W hW => B2.trans (hW.mono B2.size))
        clear K1 KC hb1 hb2 hSC B2 hw1 hg
        go_wp2_with fail
        go_loopg [25] n (fun gg i wr => ∃ k : Nat, k ≤ n ∧ gg = n - k ∧ i = .int .i64 k ∧ Below w2.heap.size w2 wr ∧ Hid (Seen l k))
        case atStart => exact ⟨0, Nat.zero_le _, rfl, rfl, Below.refl _ _, Lib.hid (fun i h => absurd h (Nat.not_lt_zero _))⟩
        case round =>
          obtain ⟨k, hk, hgg, rfl, hB, hF⟩ := hrel
          rename World => wo
          have HGK := Lib.hid hgg
          clear hgg
          by_cases hlt : k < n
          · obtain ⟨x0, x1, x2, x3, x4, x5⟩ := CE.out wo hB k hlt
            have hzB := hB.size
            have hgo : g < wo.heap.size := by omega
            have z1 := sz_of (x := (vx l k).1) (y := (vx l k).2) (HPE.out k hlt)
            have z2 : Sz (vx l (k + n - 1)).1 (vx l (k + n - 1)).2 := sz_of (by rw [← HN.out, ← vx_per]; exact HPE.out _ (by rw [HN.out]; exact Nat.mod_lt _ (by omega)))
            have z3 : Sz (vx l (k + 1)).1 (vx l (k + 1)).2 := sz_of (by rw [← vx_per, HN.out]; exact HPE.out _ (Nat.mod_lt _ (by omega)))
            have T := Lib.hid (fun W => turn_any (vx l k).1 (vx l k).2 (vx l (k + n - 1)).1 (vx l (k + n - 1)).2 (vx l (k + 1)).1 (vx l (k + 1)).2 W z1 z2 z3)
            clear z1 z2 z3
            by_cases hz : twI (vx l (k + n - 1)).1 (vx l (k + n - 1)).2 (vx l k).1 (vx l k).2 (vx l (k + 1)).1 (vx l (k + 1)).2 = 0
            · rw [hz] at T
              have hng : Hid (goodB l = false) := Lib.hid (HG.out (fun h => (good_seen h k (by have := HN.out; omega)).1 (by rw [HN.out]; exact hz)))
              clear hz
              go_wp2_with fail
              refine (T.out _).mono ?_; rintro e w3 ⟨rfl, hb3⟩
              have B3 := Lib.hid (TR.out _ ((Below.alloc hB hzB (.cells #[.int .i64 (vx l k).1, .int .i64 (vx l k).2, .int .i64 (vx l (k + n - 1)).1, .int .i64 (vx l (k + n - 1)).2, .int .i64 (vx l (k + 1)).1, .int .i64 (vx l (k + 1)).2] 107)).trans (hb3.mono (by simp; omega))))
              go_wp2_with fail
              go_ret
              exact ⟨ret_bool hng.out.symm, B3.out⟩
            · have HTW : Hid (twP (vx l (k + l.length - 1)) (vx l k) (vx l (k + 1)) ≠ 0) := Lib.hid (by rw [HN.out]; exact hz)
              have hzb : (twI (vx l (k + n - 1)).1 (vx l (k + n - 1)).2 (vx l k).1 (vx l k).2 (vx l (k + 1)).1 (vx l (k + 1)).2 == 0) = false := by simpa using hz
              generalize twI (vx l (k + n - 1)).1 (vx l (k + n - 1)).2 (vx l k).1 (vx l k).2 (vx l (k + 1)).1 (vx l (k + 1)).2 = t at *
              go_wp2_with fail
              refine (T.out _).mono ?_; rintro e w3 ⟨rfl, hb3⟩
              have B3 := (Below.alloc hB hzB (.cells #[.int .i64 (vx l k).1, .int .i64 (vx l k).2, .int .i64 (vx l (k + n - 1)).1, .int .i64 (vx l (k + n - 1)).2, .int .i64 (vx l (k + 1)).1, .int .i64 (vx l (k + 1)).2] 107)).trans (hb3.mono (by simp; omega))
              have hz1 : wo.heap.size < w3.heap.size := by (have := hb3.size; simp at this; omega)
              have y0 : w3.cell? ⟨wo.heap.size, 0, none⟩ = some (.int .i64 (vx l k).1) := ((bcell hb3).1 _ _ (by simp)).trans (by go_simp)
              have y1 : w3.cell? ⟨wo.heap.size, 1, none⟩ = some (.int .i64 (vx l k).2) := ((bcell hb3).1 _ _ (by simp)).trans (by go_simp)
              have y2 : w3.cell? ⟨wo.heap.size, 2, none⟩ = some (.int .i64 (vx l (k + n - 1)).1) := ((bcell hb3).1 _ _ (by simp)).trans (by go_simp)
              have y3 : w3.cell? ⟨wo.heap.size, 3, none⟩ = some (.int .i64 (vx l (k + n - 1)).2) := ((bcell hb3).1 _ _ (by simp)).trans (by go_simp)
              have y4 : w3.cell? ⟨wo.heap.size, 4, none⟩ = some (.int .i64 (vx l (k + 1)).1) := ((bcell hb3).1 _ _ (by simp)).trans (by go_simp)
              have y5 : w3.cell? ⟨wo.heap.size, 5, none⟩ = some (.int .i64 (vx l (k + 1)).2) := ((bcell hb3).1 _ _ (by simp)).trans (by go_simp)
              clear x0 x1 x2 x3 x4 x5 hb3 T
              go_wp2_with fail
              clear hzb hz
              go_loopg [37] k (fun g2 j wi => ∃ m : Nat, m ≤ k ∧ g2 = k - m ∧ j = .int .i64 m ∧ Below w2.heap.size w2 wi ∧ wo.heap.size < wi.heap.size ∧ wi.cell? ⟨wo.heap.size, 0, none⟩ = some (.int .i64 (vx l k).1) ∧ wi.cell? ⟨wo.heap.size, 1, none⟩ = some (.int .i64 (vx l k).2) ∧ wi.cell? ⟨wo.heap.size, 2, none⟩ = some (.int .i64 (vx l (k + n - 1)).1) ∧ wi.cell? ⟨wo.heap.size, 3, none⟩ = some (.int .i64 (vx l (k + n - 1)).2) ∧ wi.cell? ⟨wo.heap.size, 4, none⟩ = some (.int .i64 (vx l (k + 1)).1) ∧ wi.cell? ⟨wo.heap.size, 5, none⟩ = some (.int .i64 (vx l (k + 1)).2) ∧ Hid (∀ j, j < m → vx l k ≠ vx l j ∧ crP (vx l k) (vx l (k + 1)) (vx l j) (vx l (j + 1)) = false))
              case atStart => exact ⟨0, Nat.zero_le _, rfl, rfl, B3, hz1, y0, y1, y2, y3, y4, y5, Lib.hid (fun j h => absurd h (Nat.not_lt_zero _))⟩
              case round =>
                clear y0 y1 y2 y3 y4 y5 B3 hz1
                obtain ⟨m, hm, hg2, rfl, hBi, hzi, v0, v1, v2, v3, v4, v5, hD⟩ := hrel
                have HGM := Lib.hid hg2
                clear hg2
                by_cases hlm : m < k
                · obtain ⟨q1, q2, r1, r2, s1, s2, hqe, hse, u0, u1, u2, u3, u4, u5⟩ : ∃ q1 q2 r1 r2 s1 s2, vx l m = (q1, q2) ∧ vx l (m + 1) = (s1, s2) ∧ wr.cell? ⟨g, m * 6, none⟩ = some (.int .i64 q1) ∧ wr.cell? ⟨g, m * 6 + 1, none⟩ = some (.int .i64 q2) ∧ wr.cell? ⟨g, m * 6 + 2, none⟩ = some (.int .i64 r1) ∧ wr.cell? ⟨g, m * 6 + 3, none⟩ = some (.int .i64 r2) ∧ wr.cell? ⟨g, m * 6 + 4, none⟩ = some (.int .i64 s1) ∧ wr.cell? ⟨g, m * 6 + 5, none⟩ = some (.int .i64 s2) := by
                    obtain ⟨t0, t1, t2, t3, t4, t5⟩ := CE.out wr hBi m (by omega)
                    exact ⟨_, _, _, _, _, _, rfl, rfl, t0, t1, t2, t3, t4, t5⟩
                  have hzi2 := hBi.size
                  have hgr : g < wr.heap.size := by omega
                  have n1 := HPE.out k hlt
                  have n2 : isPegB (vx l (k + 1)).1 (vx l (k + 1)).2 = true := by rw [← vx_per, HN.out]; exact HPE.out _ (Nat.mod_lt _ (by omega))
                  have n3 : isPegB q1 q2 = true := by have := HPE.out m (by omega); rw [hqe] at this; exact this
                  have n4 : isPegB s1 s2 = true := by have : isPg (vx l (m + 1)) = true := (by rw [← vx_per, HN.out]; exact HPE.out _ (Nat.mod_lt _ (by omega))); rw [hse] at this; exact this
                  have K := Lib.hid (fun W => isCrossing_any (vx l k).1 (vx l k).2 (vx l (k + n - 1)).1 (vx l (k + n - 1)).2 (vx l (k + 1)).1 (vx l (k + 1)).2 q1 q2 r1 r2 s1 s2 W n1 n2 n3 n4)
                  have HQE := Lib.hid hqe
                  have HSE := Lib.hid hse
                  clear n1 n2 n3 n4 hqe hse
                  by_cases heq : (vx l k).1 = q1 ∧ (vx l k).2 = q2
                  · have hng : Hid (goodB l = false) := Lib.hid (HG.out (fun h => h.diff k m hlm (by have := HN.out; omega) (by rw [HQE.out]; exact Prod.ext heq.1 heq.2)))
                    obtain ⟨rfl, rfl⟩ := heq
                    have B5 := Lib.hid (TR.out _ (Below.alloc hBi hzi2 (.cells #[.int .i64 (vx l k).1, .int .i64 (vx l k).2, .int .i64 r1, .int .i64 r2, .int .i64 s1, .int .i64 s2] 107)))
                    go_wp2_with fail
                    go_ret
                    exact ⟨ret_bool hng.out.symm, B5.out⟩
                  · have hne : vx l k ≠ vx l m := fun e => heq (by rw [HQE.out] at e; rw [e]; exact ⟨rfl, rfl⟩)
                    have HNE := Lib.hid hne
                    by_cases hcr : crB (vx l k).1 (vx l k).2 (vx l (k + 1)).1 (vx l (k + 1)).2 q1 q2 s1 s2 = true
                    · have hng : Hid (goodB l = false) := Lib.hid (HG.out (fun h => by
                        have := ((good_seen h k (by have := HN.out; omega)).2 m hlm).2
                        rw [HQE.out, HSE.out] at this
                        unfold crP at this
                        rw [hcr] at this
                        cases this))
                      rw [hcr] at K
                      clear hcr hne
                      by_cases h1 : (vx l k).1 = q1
                      · have h2 : ¬ (vx l k).2 = q2 := fun h => heq ⟨h1, h⟩
                        clear heq
                        subst h1
                        go_wp2_with fail
                        refine (K.out _).mono ?_; rintro e w4 ⟨rfl, hb4⟩
                        have B4 := (Below.alloc hBi hzi2 (.cells #[.int .i64 (vx l k).1, .int .i64 q2, .int .i64 r1, .int .i64 r2, .int .i64 s1, .int .i64 s2] 107)).trans (hb4.mono (by simp; omega))
                        have B5 := Lib.hid (TR.out _ B4)
                        go_wp2_with fail
                        go_ret
                        exact ⟨ret_bool hng.out.symm, B5.out⟩
                      · clear heq
                        go_wp2_with fail
                        refine (K.out _).mono ?_; rintro e w4 ⟨rfl, hb4⟩
                        have B4 := (Below.alloc hBi hzi2 (.cells #[.int .i64 q1, .int .i64 q2, .int .i64 r1, .int .i64 r2, .int .i64 s1, .int .i64 s2] 107)).trans (hb4.mono (by simp; omega))
                        have B5 := Lib.hid (TR.out _ B4)
                        go_wp2_with fail
                        go_ret
                        exact ⟨ret_bool hng.out.symm, B5.out⟩
                    · have hcf : crB (vx l k).1 (vx l k).2 (vx l (k + 1)).1 (vx l (k + 1)).2 q1 q2 s1 s2 = false := by simpa using hcr
                      have hD2 : Hid (∀ j, j < m + 1 → vx l k ≠ vx l j ∧ crP (vx l k) (vx l (k + 1)) (vx l j) (vx l (j + 1)) = false) := Lib.hid (fun j hj => by
                        by_cases hjm : j = m
                        · subst hjm; exact ⟨HNE.out, by rw [HQE.out, HSE.out]; exact hcf⟩
                        · exact hD.out j (by omega))
                      rw [hcf] at K
                      clear hcr hcf hne hD
                      by_cases h1 : (vx l k).1 = q1
                      · have h2 : ¬ (vx l k).2 = q2 := fun h => heq ⟨h1, h⟩
                        clear heq
                        subst h1
                        go_wp2_with fail
                        refine (K.out _).mono ?_; rintro e w4 ⟨rfl, hb4⟩
                        have B4 := (Below.alloc hBi hzi2 (.cells #[.int .i64 (vx l k).1, .int .i64 q2, .int .i64 r1, .int .i64 r2, .int .i64 s1, .int .i64 s2] 107)).trans (hb4.mono (by simp; omega))
                        have zz : wo.heap.size < w4.heap.size := by (have := hb4.size; simp at this; omega)
                        have Y0 := Lib.hid (((bcell hb4).1 _ 0 (by simp; omega)).trans ((World.cell?_alloc_lt wr _ _ hzi).trans v0))
                        have Y1 := Lib.hid (((bcell hb4).1 _ 1 (by simp; omega)).trans ((World.cell?_alloc_lt wr _ _ hzi).trans v1))
                        have Y2 := Lib.hid (((bcell hb4).1 _ 2 (by simp; omega)).trans ((World.cell?_alloc_lt wr _ _ hzi).trans v2))
                        have Y3 := Lib.hid (((bcell hb4).1 _ 3 (by simp; omega)).trans ((World.cell?_alloc_lt wr _ _ hzi).trans v3))
                        have Y4 := Lib.hid (((bcell hb4).1 _ 4 (by simp; omega)).trans ((World.cell?_alloc_lt wr _ _ hzi).trans v4))
                        have Y5 := Lib.hid (((bcell hb4).1 _ 5 (by simp; omega)).trans ((World.cell?_alloc_lt wr _ _ hzi).trans v5))
                        clear hb4
                        go_wp2_with fail
                        go_roundg (k - (m + 1))
                        case measure => have := HGM.out; omega
                        case rel => exact ⟨m + 1, by omega, rfl, by go_num, B4, zz, Y0.out, Y1.out, Y2.out, Y3.out, Y4.out, Y5.out, hD2⟩
                      · clear heq
                        go_wp2_with fail
                        refine (K.out _).mono ?_; rintro e w4 ⟨rfl, hb4⟩
                        have B4 := (Below.alloc hBi hzi2 (.cells #[.int .i64 q1, .int .i64 q2, .int .i64 r1, .int .i64 r2, .int .i64 s1, .int .i64 s2] 107)).trans (hb4.mono (by simp; omega))
                        have zz : wo.heap.size < w4.heap.size := by (have := hb4.size; simp at this; omega)
                        have Y0 := Lib.hid (((bcell hb4).1 _ 0 (by simp; omega)).trans ((World.cell?_alloc_lt wr _ _ hzi).trans v0))
                        have Y1 := Lib.hid (((bcell hb4).1 _ 1 (by simp; omega)).trans ((World.cell?_alloc_lt wr _ _ hzi).trans v1))
                        have Y2 := Lib.hid (((bcell hb4).1 _ 2 (by simp; omega)).trans ((World.cell?_alloc_lt wr _ _ hzi).trans v2))
                        have Y3 := Lib.hid (((bcell hb4).1 _ 3 (by simp; omega)).trans ((World.cell?_alloc_lt wr _ _ hzi).trans v3))
                        have Y4 := Lib.hid (((bcell hb4).1 _ 4 (by simp; omega)).trans ((World.cell?_alloc_lt wr _ _ hzi).trans v4))
                        have Y5 := Lib.hid (((bcell hb4).1 _ 5 (by simp; omega)).trans ((World.cell?_alloc_lt wr _ _ hzi).trans v5))
                        clear hb4
                        go_wp2_with fail
                        go_roundg (k - (m + 1))
                        case measure => have := HGM.out; omega
                        case rel => exact ⟨m + 1, by omega, rfl, by go_num, B4, zz, Y0.out, Y1.out, Y2.out, Y3.out, Y4.out, Y5.out, hD2⟩
                · have hmk : m = k := by omega
                  have hF2 : Hid (Seen l (k + 1)) := Lib.hid (fun i hi => by
                    by_cases hik : i = k
                    · subst hik; exact ⟨HTW.out, fun j hj => hD.out j (by omega)⟩
                    · exact hF.out i (by omega))
                  clear hD hF
                  go_wp2_with fail
                  go_roundg (n - (k + 1))
                  case measure => have := HGK.out; omega
                  case rel => exact ⟨k + 1, by omega, rfl, by go_num, hBi, hF2⟩
          · have hkn : n = k := by omega
            subst hkn
            have hy : Hid (goodB l = true) := Lib.hid (HT.out (seen_good (by have := HFEW.out; have := HN.out; omega) (fun i hi => HPE.out i (by have := HN.out; omega)) (by have := HN.out; rw [this]; exact hF.out)))
            have BB := Lib.hid (TR.out _ hB)
            go_wp2_with fail
            go_ret
            exact ⟨ret_bool hy.out.symm, BB.out⟩
      · have hpf : pegsB l = false := by simpa using hpg
        have hng : Hid (goodB l = false) := Lib.hid (goodB_false (fun h => hpg ((pegsB_iff l).2 h.pegs)))
        have K1 := Lib.hid (KA.out w (Below.refl _ _))
        rw [hpf] at K1
        clear hpf hpg KA hR hlo hhi
        go_enter Try.func55, Try.ntmps55
        go_wp2_with fail
        refine K1.out.mono ?_; rintro e w1 ⟨rfl, hb1⟩
        go_wp2_with fail
        go_ret
        exact ⟨ret_bool hng.out.symm, hb1⟩
end Go.Proofs.Ytheddoinnakneaa
