/- contract: lines that halve, the model -/
import Derived.Test.YthpbnfmfedggjaaBs
namespace Go.Proofs.Ythpbnfmfedggjaa
open Go.ChangeShapes Go.WideShapes Go.ChangeAt Go.RowKit Go.Joins
set_option linter.unusedVariables false
set_option linter.unusedSimpArgs false
set_option maxRecDepth 4000
set_option maxRecDepth 100000 in
set_option maxHeartbeats 4000000 in
theorem specHalvingLines_any (A : Option Addr) (c : Nat) (l : List (Int × Int)) (w : World) (hn : l.length ≤ 1048576) (hcap : l.length ≤ c) (hc2 : c ≤ 9223372036854775807) (hR : Rd w w.heap.size A l) :
    Calls Try.prog 35 #[.slice A l.length c] w fun e w' => e = .returned (.tuple #[.int .i64 (gi (hvB l) (allH l l.length)), .bool (hvB l)]) ∧ Below w.heap.size w w' := by
  have K := Lib.hid (bdGood_any A c l w hn hcap hc2 hR)
  by_cases hg : Dif l
  · rw [difB_true hg] at K
    by_cases hev : l.length % 2 = 0
    · have HR := Lib.hid hR
      clear hR
      have h30 := hg.few.2
      have h01 := hg.few.1
      have hrd : ∀ i, i < l.length → ∃ b off, A = some ⟨b, off, none⟩ ∧ b < w.heap.size ∧ ∀ i, i < l.length → w.cell? ⟨b, off + i * 2, none⟩ = some (.int .i64 (vx l i).1) ∧ w.cell? ⟨b, off + i * 2 + 1, none⟩ = some (.int .i64 (vx l i).2) := fun i hi => by
        obtain ⟨b, off, e, hb, hc⟩ := HR.out (by omega)
        exact ⟨b, off, e, hb, fun i hi => hc i _ (vx_get hi)⟩
      obtain ⟨b, off, rfl, hb, hcell⟩ := hrd 0 (by omega)
      have HC := Lib.hid hcell
      have HNB : Hid (∀ i, i < l.length → ∀ j, j < i → Bad l i j → hvB l = false) := Lib.hid (fun i hi j hj hbad => hvB_false (fun h => h.2.2 i hi j hj hbad))
      have HT : Hid ((∀ i, i < l.length → ∀ j, j < i → ¬ Bad l i j) → hvB l = true) := Lib.hid (fun h => hvB_true ⟨hg, hev, h⟩)
      have HSZ : Hid (∀ i, i < l.length → Sz (vx l i).1 (vx l i).2) := Lib.hid (fun i hi => sz_of (hg.fine i hi).1)
      have HNE : Hid (∀ i, i < l.length → ∀ k, k < l.length → k ≠ i → vx l k ≠ vx l i) := Lib.hid (fun i hi k hk hne => dif_ne hg hi hk hne)
      have HBAD : Hid (∀ i j, (∀ m, m < l.length → ¬ (twP (vx l i) (vx l j) (vx l m) = 0 ∧ m ≠ i ∧ m ≠ j)) → ¬ Bad l i j) := Lib.hid (fun i j h ⟨m, h1, h2⟩ => h m h1 h2)
      have HYB : Hid (∀ i j m, m < l.length → twP (vx l i) (vx l j) (vx l m) = 0 → m ≠ i → m ≠ j → Bad l i j) := Lib.hid (fun i j m h1 h2 h3 h4 => ⟨m, h1, h2, h3, h4⟩)
      have HHQ : Hid (∀ i j, hq l i j = decide (cntL l i j l.length = cntR l i j l.length)) := Lib.hid (fun i j => rfl)
      have hm2 : (l.length : Int).tmod 2 = 0 := by rw [Int.tmod_eq_emod_of_nonneg (by omega)]; omega
      clear hrd hcell HR hg
      generalize hN : l.length = n at *
      have HN := Lib.hid hN
      clear hN hev
      go_enter Try.func35, Try.ntmps35
      go_wp2_with fail
      refine K.out.mono ?_; rintro e w1 ⟨rfl, hb1⟩
      clear K
      go_wp2_with fail
      go_loopg [4, 25] n (fun g s i wr => ∃ k : Nat, k ≤ n ∧ g = n - k ∧ i = .int .i64 k ∧ s = .int .i64 (allH l k) ∧ Below w.heap.size w wr ∧ Hid (∀ i, i < k → ∀ j, j < i → ¬ Bad l i j))
      case atStart => exact ⟨0, Nat.zero_le _, rfl, rfl, rfl, hb1, Lib.hid (fun i h => absurd h (Nat.not_lt_zero _))⟩
      case round =>
        obtain ⟨k, hk, hg, rfl, rfl, hB, hF⟩ := hrel
        rename World => wo
        have HGK := Lib.hid hg
        clear hg hb1
        by_cases hlt : k < n
        · have hq1 : wo.cell? ⟨b, off + k * 2, none⟩ = some (.int .i64 (vx l k).1) := (hB.cell (p := ⟨b, off + k * 2, none⟩) hb).trans (HC.out k hlt).1
          have hq2 : wo.cell? ⟨b, off + k * 2 + 1, none⟩ = some (.int .i64 (vx l k).2) := (hB.cell (p := ⟨b, off + k * 2 + 1, none⟩) hb).trans (HC.out k hlt).2
          have hzB := hB.size
          have sa := HSZ.out k hlt
          have aB := allH_bd l k (by omega)
          have eA : allH l (k + 1) = allH l k + rowH l k k := rfl
          have HAN := Lib.hid eA
          obtain ⟨s0, hs0⟩ : ∃ s0, s0 = allH l k := ⟨_, rfl⟩
          have HS0 := Lib.hid hs0
          rw [← hs0] at aB ⊢
          clear hs0 eA
          have hkc : k ≤ c := by omega
          obtain ⟨a1, a2, hae⟩ : ∃ a1 a2, vx l k = (a1, a2) := ⟨_, _, rfl⟩
          have HAE := Lib.hid hae
          rw [hae] at hq1 hq2 sa
          clear hae
          go_wp2_with fail
          go_loopg [4, 34] k (fun g2 s j wi => ∃ m : Nat, m ≤ k ∧ g2 = k - m ∧ j = .int .i64 m ∧ s = .int .i64 (s0 + rowH l k m) ∧ Below w.heap.size w wi ∧ wo.heap.size < wi.heap.size ∧ wi.cell? ⟨wo.heap.size, 0, none⟩ = some (.int .i64 a1) ∧ wi.cell? ⟨wo.heap.size, 1, none⟩ = some (.int .i64 a2) ∧ Hid (∀ j, j < m → ¬ Bad l k j))
          case atStart => exact ⟨0, Nat.zero_le _, rfl, rfl, by unfold rowH; rw [Int.add_zero], Below.alloc hB hzB (.cells #[.int .i64 a1, .int .i64 a2] 38), by simp, by go_simp, by go_simp, Lib.hid (fun j h => absurd h (Nat.not_lt_zero _))⟩
          case round =>
            obtain ⟨m, hm, hg2, rfl, rfl, hBi, hzi, y1, y2, hD⟩ := hrel
            clear hq1 hq2
            rename World => wi
            have HGM := Lib.hid hg2
            clear hg2
            by_cases hlm : m < k
            · have hq3 : wi.cell? ⟨b, off + m * 2, none⟩ = some (.int .i64 (vx l m).1) := (hBi.cell (p := ⟨b, off + m * 2, none⟩) hb).trans (HC.out m (by omega)).1
              have hq4 : wi.cell? ⟨b, off + m * 2 + 1, none⟩ = some (.int .i64 (vx l m).2) := (hBi.cell (p := ⟨b, off + m * 2 + 1, none⟩) hb).trans (HC.out m (by omega)).2
              have sb := HSZ.out m (by omega)
              have rB := rowH_bd l k m
              have eR : rowH l k (m + 1) = rowH l k m + if hq l k m = true then 1 else 0 := rfl
              have HRN := Lib.hid eR
              clear eR
              obtain ⟨b1, b2, hbe⟩ : ∃ b1 b2, vx l m = (b1, b2) := ⟨_, _, rfl⟩
              have HBE := Lib.hid hbe
              rw [hbe] at hq3 hq4 sb
              clear hbe
              generalize rowH l k m = r0 at *
              go_wp2_with fail
              go_loopg [9, 10, 40] n (fun g3 x y q wc => ∃ z : Nat, z ≤ n ∧ g3 = n - z ∧ q = .int .i64 z ∧ x = .int .i64 (cntL l k m z) ∧ y = .int .i64 (cntR l k m z) ∧ Below w.heap.size w wc ∧ wo.heap.size < wi.heap.size ∧ wi.heap.size < wc.heap.size ∧ wc.cell? ⟨wo.heap.size, 0, none⟩ = some (.int .i64 a1) ∧ wc.cell? ⟨wo.heap.size, 1, none⟩ = some (.int .i64 a2) ∧ wc.cell? ⟨wi.heap.size, 0, none⟩ = some (.int .i64 b1) ∧ wc.cell? ⟨wi.heap.size, 1, none⟩ = some (.int .i64 b2) ∧ Hid (∀ j, j < z → ¬ (twP (vx l k) (vx l m) (vx l j) = 0 ∧ j ≠ k ∧ j ≠ m)))
              case atStart => exact ⟨0, Nat.zero_le _, rfl, rfl, rfl, rfl, Below.alloc hBi hBi.size (.cells #[.int .i64 b1, .int .i64 b2] 38), hzi, by simp, by go_simp, by go_simp, by go_simp, by go_simp, Lib.hid (fun j h => absurd h (Nat.not_lt_zero _))⟩
              case round =>
                obtain ⟨z, hz, hg3, rfl, rfl, rfl, hBc, hzi2, hzc, u1, u2, u3, u4, hE⟩ := hrel
                clear hq3 hq4 y1 y2
                rename World => wc
                have HGZ := Lib.hid hg3
                clear hg3
                by_cases hlz : z < n
                · have hq5 : wc.cell? ⟨b, off + z * 2, none⟩ = some (.int .i64 (vx l z).1) := (hBc.cell (p := ⟨b, off + z * 2, none⟩) hb).trans (HC.out z hlz).1
                  have hq6 : wc.cell? ⟨b, off + z * 2 + 1, none⟩ = some (.int .i64 (vx l z).2) := (hBc.cell (p := ⟨b, off + z * 2 + 1, none⟩) hb).trans (HC.out z hlz).2
                  have sc := HSZ.out z hlz
                  have cL := cntL_bd l k m z
                  have cR := cntR_bd l k m z
                  have HCL : Hid (cntL l k m (z + 1) = cntL l k m z + if 0 < twP (vx l k) (vx l m) (vx l z) then 1 else 0) := Lib.hid rfl
                  have HCR : Hid (cntR l k m (z + 1) = cntR l k m z + if twP (vx l k) (vx l m) (vx l z) < 0 then 1 else 0) := Lib.hid rfl
                  have htw : twP (vx l k) (vx l m) (vx l z) = twI a1 a2 b1 b2 (vx l z).1 (vx l z).2 := by rw [HAE.out, HBE.out]; rfl
                  rw [htw] at HCL HCR
                  have HYZ := Lib.hid (fun h1 h2 h3 => HNB.out k hlt m hlm (HYB.out k m z hlz (htw.trans h1) h2 h3))
                  have HEZ : Hid ((twI a1 a2 b1 b2 (vx l z).1 (vx l z).2 ≠ 0 ∨ z = k ∨ z = m) → ∀ j, j < z + 1 → ¬ (twP (vx l k) (vx l m) (vx l j) = 0 ∧ j ≠ k ∧ j ≠ m)) := Lib.hid (fun h j hj => by
                    rcases Nat.lt_or_ge j z with h1 | h1
                    · exact hE.out j h1
                    · obtain rfl : j = z := by omega
                      rintro ⟨h2, h3, h4⟩
                      rw [htw] at h2
                      rcases h with h | h | h
                      · exact h h2
                      · exact h3 h
                      · exact h4 h)
                  have HZK := Lib.hid (HNE.out k hlt z hlz)
                  have HZM := Lib.hid (HNE.out m (by omega) z hlz)
                  have HKZ : Hid (z = k → vx l z = (a1, a2)) := Lib.hid (fun h => by rw [h]; exact HAE.out)
                  have HMZ : Hid (z = m → vx l z = (b1, b2)) := Lib.hid (fun h => by rw [h]; exact HBE.out)
                  rw [HAE.out] at HZK
                  rw [HBE.out] at HZM
                  clear htw
                  obtain ⟨q1, q2, hqe⟩ : ∃ q1 q2, vx l z = (q1, q2) := ⟨_, _, rfl⟩
                  rw [hqe] at hq5 hq6 sc HCL HCR HYZ HEZ HZK HZM HKZ HMZ
                  clear hqe
                  have KT := Lib.hid (fun W => pgTurn_any a1 a2 b1 b2 q1 q2 W sa sb sc)
                  generalize cntL l k m z = x0 at *
                  generalize cntR l k m z = y0 at *
                  generalize twI a1 a2 b1 b2 q1 q2 = t at *
                  have zo : wo.heap.size < wc.heap.size := by omega
                  rcases Int.lt_trichotomy t 0 with ht | ht | ht
                  · have ht0 : ¬ 0 < t := by omega
                    have ey : IntKind.i64.wrap (y0 + 1) = y0 + 1 := IntWalk.i64_in _ (by omega)
                    have E1 : Hid (x0 = cntL l k m (z + 1)) := Lib.hid (by rw [HCL.out, if_neg ht0, Int.add_zero])
                    have E2 : Hid (y0 + 1 = cntR l k m (z + 1)) := Lib.hid (by rw [HCR.out, if_pos ht])
                    have E3 := Lib.hid (HEZ.out (.inl (by omega)))
                    clear HCL HCR HYZ HEZ HZK HZM HKZ HMZ hE
                    go_wp2_with fail
                    refine (KT.out _).mono ?_; rintro e w3 ⟨rfl, hb3⟩
                    have B3 := (Below.alloc hBc hBc.size (.cells #[.int .i64 q1, .int .i64 q2] 38)).trans (hb3.mono (by simp; have := hBc.size; omega))
                    have zz : wc.heap.size < w3.heap.size := by (have := hb3.size; simp at this; omega)
                    have v1 : w3.cell? ⟨wo.heap.size, 0, none⟩ = some (.int .i64 a1) := ((bcell hb3).1 _ _ (by simp; omega)).trans ((World.cell?_alloc_lt wc _ ⟨wo.heap.size, 0, none⟩ zo).trans u1)
                    have v2 : w3.cell? ⟨wo.heap.size, 1, none⟩ = some (.int .i64 a2) := ((bcell hb3).1 _ _ (by simp; omega)).trans ((World.cell?_alloc_lt wc _ ⟨wo.heap.size, 1, none⟩ zo).trans u2)
                    have v3 : w3.cell? ⟨wi.heap.size, 0, none⟩ = some (.int .i64 b1) := ((bcell hb3).1 _ _ (by simp; omega)).trans ((World.cell?_alloc_lt wc _ ⟨wi.heap.size, 0, none⟩ hzc).trans u3)
                    have v4 : w3.cell? ⟨wi.heap.size, 1, none⟩ = some (.int .i64 b2) := ((bcell hb3).1 _ _ (by simp; omega)).trans ((World.cell?_alloc_lt wc _ ⟨wi.heap.size, 1, none⟩ hzc).trans u4)
                    clear u1 u2 u3 u4 hq5 hq6 hb3
                    go_wp2_with fail
                    go_roundg (n - (z + 1))
                    case measure => have := HGZ.out; omega
                    case rel => exact ⟨z + 1, by omega, rfl, by go_num, by rw [← E1.out], by rw [← E2.out], B3, hzi2, by omega, v1, v2, v3, v4, E3⟩
                  · subst ht
                    by_cases hik : z = k
                    · have E1 : Hid (x0 = cntL l k m (z + 1)) := Lib.hid (by rw [HCL.out, if_neg (by omega), Int.add_zero])
                      have E2 : Hid (y0 = cntR l k m (z + 1)) := Lib.hid (by rw [HCR.out, if_neg (by omega), Int.add_zero])
                      have E3 := Lib.hid (HEZ.out (.inr (.inl hik)))
                      have hv := HKZ.out hik
                      injection hv with hv1 hv2
                      subst hv1 hv2
                      clear HCL HCR HYZ HEZ HZK HZM HKZ HMZ hE hik
                      go_wp2_with fail
                      refine (KT.out _).mono ?_; rintro e w3 ⟨rfl, hb3⟩
                      have B3 := (Below.alloc hBc hBc.size (.cells #[.int .i64 q1, .int .i64 q2] 38)).trans (hb3.mono (by simp; have := hBc.size; omega))
                      have zz : wc.heap.size < w3.heap.size := by (have := hb3.size; simp at this; omega)
                      have v1 : w3.cell? ⟨wo.heap.size, 0, none⟩ = some (.int .i64 q1) := ((bcell hb3).1 _ _ (by simp; omega)).trans ((World.cell?_alloc_lt wc _ ⟨wo.heap.size, 0, none⟩ zo).trans u1)
                      have v2 : w3.cell? ⟨wo.heap.size, 1, none⟩ = some (.int .i64 q2) := ((bcell hb3).1 _ _ (by simp; omega)).trans ((World.cell?_alloc_lt wc _ ⟨wo.heap.size, 1, none⟩ zo).trans u2)
                      have v3 : w3.cell? ⟨wi.heap.size, 0, none⟩ = some (.int .i64 b1) := ((bcell hb3).1 _ _ (by simp; omega)).trans ((World.cell?_alloc_lt wc _ ⟨wi.heap.size, 0, none⟩ hzc).trans u3)
                      have v4 : w3.cell? ⟨wi.heap.size, 1, none⟩ = some (.int .i64 b2) := ((bcell hb3).1 _ _ (by simp; omega)).trans ((World.cell?_alloc_lt wc _ ⟨wi.heap.size, 1, none⟩ hzc).trans u4)
                      have v5 : w3.cell? ⟨wc.heap.size, 0, none⟩ = some (.int .i64 q1) := ((bcell hb3).1 _ _ (by simp)).trans (by go_simp)
                      have v6 : w3.cell? ⟨wc.heap.size, 1, none⟩ = some (.int .i64 q2) := ((bcell hb3).1 _ _ (by simp)).trans (by go_simp)
                      clear u1 u2 u3 u4 hq5 hq6 hb3
                      go_wp2_with fail
                      go_roundg (n - (z + 1))
                      case measure => have := HGZ.out; omega
                      case rel => exact ⟨z + 1, by omega, rfl, by go_num, by rw [← E1.out], by rw [← E2.out], B3, hzi2, by omega, v1, v2, v3, v4, E3⟩
                    · have hA : (q1 = a1 ∧ ¬ q2 = a2) ∨ ¬ q1 = a1 := by
                        by_cases h1 : q1 = a1
                        · exact .inl ⟨h1, fun h2 => HZK.out hik (by rw [h1, h2])⟩
                        · exact .inr h1
                      by_cases him : z = m
                      · have E1 : Hid (x0 = cntL l k m (z + 1)) := Lib.hid (by rw [HCL.out, if_neg (by omega), Int.add_zero])
                        have E2 : Hid (y0 = cntR l k m (z + 1)) := Lib.hid (by rw [HCR.out, if_neg (by omega), Int.add_zero])
                        have E3 := Lib.hid (HEZ.out (.inr (.inr him)))
                        have hv := HMZ.out him
                        injection hv with hv1 hv2
                        subst hv1 hv2
                        clear HCL HCR HYZ HEZ HZK HZM HKZ HMZ hE hik him
                        have HA := Lib.hid hA
                        clear hA
                        go_wp2_with fail
                        refine (KT.out _).mono ?_; rintro e w3 ⟨rfl, hb3⟩
                        have B3 := (Below.alloc hBc hBc.size (.cells #[.int .i64 q1, .int .i64 q2] 38)).trans (hb3.mono (by simp; have := hBc.size; omega))
                        have zz : wc.heap.size < w3.heap.size := by (have := hb3.size; simp at this; omega)
                        have v1 : w3.cell? ⟨wo.heap.size, 0, none⟩ = some (.int .i64 a1) := ((bcell hb3).1 _ _ (by simp; omega)).trans ((World.cell?_alloc_lt wc _ ⟨wo.heap.size, 0, none⟩ zo).trans u1)
                        have v2 : w3.cell? ⟨wo.heap.size, 1, none⟩ = some (.int .i64 a2) := ((bcell hb3).1 _ _ (by simp; omega)).trans ((World.cell?_alloc_lt wc _ ⟨wo.heap.size, 1, none⟩ zo).trans u2)
                        have v3 : w3.cell? ⟨wi.heap.size, 0, none⟩ = some (.int .i64 q1) := ((bcell hb3).1 _ _ (by simp; omega)).trans ((World.cell?_alloc_lt wc _ ⟨wi.heap.size, 0, none⟩ hzc).trans u3)
                        have v4 : w3.cell? ⟨wi.heap.size, 1, none⟩ = some (.int .i64 q2) := ((bcell hb3).1 _ _ (by simp; omega)).trans ((World.cell?_alloc_lt wc _ ⟨wi.heap.size, 1, none⟩ hzc).trans u4)
                        have v5 : w3.cell? ⟨wc.heap.size, 0, none⟩ = some (.int .i64 q1) := ((bcell hb3).1 _ _ (by simp)).trans (by go_simp)
                        have v6 : w3.cell? ⟨wc.heap.size, 1, none⟩ = some (.int .i64 q2) := ((bcell hb3).1 _ _ (by simp)).trans (by go_simp)
                        clear u1 u2 u3 u4 hq5 hq6 hb3
                        rcases HA.out with ⟨h1, h2⟩ | h1
                        · subst h1
                          clear HA
                          go_wp2_with fail
                          go_roundg (n - (z + 1))
                          case measure => have := HGZ.out; omega
                          case rel => exact ⟨z + 1, by omega, rfl, by go_num, by rw [← E1.out], by rw [← E2.out], B3, hzi2, by omega, v1, v2, v3, v4, E3⟩
                        · clear HA
                          go_wp2_with fail
                          go_roundg (n - (z + 1))
                          case measure => have := HGZ.out; omega
                          case rel => exact ⟨z + 1, by omega, rfl, by go_num, by rw [← E1.out], by rw [← E2.out], B3, hzi2, by omega, v1, v2, v3, v4, E3⟩
                      · have hB : (q1 = b1 ∧ ¬ q2 = b2) ∨ ¬ q1 = b1 := by
                          by_cases h1 : q1 = b1
                          · exact .inl ⟨h1, fun h2 => HZM.out him (by rw [h1, h2])⟩
                          · exact .inr h1
                        have hng := Lib.hid (HYZ.out rfl hik him)
                        clear HCL HCR HYZ HEZ HZK HZM HKZ HMZ hE hik him
                        have HA := Lib.hid hA
                        have HB := Lib.hid hB
                        clear hA hB
                        go_wp2_with fail
                        refine (KT.out _).mono ?_; rintro e w3 ⟨rfl, hb3⟩
                        have B3 := (Below.alloc hBc hBc.size (.cells #[.int .i64 q1, .int .i64 q2] 38)).trans (hb3.mono (by simp; have := hBc.size; omega))
                        have zz : wc.heap.size < w3.heap.size := by (have := hb3.size; simp at this; omega)
                        have v1 : w3.cell? ⟨wo.heap.size, 0, none⟩ = some (.int .i64 a1) := ((bcell hb3).1 _ _ (by simp; omega)).trans ((World.cell?_alloc_lt wc _ ⟨wo.heap.size, 0, none⟩ zo).trans u1)
                        have v2 : w3.cell? ⟨wo.heap.size, 1, none⟩ = some (.int .i64 a2) := ((bcell hb3).1 _ _ (by simp; omega)).trans ((World.cell?_alloc_lt wc _ ⟨wo.heap.size, 1, none⟩ zo).trans u2)
                        have v3 : w3.cell? ⟨wi.heap.size, 0, none⟩ = some (.int .i64 b1) := ((bcell hb3).1 _ _ (by simp; omega)).trans ((World.cell?_alloc_lt wc _ ⟨wi.heap.size, 0, none⟩ hzc).trans u3)
                        have v4 : w3.cell? ⟨wi.heap.size, 1, none⟩ = some (.int .i64 b2) := ((bcell hb3).1 _ _ (by simp; omega)).trans ((World.cell?_alloc_lt wc _ ⟨wi.heap.size, 1, none⟩ hzc).trans u4)
                        have v5 : w3.cell? ⟨wc.heap.size, 0, none⟩ = some (.int .i64 q1) := ((bcell hb3).1 _ _ (by simp)).trans (by go_simp)
                        have v6 : w3.cell? ⟨wc.heap.size, 1, none⟩ = some (.int .i64 q2) := ((bcell hb3).1 _ _ (by simp)).trans (by go_simp)
                        clear u1 u2 u3 u4 hq5 hq6 hb3
                        rcases HA.out with ⟨h1, h2⟩ | h1 <;> rcases HB.out with ⟨h3, h4⟩ | h3
                        · clear HA HB
                          subst h1
                          subst h3
                          go_wp2_with fail
                          go_ret2
                          exact ⟨by rw [hng.out]; rfl, B3⟩
                        · clear HA HB
                          subst h1
                          go_wp2_with fail
                          go_ret2
                          exact ⟨by rw [hng.out]; rfl, B3⟩
                        · clear HA HB
                          subst h3
                          go_wp2_with fail
                          go_ret2
                          exact ⟨by rw [hng.out]; rfl, B3⟩
                        · clear HA HB
                          go_wp2_with fail
                          go_ret2
                          exact ⟨by rw [hng.out]; rfl, B3⟩
                  · have ht0 : ¬ t < 0 := by omega
                    have ex : IntKind.i64.wrap (x0 + 1) = x0 + 1 := IntWalk.i64_in _ (by omega)
                    have E1 : Hid (x0 + 1 = cntL l k m (z + 1)) := Lib.hid (by rw [HCL.out, if_pos ht])
                    have E2 : Hid (y0 = cntR l k m (z + 1)) := Lib.hid (by rw [HCR.out, if_neg ht0, Int.add_zero])
                    have E3 := Lib.hid (HEZ.out (.inl (by omega)))
                    clear HCL HCR HYZ HEZ HZK HZM HKZ HMZ hE
                    go_wp2_with fail
                    refine (KT.out _).mono ?_; rintro e w3 ⟨rfl, hb3⟩
                    have B3 := (Below.alloc hBc hBc.size (.cells #[.int .i64 q1, .int .i64 q2] 38)).trans (hb3.mono (by simp; have := hBc.size; omega))
                    have zz : wc.heap.size < w3.heap.size := by (have := hb3.size; simp at this; omega)
                    have v1 : w3.cell? ⟨wo.heap.size, 0, none⟩ = some (.int .i64 a1) := ((bcell hb3).1 _ _ (by simp; omega)).trans ((World.cell?_alloc_lt wc _ ⟨wo.heap.size, 0, none⟩ zo).trans u1)
                    have v2 : w3.cell? ⟨wo.heap.size, 1, none⟩ = some (.int .i64 a2) := ((bcell hb3).1 _ _ (by simp; omega)).trans ((World.cell?_alloc_lt wc _ ⟨wo.heap.size, 1, none⟩ zo).trans u2)
                    have v3 : w3.cell? ⟨wi.heap.size, 0, none⟩ = some (.int .i64 b1) := ((bcell hb3).1 _ _ (by simp; omega)).trans ((World.cell?_alloc_lt wc _ ⟨wi.heap.size, 0, none⟩ hzc).trans u3)
                    have v4 : w3.cell? ⟨wi.heap.size, 1, none⟩ = some (.int .i64 b2) := ((bcell hb3).1 _ _ (by simp; omega)).trans ((World.cell?_alloc_lt wc _ ⟨wi.heap.size, 1, none⟩ hzc).trans u4)
                    clear u1 u2 u3 u4 hq5 hq6 hb3
                    go_wp2_with fail
                    go_roundg (n - (z + 1))
                    case measure => have := HGZ.out; omega
                    case rel => exact ⟨z + 1, by omega, rfl, by go_num, by rw [← E1.out], by rw [← E2.out], B3, hzi2, by omega, v1, v2, v3, v4, E3⟩
                · have hzn : z = n := by omega
                  have hgood : ¬ Bad l k m := HBAD.out k m (fun j hj => hE.out j (by omega))
                  have hD2 : Hid (∀ j, j < m + 1 → ¬ Bad l k j) := Lib.hid (fun j hj => by
                    rcases Nat.lt_or_ge j m with h1 | h1
                    · exact hD.out j h1
                    · obtain rfl : j = m := by omega
                      exact hgood)
                  have cL := cntL_bd l k m z
                  have cR := cntR_bd l k m z
                  have HQ : Hid (hq l k m = decide (cntL l k m z = cntR l k m z)) := Lib.hid (by rw [HHQ.out, hzn])
                  have HZN := Lib.hid hzn
                  have hnz : ¬ z < n := hlz
                  clear hgood hE hzn hD
                  generalize cntL l k m z = x0 at *
                  generalize cntR l k m z = y0 at *
                  by_cases hxy : x0 = y0
                  · have E5 : Hid (s0 + r0 + 1 = s0 + rowH l k (m + 1)) := Lib.hid (by rw [HRN.out, HQ.out, if_pos (by simp [hxy])]; omega)
                    have ew : IntKind.i64.wrap (s0 + r0 + 1) = s0 + r0 + 1 := IntWalk.i64_in _ (by omega)
                    clear HQ HRN
                    subst hxy
                    go_wp2_with fail
                    go_roundg (k - (m + 1))
                    case measure => have := HGM.out; omega
                    case rel => exact ⟨m + 1, by omega, rfl, by go_num, by rw [← E5.out], hBc, by omega, u1, u2, hD2⟩
                  · have E5 : Hid (s0 + r0 = s0 + rowH l k (m + 1)) := Lib.hid (by rw [HRN.out, HQ.out, if_neg (by simp [hxy])]; omega)
                    clear HQ HRN
                    go_wp2_with fail
                    go_roundg (k - (m + 1))
                    case measure => have := HGM.out; omega
                    case rel => exact ⟨m + 1, by omega, rfl, by go_num, by rw [← E5.out], hBc, by omega, u1, u2, hD2⟩
            · have hmk : m = k := by omega
              have hF2 : Hid (∀ i, i < k + 1 → ∀ j, j < i → ¬ Bad l i j) := Lib.hid (fun i hi j hj => by
                rcases Nat.lt_or_ge i k with h1 | h1
                · exact hF.out i h1 j hj
                · obtain rfl : i = k := by omega
                  exact hD.out j (by omega))
              have E6 : Hid (s0 + rowH l k m = allH l (k + 1)) := Lib.hid (by rw [HAN.out, HS0.out, hmk])
              have hnm : ¬ m < k := hlm
              clear hD hF HAN hmk
              go_wp2_with fail
              go_roundg (n - (k + 1))
              case measure => have := HGK.out; omega
              case rel => exact ⟨k + 1, by omega, rfl, by go_num, by rw [← E6.out], hBi, hF2⟩
        · have hkn : n = k := by omega
          subst hkn
          have hy : Hid (hvB l = true) := Lib.hid (HT.out hF.out)
          clear hF HT HNB HGK hlt hk
          go_wp2_with fail
          go_ret2
          exact ⟨by rw [hy.out]; rfl, hB⟩
    · have hng : Hid (hvB l = false) := Lib.hid (hvB_false (fun h => hev h.2.1))
      have hm2 : (l.length : Int).tmod 2 = 1 := by rw [Int.tmod_eq_emod_of_nonneg (by omega)]; omega
      have h30 := hg.few.2
      clear hR hg hev
      go_enter Try.func35, Try.ntmps35
      go_wp2_with fail
      refine K.out.mono ?_; rintro e w1 ⟨rfl, hb1⟩
      go_wp2_with fail
      go_ret2
      exact ⟨by rw [hng.out]; rfl, hb1⟩
  · have hng : Hid (hvB l = false) := Lib.hid (hvB_false (fun h => hg h.1))
    rw [difB_false hg] at K
    clear hR hg
    go_enter Try.func35, Try.ntmps35
    go_wp2_with fail
    refine K.out.mono ?_; rintro e w1 ⟨rfl, hb1⟩
    go_wp2_with fail
    go_ret2
    exact ⟨by rw [hng.out]; rfl, hb1⟩
end Go.Proofs.Ythpbnfmfedggjaa
