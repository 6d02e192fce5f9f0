/- contract: lines that halve, the program -/
import Derived.Test.YthpbnfmfedggjaaBu
import Derived.Test.YthpbnfmfedggjaaBc
import Derived.DeepKeys
namespace Go.Proofs.Ythpbnfmfedggjaa
open Go.ChangeShapes Go.WideShapes Go.ChangeAt Go.RowKit Go.Joins
set_option linter.unusedVariables false
set_option linter.unusedSimpArgs false
set_option maxRecDepth 4000
theorem eq_intS (d : Nat) (a b : Int) (W : World) : (Op.equalIn (d + 1) 3 (.int .i64 a) (.int .i64 b)).run Try.prog W = .ok (decide (a = b)) W := by
  simp [Op.equalIn, run_underlying Try.underlying3]
  by_cases h : a = b <;> simp [h]
theorem eq3S (a b c a' b' c' : Int) (W : World) : (Op.equalIn 10000 70 (.agg #[.int .i64 a, .int .i64 b, .int .i64 c]) (.agg #[.int .i64 a', .int .i64 b', .int .i64 c'])).run Try.prog W = .ok (decide (a = a' ∧ b = b' ∧ c = c')) W := by
  obtain ⟨i, hi⟩ : ∃ i, Try.prog.info? 3 = some i := ⟨_, rfl⟩
  rw [show (10000 : Nat) = 9998 + 1 + 1 from rfl, run_equalIn_array W (9998 + 1) _ _ Try.underlying70 hi]
  have hn : Try.prog.cellsOf 3 = 1 := by kernel_rfl
  rw [hn]
  simp only [show List.range 3 = [0, 1, 2] from rfl, Op.eqItems, Sem.run_bind, Nat.mul_one]
  have hk : Try.prog.plainKey 3 = true := by kernel_rfl
  have p0 := run_part_plain (P := Try.prog) W hk (xs := #[.int .i64 a, .int .i64 b, .int .i64 c]) (off := 0) (v := .int .i64 a) rfl
  have r0 := run_part_plain (P := Try.prog) W hk (xs := #[.int .i64 a', .int .i64 b', .int .i64 c']) (off := 0) (v := .int .i64 a') rfl
  have p1 := run_part_plain (P := Try.prog) W hk (xs := #[.int .i64 a, .int .i64 b, .int .i64 c]) (off := 1) (v := .int .i64 b) rfl
  have r1 := run_part_plain (P := Try.prog) W hk (xs := #[.int .i64 a', .int .i64 b', .int .i64 c']) (off := 1) (v := .int .i64 b') rfl
  have p2 := run_part_plain (P := Try.prog) W hk (xs := #[.int .i64 a, .int .i64 b, .int .i64 c]) (off := 2) (v := .int .i64 c) rfl
  have r2 := run_part_plain (P := Try.prog) W hk (xs := #[.int .i64 a', .int .i64 b', .int .i64 c']) (off := 2) (v := .int .i64 c') rfl
  have e := fun a b => eq_intS 9998 a b W
  rw [p0, Result.andThen_ok, r0, Result.andThen_ok, e, Result.andThen_ok]
  by_cases h0 : a = a'
  rotate_left
  · simp [h0]
  rw [decide_eq_true h0]
  simp only [Bool.not_true, Bool.false_eq_true, if_false, Sem.run_bind]
  rw [p1, Result.andThen_ok, r1, Result.andThen_ok, e, Result.andThen_ok]
  by_cases h1 : b = b'
  rotate_left
  · simp [h0, h1]
  rw [decide_eq_true h1]
  simp only [Bool.not_true, Bool.false_eq_true, if_false, Sem.run_bind]
  rw [p2, Result.andThen_ok, r2, Result.andThen_ok, e, Result.andThen_ok]
  by_cases h2 : c = c'
  rotate_left
  · simp [h0, h1, h2]
  rw [decide_eq_true h2]
  simp only [Bool.not_true, Bool.false_eq_true, if_false, Sem.run_bind]
  simp [h0, h1, h2]
set_option maxRecDepth 100000 in
set_option maxHeartbeats 4000000 in
theorem implHalvingLines_any (A : Option Addr) (c : Nat) (l : List (Int × Int)) (w : World) (hn : l.length ≤ 1048576) (hcap : l.length ≤ c) (hc2 : c ≤ 9223372036854775807) (hR : Rd w w.heap.size A l) :
    Calls Try.prog 36 #[.slice A l.length c] w fun e w' => e = .returned (.tuple #[.int .i64 (gi (hvB l) (allH l l.length)), .bool (hvB l)]) ∧ Below w.heap.size w w' := by
  have K := Lib.hid (implAreDifferent_any A c l w hn hcap hc2 hR)
  by_cases hg : Dif l
  · rw [difB_true hg] at K
    by_cases hev : l.length % 2 = 0
    · have h30 := hg.few.2
      have h01 := hg.few.1
      have KS := Lib.hid (fun i j (hi : i < l.length) (hj : j < l.length) W (hb : Below w.heap.size w W) => sharesOf_any A c l.length l i j W rfl h30 hi hj (fun k hk => (hg.fine k hk).1) (rd_more (rd_below hR hb (Nat.le_refl _)) hb.size))
      have hrd : ∀ i, i < l.length → ∃ b off, A = some ⟨b, off, none⟩ ∧ b < w.heap.size ∧ ∀ i, i < l.length → w.cell? ⟨b, off + i * 2, none⟩ = some (.int .i64 (vx l i).1) ∧ w.cell? ⟨b, off + i * 2 + 1, none⟩ = some (.int .i64 (vx l i).2) := fun i hi => by
        obtain ⟨b, off, e, hb, hc⟩ := hR (by omega)
        exact ⟨b, off, e, hb, fun i hi => hc i _ (vx_get hi)⟩
      obtain ⟨b, off, rfl, hb, hcell⟩ := hrd 0 (by omega)
      have HC := Lib.hid hcell
      have HNB : Hid (∀ i, i < l.length → ∀ j, j < i → Bad l i j → hvB l = false) := Lib.hid (fun i hi j hj hbad => hvB_false (fun h => h.2.2 i hi j hj hbad))
      have HT : Hid ((∀ i, i < l.length → ∀ j, j < i → ¬ Bad l i j) → hvB l = true) := Lib.hid (fun h => hvB_true ⟨hg, hev, h⟩)
      have HON : Hid (∀ i j, j < i → i < l.length → ¬ Bad l i j → cntO l i j l.length = 2) := Lib.hid (fun i j h1 h2 h3 => on_good h1 h2 h3)
      have HOB : Hid (∀ i j, j < i → i < l.length → Bad l i j → 2 < cntO l i j l.length) := Lib.hid (fun i j h1 h2 h3 => on_bad h1 h2 h3)
      have HSU : Hid (∀ i j, cntL l i j l.length + cntR l i j l.length + cntO l i j l.length = l.length) := Lib.hid (fun i j => cnt_sum l i j l.length)
      have HHQ : Hid (∀ i j, hq l i j = decide (cntL l i j l.length = cntR l i j l.length)) := Lib.hid (fun i j => rfl)
      obtain ⟨h, hh⟩ : ∃ h, l.length = 2 * h := ⟨l.length / 2, by omega⟩
      have hm2 : (l.length : Int).tmod 2 = 0 := by rw [Int.tmod_eq_emod_of_nonneg (by omega)]; omega
      have hd2 : (l.length : Int).tdiv 2 = h := by rw [Int.tdiv_eq_ediv_of_nonneg (by omega)]; omega
      have hw1 : IntKind.i64.wrap ((h : Int) - 1) = (h : Int) - 1 := IntWalk.i64_in _ (by omega)
      have hw2 : IntKind.i64.wrap (h : Int) = (h : Int) := IntWalk.i64_in _ (by omega)
      have h15 : h ≤ 15 := by omega
      have HH := Lib.hid hh
      clear hrd hcell hR hg hh
      generalize hN : l.length = n at *
      have HN := Lib.hid hN
      clear hN hev
      go_enter Try.func36, Try.ntmps36
      go_wp2_with fail
      refine K.out.mono ?_; rintro e w1 ⟨rfl, hb1⟩
      clear K
      go_wp2_with fail
      go_loopg [5, 26] n (fun g s i wr => ∃ k : Nat, k ≤ n ∧ g = n - k ∧ i = .int .i64 k ∧ s = .int .i64 (allH l k) ∧ Below w.heap.size w wr ∧ Hid (∀ i, i < k → ∀ j, j < i → ¬ Bad l i j))
      case atStart => exact ⟨0, Nat.zero_le _, rfl, rfl, rfl, hb1, Lib.hid (fun i h => absurd h (Nat.not_lt_zero _))⟩
      case round =>
        obtain ⟨k, hk, hg, rfl, rfl, hB, hF⟩ := hrel
        rename World => wo
        have HGK := Lib.hid hg
        clear hg hb1
        by_cases hlt : k < n
        · have hq1 : wo.cell? ⟨b, off + k * 2, none⟩ = some (.int .i64 (vx l k).1) := (hB.cell (p := ⟨b, off + k * 2, none⟩) hb).trans (HC.out k hlt).1
          have hq2 : wo.cell? ⟨b, off + k * 2 + 1, none⟩ = some (.int .i64 (vx l k).2) := (hB.cell (p := ⟨b, off + k * 2 + 1, none⟩) hb).trans (HC.out k hlt).2
          have hzB := hB.size
          have aB := allH_bd l k (by omega)
          have eA : allH l (k + 1) = allH l k + rowH l k k := rfl
          have HAN := Lib.hid eA
          obtain ⟨s0, hs0⟩ : ∃ s0, s0 = allH l k := ⟨_, rfl⟩
          have HS0 := Lib.hid hs0
          rw [← hs0] at aB ⊢
          clear hs0 eA
          have hkc : k ≤ c := by omega
          have KS1 := Lib.hid (fun m (hm : m < k) => KS.out k m hlt (by omega))
          obtain ⟨a1, a2, hae⟩ : ∃ a1 a2, vx l k = (a1, a2) := ⟨_, _, rfl⟩
          rw [hae] at hq1 hq2 KS1
          clear hae
          go_wp2_with fail
          go_loopg [5, 35] k (fun g2 s j wi => ∃ m : Nat, m ≤ k ∧ g2 = k - m ∧ j = .int .i64 m ∧ s = .int .i64 (s0 + rowH l k m) ∧ Below w.heap.size w wi ∧ wo.heap.size < wi.heap.size ∧ wi.cell? ⟨wo.heap.size, 0, none⟩ = some (.int .i64 a1) ∧ wi.cell? ⟨wo.heap.size, 1, none⟩ = some (.int .i64 a2) ∧ Hid (∀ j, j < m → ¬ Bad l k j))
          case atStart => exact ⟨0, Nat.zero_le _, rfl, rfl, by unfold rowH; rw [Int.add_zero], Below.alloc hB hzB (.cells #[.int .i64 a1, .int .i64 a2] 38), by simp, by go_simp, by go_simp, Lib.hid (fun j h => absurd h (Nat.not_lt_zero _))⟩
          case round =>
            obtain ⟨m, hm, hg2, rfl, rfl, hBi, hzi, y1, y2, hD⟩ := hrel
            clear hq1 hq2
            rename World => wi
            have HGM := Lib.hid hg2
            clear hg2
            by_cases hlm : m < k
            · have hq3 : wi.cell? ⟨b, off + m * 2, none⟩ = some (.int .i64 (vx l m).1) := (hBi.cell (p := ⟨b, off + m * 2, none⟩) hb).trans (HC.out m (by omega)).1
              have hq4 : wi.cell? ⟨b, off + m * 2 + 1, none⟩ = some (.int .i64 (vx l m).2) := (hBi.cell (p := ⟨b, off + m * 2 + 1, none⟩) hb).trans (HC.out m (by omega)).2
              have rB := rowH_bd l k m
              have eR : rowH l k (m + 1) = rowH l k m + if hq l k m = true then 1 else 0 := rfl
              have HRN := Lib.hid eR
              clear eR
              have KS2 := Lib.hid (KS1.out m hlm)
              obtain ⟨b1, b2, hbe⟩ : ∃ b1 b2, vx l m = (b1, b2) := ⟨_, _, rfl⟩
              rw [hbe] at hq3 hq4 KS2
              clear hbe KS1
              generalize rowH l k m = r0 at *
              have B2 := Below.alloc hBi hBi.size (.cells #[.int .i64 b1, .int .i64 b2] 38)
              have KS3 := Lib.hid (KS2.out _ B2)
              have HQ := Lib.hid (HHQ.out k m)
              have hsu := HSU.out k m
              have cL := cntL_bd l k m n
              have cR := cntR_bd l k m n
              by_cases hbad : Bad l k m
              · have ho := HOB.out k m hlm hlt hbad
                have hng := Lib.hid (HNB.out k hlt m hlm hbad)
                clear HQ KS2 hbad hF hD
                generalize cntO l k m n = o0 at *
                generalize cntL l k m n = x0 at *
                generalize cntR l k m n = y0 at *
                go_wp2_with fail
                refine KS3.out.mono ?_; rintro e w2 ⟨rfl, hb2⟩
                have B3 := B2.trans (hb2.mono B2.size)
                clear y1 y2 hq3 hq4 KS3 hb2
                go_wp2_with fail
                go_ret2
                exact ⟨by rw [hng.out]; rfl, Below.alloc B3 B3.size _⟩
              · have ho := HON.out k m hlm hlt hbad
                rw [ho] at KS3 hsu
                have hD2 : Hid (∀ j, j < m + 1 → ¬ Bad l k j) := Lib.hid (fun j hj => by
                  rcases Nat.lt_or_ge j m with h1 | h1
                  · exact hD.out j h1
                  · obtain rfl : j = m := by omega
                    exact hbad)
                clear KS2 hbad hD ho
                generalize cntL l k m n = x0 at *
                generalize cntR l k m n = y0 at *
                by_cases hy : y0 = (h : Int) - 1
                · have hx : x0 = (h : Int) - 1 := by have := HH.out; omega
                  subst hy
                  subst hx
                  have E5 : Hid (s0 + r0 + 1 = s0 + rowH l k (m + 1)) := Lib.hid (by rw [HRN.out, HQ.out, if_pos (by simp)]; omega)
                  have ew : IntKind.i64.wrap (s0 + r0 + 1) = s0 + r0 + 1 := IntWalk.i64_in _ (by omega)
                  clear HQ HRN
                  go_wp2_with fail
                  refine KS3.out.mono ?_; rintro e w2 ⟨rfl, hb2⟩
                  have B3 := B2.trans (hb2.mono B2.size)
                  have zz : wi.heap.size < w2.heap.size := by (have := hb2.size; simp at this; omega)
                  have v1 : w2.cell? ⟨wo.heap.size, 0, none⟩ = some (.int .i64 a1) := ((bcell hb2).1 _ _ (by simp; omega)).trans ((World.cell?_alloc_lt wi _ ⟨wo.heap.size, 0, none⟩ hzi).trans y1)
                  have v2 : w2.cell? ⟨wo.heap.size, 1, none⟩ = some (.int .i64 a2) := ((bcell hb2).1 _ _ (by simp; omega)).trans ((World.cell?_alloc_lt wi _ ⟨wo.heap.size, 1, none⟩ hzi).trans y2)
                  have zv : wo.heap.size < w2.heap.size := by omega
                  clear y1 y2 hq3 hq4 KS3 hb2
                  have he : (Op.equalIn 10000 70 (.agg #[.int .i64 ((h : Int) - 1), .int .i64 2, .int .i64 ((h : Int) - 1)]) (.agg #[.int .i64 ((h : Int) - 1), .int .i64 2, .int .i64 ((h : Int) - 1)])).run Try.prog (w2.alloc (.cells #[.int .i64 ((h : Int) - 1), .int .i64 2, .int .i64 ((h : Int) - 1)] 70)) = .ok true (w2.alloc (.cells #[.int .i64 ((h : Int) - 1), .int .i64 2, .int .i64 ((h : Int) - 1)] 70)) := (eq3S _ _ _ _ _ _ _).trans (by rw [decide_eq_true ⟨rfl, rfl, rfl⟩])
                  go_wp2_with fail
                  go_roundg (k - (m + 1))
                  case measure => have := HGM.out; omega
                  case rel => exact ⟨m + 1, by omega, rfl, by go_num, by rw [← E5.out], Below.alloc B3 B3.size _, by simp; omega, by go_simp, by go_simp, hD2⟩
                · have hne : ¬ x0 = y0 := fun e => hy (by have := HH.out; omega)
                  have E5 : Hid (s0 + r0 = s0 + rowH l k (m + 1)) := Lib.hid (by rw [HRN.out, HQ.out, if_neg (by simp [hne])]; omega)
                  clear HQ HRN
                  go_wp2_with fail
                  refine KS3.out.mono ?_; rintro e w2 ⟨rfl, hb2⟩
                  have B3 := B2.trans (hb2.mono B2.size)
                  have zz : wi.heap.size < w2.heap.size := by (have := hb2.size; simp at this; omega)
                  have v1 : w2.cell? ⟨wo.heap.size, 0, none⟩ = some (.int .i64 a1) := ((bcell hb2).1 _ _ (by simp; omega)).trans ((World.cell?_alloc_lt wi _ ⟨wo.heap.size, 0, none⟩ hzi).trans y1)
                  have v2 : w2.cell? ⟨wo.heap.size, 1, none⟩ = some (.int .i64 a2) := ((bcell hb2).1 _ _ (by simp; omega)).trans ((World.cell?_alloc_lt wi _ ⟨wo.heap.size, 1, none⟩ hzi).trans y2)
                  have zv : wo.heap.size < w2.heap.size := by omega
                  clear y1 y2 hq3 hq4 KS3 hb2
                  have he : (Op.equalIn 10000 70 (.agg #[.int .i64 y0, .int .i64 2, .int .i64 x0]) (.agg #[.int .i64 ((h : Int) - 1), .int .i64 2, .int .i64 ((h : Int) - 1)])).run Try.prog (w2.alloc (.cells #[.int .i64 y0, .int .i64 2, .int .i64 x0] 70)) = .ok false (w2.alloc (.cells #[.int .i64 y0, .int .i64 2, .int .i64 x0] 70)) := (eq3S _ _ _ _ _ _ _).trans (by rw [decide_eq_false (fun h => hy h.1)])
                  go_wp2_with fail
                  go_roundg (k - (m + 1))
                  case measure => have := HGM.out; omega
                  case rel => exact ⟨m + 1, by omega, rfl, by go_num, by rw [← E5.out], Below.alloc B3 B3.size _, by simp; omega, by go_simp, by go_simp, hD2⟩
            · have hmk : m = k := by omega
              have hF2 : Hid (∀ i, i < k + 1 → ∀ j, j < i → ¬ Bad l i j) := Lib.hid (fun i hi j hj => by
                rcases Nat.lt_or_ge i k with h1 | h1
                · exact hF.out i h1 j hj
                · obtain rfl : i = k := by omega
                  exact hD.out j (by omega))
              have E6 : Hid (s0 + rowH l k m = allH l (k + 1)) := Lib.hid (by rw [HAN.out, HS0.out, hmk])
              have hnm : ¬ m < k := hlm
              clear hD hF HAN hmk
              go_wp2_with fail
              go_roundg (n - (k + 1))
              case measure => have := HGK.out; omega
              case rel => exact ⟨k + 1, by omega, rfl, by go_num, by rw [← E6.out], hBi, hF2⟩
        · have hkn : n = k := by omega
          subst hkn
          have hy : Hid (hvB l = true) := Lib.hid (HT.out hF.out)
          clear hF HT HNB HGK hlt hk
          go_wp2_with fail
          go_ret2
          exact ⟨by rw [hy.out]; rfl, hB⟩
    · have hng : Hid (hvB l = false) := Lib.hid (hvB_false (fun h => hev h.2.1))
      have hm2 : (l.length : Int).tmod 2 = 1 := by rw [Int.tmod_eq_emod_of_nonneg (by omega)]; omega
      have h30 := hg.few.2
      clear hR hg hev
      go_enter Try.func36, Try.ntmps36
      go_wp2_with fail
      refine K.out.mono ?_; rintro e w1 ⟨rfl, hb1⟩
      go_wp2_with fail
      go_ret2
      exact ⟨by rw [hng.out]; rfl, hb1⟩
  · have hng : Hid (hvB l = false) := Lib.hid (hvB_false (fun h => hg h.1))
    rw [difB_false hg] at K
    clear hR hg
    go_enter Try.func36, Try.ntmps36
    go_wp2_with fail
    refine K.out.mono ?_; rintro e w1 ⟨rfl, hb1⟩
    go_wp2_with fail
    go_ret2
    exact ⟨by rw [hng.out]; rfl, hb1⟩
end Go.Proofs.Ythpbnfmfedggjaa
