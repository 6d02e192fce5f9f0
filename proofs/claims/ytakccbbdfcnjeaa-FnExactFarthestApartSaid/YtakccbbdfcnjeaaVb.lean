/- contract: the two points of a list that are farthest apart, the model -/
import Derived.Test.YtakccbbdfcnjeaaVa
import Derived.Test.YtakccbbdfcnjeaaTwx
import Derived.Test.YtakccbbdfcnjeaaBf
import Derived.Test.YtakccbbdfcnjeaaBd
import Derived.Deep.CutRange
import Derived.Deep.RegionWith
import Derived.Deep.DeepMust
namespace Go.Proofs.Ytakccbbdfcnjeaa
open Go.ChangeShapes Go.WideShapes Go.ChangeAt Go.RowKit Go.Joins
set_option linter.unusedVariables false
set_option linter.unusedSimpArgs false
set_option maxRecDepth 4000
theorem sq_flip (a1 a2 b1 b2 : Int) : (a1 - b1) * (a1 - b1) + (a2 - b2) * (a2 - b2) = MH.sq (b1, b2) (a1, a2) := by unfold MH.sq; simp only; grind
theorem bdFar_any (a1 a2 b1 b2 : Int) (w : World) (ha : isPg (a1, a2) = true) (hb : isPg (b1, b2) = true) :
    Calls Try.prog 54 #[.agg #[.int .i64 a1, .int .i64 a2], .agg #[.int .i64 b1, .int .i64 b2]] w fun e w' => e = .returned (.int .i64 (MH.sq (b1, b2) (a1, a2))) ∧ Below w.heap.size w w' := by
  have h1 : -40 ≤ a1 ∧ a1 ≤ 40 ∧ -40 ≤ a2 ∧ a2 ≤ 40 := by unfold isPg isPegB at ha; simp at ha; omega
  have h2 : -40 ≤ b1 ∧ b1 ≤ 40 ∧ -40 ≤ b2 ∧ b2 ≤ 40 := by unfold isPg isPegB at hb; simp at hb; omega
  clear ha hb
  obtain ⟨x1, x2, x3, x4⟩ := h1
  obtain ⟨x5, x6, x7, x8⟩ := h2
  obtain ⟨p1, p2⟩ := mul_bd (x := a1 - b1) (y := a1 - b1) (m := 80) (n := 80) (by omega) (by omega) (by omega) (by omega)
  obtain ⟨p3, p4⟩ := mul_bd (x := a2 - b2) (y := a2 - b2) (m := 80) (n := 80) (by omega) (by omega) (by omega) (by omega)
  go_enter Try.func54, Try.ntmps54
  go_wp2
  go_ret
  exact ⟨ret_int (sq_flip a1 a2 b1 b2), (by repeat (first | exact Below.refl _ _ | assumption | apply Below.drew | refine Below.alloc ?_ (by simp <;> omega) _))⟩
set_option maxHeartbeats 8000000 in
theorem specFarthest_yes (A : Option Addr) (c : Nat) (l : List (Int × Int)) (w : World) (hn : l.length ≤ 1048576) (hcap : l.length ≤ c) (hc2 : c ≤ 9223372036854775807) (hd : Dif l) (h2 : 2 ≤ l.length) (hR : Rd w w.heap.size A l) :
    Calls Try.prog 16 #[.slice A l.length c] w fun e w' => e = .returned (.tuple #[.agg #[.int .i64 (farAll (srt l) ((0, 0), (0, 0), 0) l.length).1.1, .int .i64 (farAll (srt l) ((0, 0), (0, 0), 0) l.length).1.2], .agg #[.int .i64 (farAll (srt l) ((0, 0), (0, 0), 0) l.length).2.1.1, .int .i64 (farAll (srt l) ((0, 0), (0, 0), 0) l.length).2.1.2], .int .i64 (farAll (srt l) ((0, 0), (0, 0), 0) l.length).2.2, .bool true]) ∧ Below w.heap.size w w' := by
  have K := Lib.hid (fun W (hb : Below w.heap.size w W) => bdGood_any A c l W hn hcap hc2 (rd_more (rd_below hR hb (Nat.le_refl _)) hb.size))
  rw [difB_true hd] at K
  have h30 := hd.few.2
  have K2 := Lib.hid (fun W (hb : Below w.heap.size w W) => bdSorted_any A c l.length l W rfl (by omega) (rd_more (rd_below hR hb (Nat.le_refl _)) hb.size))
  have hsl := srt_len l
  have hpg : ∀ x ∈ srt l, isPg x = true := fun x hx => dif_pegs hd x (srt_mem.1 hx)
  obtain ⟨k0, hk0⟩ : ∃ k0, l.length = k0 + 1 := ⟨l.length - 1, by omega⟩
  have hsame := far_same (s := srt l) (by omega) (srt_two (dif_nodup hd) h2) k0
  rw [← hk0] at hsame
  rw [hsame]
  clear hsame hk0 hd hR
  generalize srt l = s at *
  generalize hN : l.length = n at *
  have HSL := Lib.hid hsl
  have HPG : Hid (∀ i, i < n → isPg (pt s i) = true) := Lib.hid (fun i hi => hpg _ (pt_mem (by omega)))
  obtain ⟨a0, ha0⟩ : ∃ a0, a0 = (pt s 0, pt s 1, MH.sq (pt s 1) (pt s 0)) := ⟨_, rfl⟩
  have HA0 := Lib.hid ha0
  have HOK : Hid (∀ k, k ≤ n → FarOk (farAll s a0 k)) := Lib.hid (fun k hk => far_all_ok hpg (by rw [ha0]; exact far_first hpg (by omega)) k (by omega))
  have HRO : Hid (∀ k m, k < n → k + 1 + m ≤ n → FarOk (farRow s k (farAll s a0 k) m)) := Lib.hid (fun k m hk hm => far_row_ok hpg (by omega) (HOK.out k (by omega)) m (by omega))
  have HRS : Hid (∀ k m, FarSq (farRow s k (farAll s a0 k) m)) := Lib.hid (fun k m => far_row_sq (far_all_sq (by rw [ha0]; rfl) k) m)
  have HAS : Hid (∀ k, FarSq (farAll s a0 k)) := Lib.hid (fun k => far_all_sq (by rw [ha0]; rfl) k)
  rw [← ha0]
  clear ha0 hpg hsl hN
  go_enter Try.func16, Try.ntmps16
  go_wp2_with fail
  obtain ⟨W0, hW0⟩ : ∃ W0, W0 = ((w.alloc (.cells #[.int .i64 0, .int .i64 0] 25)).alloc (.cells #[.int .i64 0, .int .i64 0] 25)) := ⟨_, rfl⟩
  rw [← hW0]
  have yW00_0 : W0.cell? ⟨w.heap.size, 0, none⟩ = some (.int .i64 0) := by rw [hW0]; go_simp
  have yW00_1 : W0.cell? ⟨w.heap.size, 1, none⟩ = some (.int .i64 0) := by rw [hW0]; go_simp
  have fW00 : ∀ o, W0.frozen? ⟨w.heap.size, o, none⟩ = false := by intro o; rw [hW0]; (repeat rw [frozen?_alloc_cells]); simp [World.frozen?]
  have zW00 : w.heap.size < W0.heap.size := by rw [hW0]; simp <;> omega
  have yW01_0 : W0.cell? ⟨w.heap.size + 1, 0, none⟩ = some (.int .i64 0) := by rw [hW0]; go_simp
  have yW01_1 : W0.cell? ⟨w.heap.size + 1, 1, none⟩ = some (.int .i64 0) := by rw [hW0]; go_simp
  have fW01 : ∀ o, W0.frozen? ⟨w.heap.size + 1, o, none⟩ = false := by intro o; rw [hW0]; (repeat rw [frozen?_alloc_cells]); simp [World.frozen?]
  have zW01 : w.heap.size + 1 < W0.heap.size := by rw [hW0]; simp <;> omega
  have BW0 : Below w.heap.size w W0 := by rw [hW0]; exact (Below.alloc (Below.alloc (Below.refl _ _) (by simp <;> omega) _) (by simp <;> omega) _)
  have eW0 : Hid (W0.heap.size = w.heap.size + 2) := Lib.hid (by rw [hW0]; simp)
  clear hW0
  refine (K.out W0 BW0).mono ?_; rintro e w1 ⟨rfl, hb1⟩
  have B1 := BW0.trans (hb1.mono BW0.size)
  have HR1 : Hid (w.heap.size + 1 < w1.heap.size ∧ (w1.cell? ⟨w.heap.size, 0, none⟩ = some (.int .i64 0) ∧ w1.cell? ⟨w.heap.size, 1, none⟩ = some (.int .i64 0) ∧ w1.cell? ⟨w.heap.size + 1, 0, none⟩ = some (.int .i64 0) ∧ w1.cell? ⟨w.heap.size + 1, 1, none⟩ = some (.int .i64 0)) ∧ (∀ o, w1.frozen? ⟨w.heap.size, o, none⟩ = false) ∧ ∀ o, w1.frozen? ⟨w.heap.size + 1, o, none⟩ = false) := Lib.hid (by
    obtain ⟨hc, hf⟩ := bcell hb1
    exact ⟨Nat.lt_of_lt_of_le zW01 hb1.size, ⟨(hc _ _ zW00).trans yW00_0, (hc _ _ zW00).trans yW00_1, (hc _ _ zW01).trans yW01_0, (hc _ _ zW01).trans yW01_1⟩, fun o => (hf _ _ zW00).trans (fW00 o), fun o => (hf _ _ zW01).trans (fW01 o)⟩)
  clear yW00_0 yW00_1 yW01_0 yW01_1 fW00 fW01 zW00 zW01 eW0 BW0 hb1
  have hlt2 : ¬ ((n : Int) < 2) := by omega
  go_wp2_with fail
  refine (K2.out w1 B1).mono ?_; rintro e w2 ⟨⟨v, rfl, ho⟩, hb2⟩
  have HR2 : Hid (w.heap.size + 1 < w2.heap.size ∧ (w2.cell? ⟨w.heap.size, 0, none⟩ = some (.int .i64 0) ∧ w2.cell? ⟨w.heap.size, 1, none⟩ = some (.int .i64 0) ∧ w2.cell? ⟨w.heap.size + 1, 0, none⟩ = some (.int .i64 0) ∧ w2.cell? ⟨w.heap.size + 1, 1, none⟩ = some (.int .i64 0)) ∧ (∀ o, w2.frozen? ⟨w.heap.size, o, none⟩ = false) ∧ ∀ o, w2.frozen? ⟨w.heap.size + 1, o, none⟩ = false) := Lib.hid (by
    obtain ⟨hc, hf⟩ := bcell hb2
    obtain ⟨g1, ⟨g2, g3, g4, g5⟩, g6, g7⟩ := HR1.out
    exact ⟨Nat.lt_of_lt_of_le g1 hb2.size, ⟨(hc _ _ (by omega)).trans g2, (hc _ _ (by omega)).trans g3, (hc _ _ g1).trans g4, (hc _ _ g1).trans g5⟩, fun o => (hf _ _ (by omega)).trans (g6 o), fun o => (hf _ _ g1).trans (g7 o)⟩)
  have B2 := B1.trans (hb2.mono B1.size)
  obtain ⟨gs, cap, rfl, hnc, hcm, hrd⟩ := rd_own (m := s) (by rw [HSL.out]; exact ho) (by rw [HSL.out]; omega)
  have hsn := HSL.out
  rw [hsn] at hnc ⊢
  unfold maxLen at hcm
  have HCS : Hid (∀ W, Below w2.heap.size w2 W → ∀ i, i < n → gs < w2.heap.size ∧ W.cell? ⟨gs, i * 2, none⟩ = some (.int .i64 (pt s i).1) ∧ W.cell? ⟨gs, i * 2 + 1, none⟩ = some (.int .i64 (pt s i).2)) := Lib.hid (fun W hW i hi => by
    obtain ⟨b, off, e, hb, hc⟩ := hrd (by omega)
    injection e with e
    injection e with e1 e2
    subst e1 e2
    obtain ⟨q1, q2⟩ := hc i _ (pt_get (by omega))
    rw [Nat.zero_add] at q1 q2
    exact ⟨hb, (hW.cell (p := ⟨gs, i * 2, none⟩) hb).trans q1, (hW.cell (p := ⟨gs, i * 2 + 1, none⟩) hb).trans q2⟩)
  clear ho hb2 hrd HR1 K K2 B1 hsn
  obtain ⟨zs, x0, x1⟩ := HCS.out w2 (Below.refl _ _) 0 (by omega)
  obtain ⟨_, x2, x3⟩ := HCS.out w2 (Below.refl _ _) 1 (by omega)
  have hn1 : (1 : Int) < (n : Int) := by omega
  have hn0 : (0 : Int) < (n : Int) := by omega
  have hA1 : pt s 0 = a0.1 := by rw [HA0.out]
  have hA2 : pt s 1 = a0.2.1 := by rw [HA0.out]
  rw [hA1] at x0 x1
  rw [hA2] at x2 x3
  clear hA1 hA2
  simp only [Nat.zero_mul, Nat.zero_add, Nat.one_mul, Nat.reduceAdd] at x0 x1 x2 x3
  go_upto_region 4 with fail
  go_cut [7, 8] from 25 to 30 (fun p q wx => ∃ ga gb : Nat, p = .pointer (some ⟨ga, 0, none⟩) ∧ q = .pointer (some ⟨gb, 0, none⟩) ∧ Hid (Two w2 wx ga gb a0.1 a0.2.1))
  case first =>
    clear HR2 HCS HOK HRO HRS HAS HPG HA0 B2
    go_region
    all_goals
      go_wp2_with fail
      go_meet
      case rel =>
        refine ⟨_, _, rfl, rfl, Lib.hid ⟨?_, by go_simp, by go_simp, by go_simp, by go_simp, fun o => ?_, fun o => ?_, by simp <;> omega, by simp <;> omega, by simp <;> omega, by simp <;> omega, by omega⟩⟩
        · repeat (first | with_reducible assumption | with_reducible exact Below.refl _ _ | with_reducible apply Below.drew | ((with_reducible refine Below.setCell ?_ ?_ _); rotate_left; (first | exact Nat.le_refl _ | omega | (simp <;> omega))) | ((with_reducible refine Below.alloc ?_ ?_ _); rotate_left; (first | omega | (simp <;> omega))))
        · go_simp
        · go_simp
  case rest =>
  obtain ⟨ga, gb, rfl, rfl, hT0⟩ := hcut
  clear x0 x1 x2 x3
  go_wp2_with fail
  go_loopg [33] n (fun g i wr => ∃ k : Nat, k ≤ n ∧ g = n - k ∧ i = .int .i64 k ∧ Hid (Two w2 wr ga gb (farAll s a0 k).1 (farAll s a0 k).2.1))
  case atStart => exact ⟨0, Nat.zero_le _, rfl, rfl, hT0⟩
  case round =>
    clear hT0
    obtain ⟨k, hk, hg, rfl, hT⟩ := hrel
    rename World => wo
    have HGK := Lib.hid hg
    clear hg
    by_cases hlt : k < n
    · obtain ⟨_, q1, q2⟩ := HCS.out wo hT.out.below k hlt
      have hzB := hT.out.below.size
      have zga := hT.out.up1
      have zgb := hT.out.up2
      have zs2 : gs < wo.heap.size := by omega
      have hpk := HPG.out k hlt
      have hk1 : k + 1 ≤ n := by omega
      have hkc : k + 1 ≤ cap := by omega
      obtain ⟨p1, p2, hpe⟩ : ∃ p1 p2, pt s k = (p1, p2) := ⟨_, _, rfl⟩
      have HPE := Lib.hid hpe
      rw [hpe] at q1 q2 hpk
      have HPK := Lib.hid hpk
      clear hpe hpk
      have HAN : Hid (farAll s a0 (k + 1) = farRow s k (farAll s a0 k) (n - (k + 1))) := Lib.hid (by rw [farAll, HSL.out])
      have HRO2 := Lib.hid (fun m hm => HRO.out k m hlt hm)
      have HRS2 := Lib.hid (HRS.out k)
      have hT0 : Hid (Two w2 wo ga gb (farRow s k (farAll s a0 k) 0).1 (farRow s k (farAll s a0 k) 0).2.1) := hT
      clear hT
      generalize farAll s a0 k = A at *
      by_cases hlast : k + 1 = n
      · have hnk : n - (k + 1) = 0 := by omega
        by_cases hce : n = cap
        · subst hce
          go_wp2_with fail
          go_loopg [43] 0 (fun g2 j wi => j = .int .i64 0 ∧ Hid (Two w2 wi ga gb (farRow s k A 0).1 (farRow s k A 0).2.1))
          case atStart => exact ⟨rfl, Lib.hid (two_below hT0.out (Below.alloc (Below.refl _ _) (Nat.le_refl _) _))⟩
          case round =>
            obtain ⟨rfl, hTi⟩ := hrel
            go_wp2_with fail
            go_roundg (n - (k + 1))
            case measure => have := HGK.out; omega
            case rel => exact ⟨k + 1, by omega, rfl, by go_num, Lib.hid (by rw [HAN.out, hnk]; exact hTi.out)⟩
        · have hcn : ¬ cap = k + 1 := by omega
          go_wp2_with fail
          go_loopg [43] 0 (fun g2 j wi => j = .int .i64 0 ∧ Hid (Two w2 wi ga gb (farRow s k A 0).1 (farRow s k A 0).2.1))
          case atStart => exact ⟨rfl, Lib.hid (two_below hT0.out (Below.alloc (Below.refl _ _) (Nat.le_refl _) _))⟩
          case round =>
            obtain ⟨rfl, hTi⟩ := hrel
            go_wp2_with fail
            go_roundg (n - (k + 1))
            case measure => have := HGK.out; omega
            case rel => exact ⟨k + 1, by omega, rfl, by go_num, Lib.hid (by rw [HAN.out, hnk]; exact hTi.out)⟩
      · have hcn : ¬ cap = k + 1 := by omega
        go_wp2_with fail
        go_loopg [43] (n - (k + 1)) (fun g2 j wi => ∃ m : Nat, m ≤ n - (k + 1) ∧ g2 = n - (k + 1) - m ∧ j = .int .i64 m ∧ Hid (Two w2 wi ga gb (farRow s k A m).1 (farRow s k A m).2.1) ∧ wo.heap.size < wi.heap.size ∧ wi.cell? ⟨wo.heap.size, 0, none⟩ = some (.int .i64 p1) ∧ wi.cell? ⟨wo.heap.size, 1, none⟩ = some (.int .i64 p2))
        case atStart => exact ⟨0, Nat.zero_le _, rfl, rfl, Lib.hid (two_below hT0.out (Below.alloc (Below.refl _ _) (Nat.le_refl _) _)), by simp, by go_simp, by go_simp⟩
        case round =>
          clear hT0 q1 q2
          obtain ⟨m, hm, hg2, rfl, hTi, hzi, y1, y2⟩ := hrel
          rename World => wi
          have HGM := Lib.hid hg2
          clear hg2
          by_cases hlm : m < n - (k + 1)
          · obtain ⟨_, q3, q4⟩ := HCS.out wi hTi.out.below (k + 1 + m) (by omega)
            rw [show (k + 1 + m) * 2 = (k + 1) * 2 + m * 2 by omega] at q3 q4
            have hmi : (m : Int) < (n : Int) - ((k : Int) + 1) := by omega
            have hrk := HPG.out (k + 1 + m) (by omega)
            have hok := HRO2.out m (by omega)
            have hsq := HRS2.out m
            have HST : Hid (farRow s k A (m + 1) = farStep (pt s k) (farRow s k A m) (pt s (k + 1 + m))) := Lib.hid rfl
            rw [HPE.out] at HST
            obtain ⟨r1, r2, hre⟩ : ∃ r1 r2, pt s (k + 1 + m) = (r1, r2) := ⟨_, _, rfl⟩
            rw [hre] at q3 q4 hrk HST
            clear hre
            obtain ⟨⟨a1, a2⟩, ⟨b1, b2⟩, d0, hAe⟩ : ∃ (a b : Int × Int) (d : Int), farRow s k A m = (a, b, d) := ⟨_, _, _, rfl⟩
            rw [hAe] at HST hTi hok hsq
            clear hAe
            have KB1 := Lib.hid (fun W => bdFar_any p1 p2 r1 r2 W HPK.out hrk)
            have KB2 := Lib.hid (fun W => bdFar_any a1 a2 b1 b2 W hok.1 hok.2.1)
            rw [show MH.sq (b1, b2) (a1, a2) = d0 from hsq.symm] at KB2
            clear hrk hok hsq
            generalize hd1 : MH.sq (r1, r2) (p1, p2) = d1 at *
            have HD1 := Lib.hid hd1
            clear hd1
            have hzi2 : gs < wi.heap.size := by omega
            go_wp2_with fail
            obtain ⟨Wq, hWq⟩ : ∃ Wq, Wq = (wi.alloc (.cells #[.int .i64 r1, .int .i64 r2] 25)) := ⟨_, rfl⟩
            rw [← hWq]
            have yWq0_0 : Wq.cell? ⟨wi.heap.size, 0, none⟩ = some (.int .i64 r1) := by rw [hWq]; go_simp
            have yWq0_1 : Wq.cell? ⟨wi.heap.size, 1, none⟩ = some (.int .i64 r2) := by rw [hWq]; go_simp
            have fWq0 : ∀ o, Wq.frozen? ⟨wi.heap.size, o, none⟩ = false := by intro o; rw [hWq]; (repeat rw [frozen?_alloc_cells]); simp [World.frozen?]
            have zWq0 : wi.heap.size < Wq.heap.size := by rw [hWq]; simp <;> omega
            have BWq : Below wi.heap.size wi Wq := by rw [hWq]; exact (Below.alloc (Below.refl _ _) (by simp <;> omega) _)
            have eWq : Hid (Wq.heap.size = wi.heap.size + 1) := Lib.hid (by rw [hWq]; simp)
            clear hWq
            have T3 := Lib.hid (two_below hTi.out BWq)
            have v1 : Wq.cell? ⟨wo.heap.size, 0, none⟩ = some (.int .i64 p1) := ((bcell BWq).1 _ _ hzi).trans y1
            have v2 : Wq.cell? ⟨wo.heap.size, 1, none⟩ = some (.int .i64 p2) := ((bcell BWq).1 _ _ hzi).trans y2
            have zv : wo.heap.size < Wq.heap.size := Nat.lt_of_lt_of_le hzi BWq.size
            have t1 := T3.out.g0
            have t2 := T3.out.g1
            have t3 := T3.out.h0
            have t4 := T3.out.h1
            have z1 := T3.out.up1
            have z2 := T3.out.up2
            simp only at t1 t2 t3 t4
            have zq := zWq0
            have y5 := yWq0_0
            have y6 := yWq0_1
            have hzga := Lib.hid hTi.out.up1
            have hzgb := Lib.hid hTi.out.up2
            clear y1 y2 q3 q4 hTi yWq0_0 yWq0_1 zWq0 fWq0 eWq BWq
            refine wp_region_B (fun W => Below Wq.heap.size Wq W) (by kernel_rfl) (by repeat (first | exact Below.refl _ _ | apply Below.drew)) ?_
            first | refine wpB_skip 0 rfl (by kernel_rfl) (by kernel_rfl) (by kernel_rfl) (by rfl) ?_ | (refine wpB_text 0 (v := ?_) rfl (by kernel_rfl) (by kernel_rfl) (by kernel_rfl) (by rfl) (fun W hW => ?_) ?_; rotate_left; (have k1 := hW; obtain ⟨hc1, hf1⟩ := bcell k1; go_simp; refine comes_v ?_; exact k1))
            (try simp only [Act.put, List.setIfInBounds_toArray, List.set_cons_zero, List.set_cons_succ])
            first | refine wpB_skip 1 rfl (by kernel_rfl) (by kernel_rfl) (by kernel_rfl) (by rfl) ?_ | (refine wpB_text 1 (v := ?_) rfl (by kernel_rfl) (by kernel_rfl) (by kernel_rfl) (by rfl) (fun W hW => ?_) ?_; rotate_left; (have k1 := hW; obtain ⟨hc1, hf1⟩ := bcell k1; go_simp; refine comes_v ?_; exact k1))
            (try simp only [Act.put, List.setIfInBounds_toArray, List.set_cons_zero, List.set_cons_succ])
            first | refine wpB_skip 2 rfl (by kernel_rfl) (by kernel_rfl) (by kernel_rfl) (by rfl) ?_ | (refine wpB_text 2 (v := .int .i64 d1) rfl (by kernel_rfl) (by kernel_rfl) (by kernel_rfl) (by rfl) (fun W hW => ?_) ?_; (have k1 := hW; obtain ⟨hc1, hf1⟩ := bcell k1; go_simp; exact comes_c ( KB1.out _) (fun wn hbn => bt_keep k1 hbn)))
            (try simp only [Act.put, List.setIfInBounds_toArray, List.set_cons_zero, List.set_cons_succ])
            first | refine wpB_skip 3 rfl (by kernel_rfl) (by kernel_rfl) (by kernel_rfl) (by rfl) ?_ | (refine wpB_text 3 (v := ?_) rfl (by kernel_rfl) (by kernel_rfl) (by kernel_rfl) (by rfl) (fun W hW => ?_) ?_; rotate_left; (have k1 := hW; obtain ⟨hc1, hf1⟩ := bcell k1; go_simp; refine comes_v ?_; exact k1))
            (try simp only [Act.put, List.setIfInBounds_toArray, List.set_cons_zero, List.set_cons_succ])
            first | refine wpB_skip 4 rfl (by kernel_rfl) (by kernel_rfl) (by kernel_rfl) (by rfl) ?_ | (refine wpB_text 4 (v := ?_) rfl (by kernel_rfl) (by kernel_rfl) (by kernel_rfl) (by rfl) (fun W hW => ?_) ?_; rotate_left; (have k1 := hW; obtain ⟨hc1, hf1⟩ := bcell k1; go_simp; refine comes_v ?_; exact k1))
            (try simp only [Act.put, List.setIfInBounds_toArray, List.set_cons_zero, List.set_cons_succ])
            first | refine wpB_skip 5 rfl (by kernel_rfl) (by kernel_rfl) (by kernel_rfl) (by rfl) ?_ | (refine wpB_text 5 (v := .int .i64 d0) rfl (by kernel_rfl) (by kernel_rfl) (by kernel_rfl) (by rfl) (fun W hW => ?_) ?_; (have k1 := hW; obtain ⟨hc1, hf1⟩ := bcell k1; go_simp; exact comes_c ( KB2.out _) (fun wn hbn => bt_keep k1 hbn)))
            (try simp only [Act.put, List.setIfInBounds_toArray, List.set_cons_zero, List.set_cons_succ])
            first | refine wpB_skip 6 rfl (by kernel_rfl) (by kernel_rfl) (by kernel_rfl) (by rfl) ?_ | (refine wpB_text 6 (v := ?_) rfl (by kernel_rfl) (by kernel_rfl) (by kernel_rfl) (by rfl) (fun W hW => ?_) ?_; rotate_left; (have k1 := hW; obtain ⟨hc1, hf1⟩ := bcell k1; go_simp; refine comes_v ?_; exact k1))
            (try simp only [Act.put, List.setIfInBounds_toArray, List.set_cons_zero, List.set_cons_succ])
            refine wpB_done (by kernel_rfl) ?_ _
            intro W hW; have k1 := hW
            rename World => w3
            have T4 := Lib.hid (two_below T3.out k1)
            have u1 := ((bcell k1).1 _ 0 zv).trans v1
            have u2 := ((bcell k1).1 _ 1 zv).trans v2
            have u5 := ((bcell k1).1 _ 0 zq).trans y5
            have u6 := ((bcell k1).1 _ 1 zq).trans y6
            have g1 := T4.out.g0
            have g2 := T4.out.g1
            have g3 := T4.out.h0
            have g4 := T4.out.h1
            have g5 := T4.out.gf 0
            have g6 := T4.out.gf 1
            have g7 := T4.out.hf 0
            have g8 := T4.out.hf 1
            simp only at g1 g2 g3 g4
            have z3 := T4.out.up1
            have z4 := T4.out.up2
            have z5 : wo.heap.size < w3.heap.size := Nat.lt_of_lt_of_le zv k1.size
            have z6 : wi.heap.size < w3.heap.size := Nat.lt_of_lt_of_le zq k1.size
            have n1 : ga ≠ wo.heap.size := by omega
            have n2 : gb ≠ wo.heap.size := by omega
            have n3 := T4.out.ne
            have zga2 := T3.out.up1
            have n4 : ga ≠ wi.heap.size := by (have := hzga.out; omega)
            have n5 : gb ≠ wi.heap.size := by (have := hzgb.out; omega)
            clear t1 t2 t3 t4 v1 v2 y5 y6 zv zq z1 z2 zga2 T3 KB1 KB2 k1
            by_cases hdd : d0 < d1
            · have HN : Hid (farRow s k A (m + 1) = ((p1, p2), (r1, r2), d1)) := Lib.hid (by rw [HST.out]; unfold farStep; simp only; rw [if_pos (by rw [HD1.out]; exact hdd), HD1.out])
              have T5 := Lib.hid (two_high (two_low T4.out p1 p2) r1 r2)
              go_wp2_with fail
              go_roundg (n - (k + 1) - (m + 1))
              case measure => have := HGM.out; omega
              case rel => exact ⟨m + 1, by omega, rfl, by go_num, Lib.hid (by rw [HN.out]; exact T5.out), by simp [World.setCell]; omega, by go_simp, by go_simp⟩
            · have HN : Hid (farRow s k A (m + 1) = ((a1, a2), (b1, b2), d0)) := Lib.hid (by rw [HST.out]; unfold farStep; simp only; rw [if_neg (by rw [HD1.out]; exact hdd)])
              go_wp2_with fail
              go_roundg (n - (k + 1) - (m + 1))
              case measure => have := HGM.out; omega
              case rel => exact ⟨m + 1, by omega, rfl, by go_num, Lib.hid (by rw [HN.out]; exact T4.out), z5, u1, u2⟩
          · have hme : m = n - (k + 1) := by omega
            subst hme
            have HE : Hid (Two w2 wi ga gb (farAll s a0 (k + 1)).1 (farAll s a0 (k + 1)).2.1) := Lib.hid (by rw [HAN.out]; exact hTi.out)
            have hnl : ¬ (((n - (k + 1) : Nat) : Int) < ((n - (k + 1) : Nat) : Int)) := by omega
            clear hTi
            go_wp2_with fail
            go_roundg (n - (k + 1))
            case measure => have := HGK.out; omega
            case rel => exact ⟨k + 1, by omega, rfl, by go_num, HE⟩
    · have hkn : k = n := by omega
      subst hkn
      have hok := HOK.out k (Nat.le_refl _)
      have hsq := HAS.out k
      obtain ⟨⟨a1, a2⟩, ⟨b1, b2⟩, d0, hAe⟩ : ∃ (a b : Int × Int) (d : Int), farAll s a0 k = (a, b, d) := ⟨_, _, _, rfl⟩
      rw [hAe] at hok hsq hT
      have HAE := Lib.hid hAe
      have KB := Lib.hid (fun W => bdFar_any a1 a2 b1 b2 W hok.1 hok.2.1)
      rw [show MH.sq (b1, b2) (a1, a2) = d0 from hsq.symm] at KB
      have hb := hT.out.below
      obtain ⟨r0, ⟨r1, r2, r3, r4⟩, f1, f2⟩ := HR2.out
      have x1 := (hb.cell (p := ⟨w.heap.size, 0, none⟩) (show w.heap.size < w2.heap.size by omega)).trans r1
      have x2 := (hb.cell (p := ⟨w.heap.size, 1, none⟩) (show w.heap.size < w2.heap.size by omega)).trans r2
      have x3 := (hb.cell (p := ⟨w.heap.size + 1, 0, none⟩) r0).trans r3
      have x4 := (hb.cell (p := ⟨w.heap.size + 1, 1, none⟩) r0).trans r4
      have g1 := (hb.frozen (p := ⟨w.heap.size, 0, none⟩) (show w.heap.size < w2.heap.size by omega)).trans (f1 0)
      have g2 := (hb.frozen (p := ⟨w.heap.size, 1, none⟩) (show w.heap.size < w2.heap.size by omega)).trans (f1 1)
      have g3 := (hb.frozen (p := ⟨w.heap.size + 1, 0, none⟩) r0).trans (f2 0)
      have g4 := (hb.frozen (p := ⟨w.heap.size + 1, 1, none⟩) r0).trans (f2 1)
      have hbs := hb.size
      have zr1 : w.heap.size + 1 < wo.heap.size := by omega
      have zr0 : w.heap.size < wo.heap.size := by omega
      have t1 := hT.out.g0
      have t2 := hT.out.g1
      have t3 := hT.out.h0
      have t4 := hT.out.h1
      have z1 := hT.out.up1
      have z2 := hT.out.up2
      simp only at t1 t2 t3 t4
      have B3 := B2.trans (hb.mono B2.size)
      have l1 := hT.out.lo1
      have l2 := hT.out.lo2
      have n1 : ga ≠ w.heap.size := by omega
      have n2 : ga ≠ w.heap.size + 1 := by omega
      have n3 : gb ≠ w.heap.size := by omega
      have n4 : gb ≠ w.heap.size + 1 := by omega
      have n5 := Ne.symm n1
      have n6 := Ne.symm n2
      have n7 := Ne.symm n3
      have n8 := Ne.symm n4
      clear l1 l2
      clear r0 r1 r2 r3 r4 f1 f2 hb hbs hT hok hsq hAe HCS HOK HRO HRS HAS HPG HR2 B2 zs
      go_wp2_with fail
      go_region_with
        (go_at_call 54; go_must (with_reducible refine (KB.out _).mono ?_); rintro e w9 ⟨rfl, hb9⟩;
         have v1 : w9.cell? ⟨w.heap.size, 0, none⟩ = some (.int .i64 0) := ((bcell hb9).1 _ 0 (show _ < wo.heap.size from zr0)).trans x1;
         have v2 : w9.cell? ⟨w.heap.size, 1, none⟩ = some (.int .i64 0) := ((bcell hb9).1 _ 1 (show _ < wo.heap.size from zr0)).trans x2;
         have v3 : w9.cell? ⟨w.heap.size + 1, 0, none⟩ = some (.int .i64 0) := ((bcell hb9).1 _ 0 (show _ < wo.heap.size from zr1)).trans x3;
         have v4 : w9.cell? ⟨w.heap.size + 1, 1, none⟩ = some (.int .i64 0) := ((bcell hb9).1 _ 1 (show _ < wo.heap.size from zr1)).trans x4;
         have e1 := ((bcell hb9).2 _ 0 (show _ < wo.heap.size from zr0)).trans g1;
         have e2 := ((bcell hb9).2 _ 1 (show _ < wo.heap.size from zr0)).trans g2;
         have e3 := ((bcell hb9).2 _ 0 (show _ < wo.heap.size from zr1)).trans g3;
         have e4 := ((bcell hb9).2 _ 1 (show _ < wo.heap.size from zr1)).trans g4;
         have s1 : w9.cell? ⟨ga, 0, none⟩ = some (.int .i64 a1) := ((bcell hb9).1 _ 0 (show _ < wo.heap.size from z1)).trans t1;
         have s2 : w9.cell? ⟨ga, 1, none⟩ = some (.int .i64 a2) := ((bcell hb9).1 _ 1 (show _ < wo.heap.size from z1)).trans t2;
         have s3 : w9.cell? ⟨gb, 0, none⟩ = some (.int .i64 b1) := ((bcell hb9).1 _ 0 (show _ < wo.heap.size from z2)).trans t3;
         have s4 : w9.cell? ⟨gb, 1, none⟩ = some (.int .i64 b2) := ((bcell hb9).1 _ 1 (show _ < wo.heap.size from z2)).trans t4;
         have B4 : Below w.heap.size w w9 := B3.drew.trans (hb9.mono B3.size);
         have y1 : w.heap.size + 1 < w9.heap.size := Nat.lt_of_lt_of_le zr1 hb9.size;
         have y0 : w.heap.size < w9.heap.size := Nat.lt_of_lt_of_le zr0 hb9.size;
         clear hb9)
      all_goals
        go_wp2_with fail
        refine bodyPost_ret (v := .tuple #[.agg #[.int .i64 a1, .int .i64 a2], .agg #[.int .i64 b1, .int .i64 b2], .int .i64 d0, .bool true]) (by simp [results, Try.results16, go_sem, y0, y1, v1, v2, v3, v4]) rfl ⟨by rw [HAE.out], ?_⟩
        repeat (first | with_reducible assumption | with_reducible exact Below.refl _ _ | with_reducible apply Below.drew | ((with_reducible refine Below.setCell ?_ ?_ _); rotate_left; (first | exact Nat.le_refl _ | omega | (simp <;> omega))) | ((with_reducible refine Below.alloc ?_ ?_ _); rotate_left; (first | omega | (simp <;> omega))))
end Go.Proofs.Ytakccbbdfcnjeaa
