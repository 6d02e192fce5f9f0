/- contract: the two points of a list that are farthest apart, the program -/
import Derived.Test.YtakccbbdfcnjeaaVa
import Derived.Test.YtakccbbdfcnjeaaTwx
import Derived.Test.YtakccbbdfcnjeaaMS
import Derived.Test.YtakccbbdfcnjeaaBc
import Derived.Test.YtakccbbdfcnjeaaTb00
import Derived.Deep.CutRange
import Derived.Deep.RegionWith
import Derived.Deep.DeepMust
namespace Go.Proofs.Ytakccbbdfcnjeaa
open Go.ChangeShapes Go.WideShapes Go.ChangeAt Go.RowKit Go.Joins
set_option linter.unusedVariables false
set_option linter.unusedSimpArgs false
set_option maxRecDepth 4000
/-- how memory stands while the farthest ones are sought: two boxes, and the list in order -/
structure FarW (w W : World) (ga gb gs n : Nat) (s : List (Int × Int)) (a b : Int × Int) : Prop where
  two : Two w W ga gb a b
  row : ∀ i, i < n → W.cell? ⟨gs, i * 2, none⟩ = some (.int .i64 (pt s i).1) ∧ W.cell? ⟨gs, i * 2 + 1, none⟩ = some (.int .i64 (pt s i).2)
  zs : gs < W.heap.size
  na : gs ≠ ga
  nb : gs ≠ gb
theorem FarW.up {w W W' : World} {ga gb gs n : Nat} {s : List (Int × Int)} {a b : Int × Int} (h : FarW w W ga gb gs n s a b) (hb : Below W.heap.size W W') : FarW w W' ga gb gs n s a b :=
  ⟨two_below h.two hb, fun i hi => ⟨((bcell hb).1 _ _ h.zs).trans (h.row i hi).1, ((bcell hb).1 _ _ h.zs).trans (h.row i hi).2⟩, Nat.lt_of_lt_of_le h.zs hb.size, h.na, h.nb⟩
theorem FarW.store {w W : World} {ga gb gs n : Nat} {s : List (Int × Int)} {a b : Int × Int} (h : FarW w W ga gb gs n s a b) (p1 p2 r1 r2 : Int) :
    FarW w ((((W.setCell ⟨ga, 0, none⟩ (.int .i64 p1)).setCell ⟨ga, 1, none⟩ (.int .i64 p2)).setCell ⟨gb, 0, none⟩ (.int .i64 r1)).setCell ⟨gb, 1, none⟩ (.int .i64 r2)) ga gb gs n s (p1, p2) (r1, r2) := by
  have ne : ∀ (V : World) (b b' o o' : Nat) (v : Value), b ≠ b' → (V.setCell ⟨b, o, none⟩ v).cell? ⟨b', o', none⟩ = V.cell? ⟨b', o', none⟩ := fun V b b' o o' v h => World.cell?_setCell_other V _ _ _ (fun e => h (by injection e))
  have na := Ne.symm h.na
  have nb := Ne.symm h.nb
  refine ⟨two_high (two_low h.two p1 p2) r1 r2, fun i hi => ?_, by simpa [World.setCell] using h.zs, h.na, h.nb⟩
  rw [ne _ _ _ _ _ _ nb, ne _ _ _ _ _ _ nb, ne _ _ _ _ _ _ na, ne _ _ _ _ _ _ na, ne _ _ _ _ _ _ nb, ne _ _ _ _ _ _ nb, ne _ _ _ _ _ _ na, ne _ _ _ _ _ _ na]
  exact h.row i hi
set_option maxHeartbeats 8000000 in
theorem implFarthest_yes (A : Option Addr) (c : Nat) (l : List (Int × Int)) (w : World) (hn : l.length ≤ 1048576) (hcap : l.length ≤ c) (hc2 : c ≤ 9223372036854775807) (hd : Dif l) (h2 : 2 ≤ l.length) (hR : Rd w w.heap.size A l) :
    Calls Try.prog 18 #[.slice A l.length c] w fun e w' => e = .returned (.tuple #[.agg #[.int .i64 (farAll (srt l) ((0, 0), (0, 0), 0) l.length).1.1, .int .i64 (farAll (srt l) ((0, 0), (0, 0), 0) l.length).1.2], .agg #[.int .i64 (farAll (srt l) ((0, 0), (0, 0), 0) l.length).2.1.1, .int .i64 (farAll (srt l) ((0, 0), (0, 0), 0) l.length).2.1.2], .int .i64 (farAll (srt l) ((0, 0), (0, 0), 0) l.length).2.2, .bool true]) ∧ Below w.heap.size w w' := by
  have K := Lib.hid (fun W (hb : Below w.heap.size w W) => implAreDifferent_any A c l W hn hcap hc2 (rd_more (rd_below hR hb (Nat.le_refl _)) hb.size))
  rw [difB_true hd] at K
  have h30 := hd.few.2
  have K2 := Lib.hid (fun W (hb : Below w.heap.size w W) => inOrder_any A c l.length l W rfl (by omega) (by omega) (dif_nodup hd) (rd_more (rd_below hR hb (Nat.le_refl _)) hb.size))
  have hsl := srt_len l
  have hpg : ∀ x ∈ srt l, isPg x = true := fun x hx => dif_pegs hd x (srt_mem.1 hx)
  clear hd hR
  generalize srt l = s at *
  generalize hN : l.length = n at *
  have HSL := Lib.hid hsl
  have HPG : Hid (∀ i, i < n → isPg (pt s i) = true) := Lib.hid (fun i hi => hpg _ (pt_mem (by omega)))
  obtain ⟨a0, ha0⟩ : ∃ a0 : Fa3, a0 = ((0, 0), (0, 0), 0) := ⟨_, rfl⟩
  have HA0 := Lib.hid ha0
  have HOK : Hid (∀ k, k ≤ n → FarOk (farAll s a0 k)) := Lib.hid (fun k hk => far_all_ok hpg (by rw [ha0]; exact far_zero) k (by omega))
  have HRO : Hid (∀ k m, k < n → k + 1 + m ≤ n → FarOk (farRow s k (farAll s a0 k) m)) := Lib.hid (fun k m hk hm => far_row_ok hpg (by omega) (HOK.out k (by omega)) m (by omega))
  rw [← ha0]
  clear ha0 hpg hsl hN
  go_enter Try.func18, Try.ntmps18
  go_wp2_with fail
  obtain ⟨W0, hW0⟩ : ∃ W0, W0 = ((w.alloc (.cells #[.int .i64 0, .int .i64 0] 25)).alloc (.cells #[.int .i64 0, .int .i64 0] 25)) := ⟨_, rfl⟩
  rw [← hW0]
  have yW00_0 : W0.cell? ⟨w.heap.size, 0, none⟩ = some (.int .i64 0) := by rw [hW0]; go_simp
  have yW00_1 : W0.cell? ⟨w.heap.size, 1, none⟩ = some (.int .i64 0) := by rw [hW0]; go_simp
  have fW00 : ∀ o, W0.frozen? ⟨w.heap.size, o, none⟩ = false := by intro o; rw [hW0]; (repeat rw [frozen?_alloc_cells]); simp [World.frozen?]
  have zW00 : w.heap.size < W0.heap.size := by rw [hW0]; simp <;> omega
  have yW01_0 : W0.cell? ⟨w.heap.size + 1, 0, none⟩ = some (.int .i64 0) := by rw [hW0]; go_simp
  have yW01_1 : W0.cell? ⟨w.heap.size + 1, 1, none⟩ = some (.int .i64 0) := by rw [hW0]; go_simp
  have fW01 : ∀ o, W0.frozen? ⟨w.heap.size + 1, o, none⟩ = false := by intro o; rw [hW0]; (repeat rw [frozen?_alloc_cells]); simp [World.frozen?]
  have zW01 : w.heap.size + 1 < W0.heap.size := by rw [hW0]; simp <;> omega
  have BW0 : Below w.heap.size w W0 := by rw [hW0]; exact (Below.alloc (Below.alloc (Below.refl _ _) (by simp <;> omega) _) (by simp <;> omega) _)
  have eW0 : Hid (W0.heap.size = w.heap.size + 2) := Lib.hid (by rw [hW0]; simp)
  clear hW0
  refine (K.out W0 BW0).mono ?_; rintro e w1 ⟨rfl, hb1⟩
  have B1 := BW0.trans (hb1.mono BW0.size)
  have HR1 : Hid (w.heap.size + 1 < w1.heap.size ∧ (w1.cell? ⟨w.heap.size, 0, none⟩ = some (.int .i64 0) ∧ w1.cell? ⟨w.heap.size, 1, none⟩ = some (.int .i64 0) ∧ w1.cell? ⟨w.heap.size + 1, 0, none⟩ = some (.int .i64 0) ∧ w1.cell? ⟨w.heap.size + 1, 1, none⟩ = some (.int .i64 0)) ∧ (∀ o, w1.frozen? ⟨w.heap.size, o, none⟩ = false) ∧ ∀ o, w1.frozen? ⟨w.heap.size + 1, o, none⟩ = false) := Lib.hid (by
    obtain ⟨hc, hf⟩ := bcell hb1
    exact ⟨Nat.lt_of_lt_of_le zW01 hb1.size, ⟨(hc _ _ zW00).trans yW00_0, (hc _ _ zW00).trans yW00_1, (hc _ _ zW01).trans yW01_0, (hc _ _ zW01).trans yW01_1⟩, fun o => (hf _ _ zW00).trans (fW00 o), fun o => (hf _ _ zW01).trans (fW01 o)⟩)
  clear yW00_0 yW00_1 yW01_0 yW01_1 fW00 fW01 zW00 zW01 eW0 BW0 hb1
  have hlt2 : ¬ ((n : Int) < 2) := by omega
  go_wp2_with fail
  have T0 := Lib.hid (two_new (p := (0, 0)) (t := 25) (Below.refl w1.heap.size w1))
  have BA : Below w.heap.size w ((w1.alloc (.cells #[.int .i64 0, .int .i64 0] 25)).alloc (.cells #[.int .i64 0, .int .i64 0] 25)) := Below.alloc (Below.alloc B1 B1.size _) (by have := B1.size; simp; omega) _
  refine (K2.out _ BA).mono ?_; rintro e w2 ⟨⟨gs, cap, rfl, ho⟩, hb2⟩
  have hnc : n ≤ cap ∧ cap ≤ maxLen ∧ ((w1.alloc (.cells #[.int .i64 0, .int .i64 0] 25)).alloc (.cells #[.int .i64 0, .int .i64 0] 25)).heap.size ≤ gs ∧ gs < w2.heap.size := by
    rcases own_val ho with ⟨hv, h⟩ | ⟨g', cap', hv, h1, h2, h3, h4⟩
    · cases hv
    · injection hv with hv1 _ hv3
      injection hv1 with hv1
      injection hv1 with hv1
      subst hv1 hv3
      exact ⟨h1, h2, h3, h4⟩
  obtain ⟨hnc, hcm, hgl, zs⟩ := hnc
  unfold maxLen at hcm
  simp only [World.size_alloc] at hgl
  have HF0 : Hid (FarW w1 w2 w1.heap.size (w1.heap.size + 1) gs n s (farAll s a0 0).1 (farAll s a0 0).2.1) := Lib.hid (by
    have h0 : (farAll s a0 0).1 = (0, 0) ∧ (farAll s a0 0).2.1 = (0, 0) := by
      have := HA0.out
      subst this
      exact ⟨rfl, rfl⟩
    rw [h0.1, h0.2]
    refine ⟨two_below T0.out hb2, fun i hi => ?_, zs, by omega, by omega⟩
    have hrd := own_pt ho HSL.out i hi
    exact hrd)
  have B2 := BA.trans (hb2.mono BA.size)
  have hb2s := hb2.size
  simp only [World.size_alloc] at hb2s
  have HB2 : Hid (Below w1.heap.size w1 w2) := Lib.hid ((Below.alloc (Below.alloc (Below.refl _ _) (Nat.le_refl _) _) (by simp) _).trans (hb2.mono (by simp; omega)))
  clear ho hb2 BA K K2 B2 T0 hgl
  have hF0 : ∃ f0, f0 = (farAll s a0 0).2.2 := ⟨_, rfl⟩
  have hz0 : (0 : Int) = (farAll s a0 0).2.2 := by have := HA0.out; subst this; rfl
  have HZ0 := Lib.hid hz0
  clear hF0 hz0
  go_wp2_with fail
  go_loopg [8, 29] n (fun g f i wr => ∃ k : Nat, k ≤ n ∧ g = n - k ∧ i = .int .i64 k ∧ f = .int .i64 (farAll s a0 k).2.2 ∧ Hid (FarW w1 wr w1.heap.size (w1.heap.size + 1) gs n s (farAll s a0 k).1 (farAll s a0 k).2.1))
  case atStart => exact ⟨0, Nat.zero_le _, rfl, rfl, by rw [← HZ0.out], HF0⟩
  case round =>
    clear HF0
    obtain ⟨k, hk, hg, rfl, rfl, hF⟩ := hrel
    rename World => wo
    have HGK := Lib.hid hg
    clear hg
    have zs2 := hF.out.zs
    have zga := hF.out.two.up1
    have zgb := hF.out.two.up2
    have nga := hF.out.na
    have ngb := hF.out.nb
    by_cases hlt : k < n
    · obtain ⟨q1, q2⟩ := hF.out.row k hlt
      have hpk := HPG.out k hlt
      have hk1 : k + 1 ≤ n := by omega
      have hkc : k + 1 ≤ cap := by omega
      obtain ⟨p1, p2, hpe⟩ : ∃ p1 p2, pt s k = (p1, p2) := ⟨_, _, rfl⟩
      have HPE := Lib.hid hpe
      rw [hpe] at q1 q2 hpk
      have HPK := Lib.hid hpk
      clear hpe hpk
      have HAN : Hid (farAll s a0 (k + 1) = farRow s k (farAll s a0 k) (n - (k + 1))) := Lib.hid (by rw [farAll, HSL.out])
      have HRO2 := Lib.hid (fun m hm => HRO.out k m hlt hm)
      have hF1 : Hid (FarW w1 wo w1.heap.size (w1.heap.size + 1) gs n s (farRow s k (farAll s a0 k) 0).1 (farRow s k (farAll s a0 k) 0).2.1) := hF
      clear hF
      generalize farAll s a0 k = A at *
      by_cases hlast : k + 1 = n
      · have hnk : n - (k + 1) = 0 := by omega
        by_cases hce : n = cap
        · subst hce
          go_wp2_with fail
          go_loopg [8, 39] 0 (fun g2 f j wi => j = .int .i64 0 ∧ f = .int .i64 (farRow s k A 0).2.2 ∧ Hid (FarW w1 wi w1.heap.size (w1.heap.size + 1) gs n s (farRow s k A 0).1 (farRow s k A 0).2.1))
          case atStart => exact ⟨rfl, rfl, Lib.hid (hF1.out.up (Below.alloc (Below.refl _ _) (Nat.le_refl _) _))⟩
          case round =>
            obtain ⟨rfl, rfl, hTi⟩ := hrel
            go_wp2_with fail
            go_roundg (n - (k + 1))
            case measure => have := HGK.out; omega
            case rel => exact ⟨k + 1, by omega, rfl, by go_num, by rw [HAN.out, hnk], Lib.hid (by rw [HAN.out, hnk]; exact hTi.out)⟩
        · have hcn : ¬ cap = k + 1 := by omega
          go_wp2_with fail
          go_loopg [8, 39] 0 (fun g2 f j wi => j = .int .i64 0 ∧ f = .int .i64 (farRow s k A 0).2.2 ∧ Hid (FarW w1 wi w1.heap.size (w1.heap.size + 1) gs n s (farRow s k A 0).1 (farRow s k A 0).2.1))
          case atStart => exact ⟨rfl, rfl, Lib.hid (hF1.out.up (Below.alloc (Below.refl _ _) (Nat.le_refl _) _))⟩
          case round =>
            obtain ⟨rfl, rfl, hTi⟩ := hrel
            go_wp2_with fail
            go_roundg (n - (k + 1))
            case measure => have := HGK.out; omega
            case rel => exact ⟨k + 1, by omega, rfl, by go_num, by rw [HAN.out, hnk], Lib.hid (by rw [HAN.out, hnk]; exact hTi.out)⟩
      · have hcn : ¬ cap = k + 1 := by omega
        go_wp2_with fail
        go_loopg [8, 39] (n - (k + 1)) (fun g2 f j wi => ∃ m : Nat, m ≤ n - (k + 1) ∧ g2 = n - (k + 1) - m ∧ j = .int .i64 m ∧ f = .int .i64 (farRow s k A m).2.2 ∧ Hid (FarW w1 wi w1.heap.size (w1.heap.size + 1) gs n s (farRow s k A m).1 (farRow s k A m).2.1) ∧ wo.heap.size < wi.heap.size ∧ wi.cell? ⟨wo.heap.size, 0, none⟩ = some (.int .i64 p1) ∧ wi.cell? ⟨wo.heap.size, 1, none⟩ = some (.int .i64 p2))
        case atStart => exact ⟨0, Nat.zero_le _, rfl, rfl, rfl, Lib.hid (hF1.out.up (Below.alloc (Below.refl _ _) (Nat.le_refl _) _)), by simp, by go_simp, by go_simp⟩
        case round =>
          clear hF1 q1 q2
          obtain ⟨m, hm, hg2, rfl, rfl, hTi, hzi, y1, y2⟩ := hrel
          rename World => wi
          have HGM := Lib.hid hg2
          clear hg2
          by_cases hlm : m < n - (k + 1)
          · obtain ⟨q3, q4⟩ := hTi.out.row (k + 1 + m) (by omega)
            rw [show (k + 1 + m) * 2 = (k + 1) * 2 + m * 2 by omega] at q3 q4
            have hmi : (m : Int) < (n : Int) - ((k : Int) + 1) := by omega
            have hrk := HPG.out (k + 1 + m) (by omega)
            have hok := HRO2.out m (by omega)
            have HST : Hid (farRow s k A (m + 1) = farStep (pt s k) (farRow s k A m) (pt s (k + 1 + m))) := Lib.hid rfl
            rw [HPE.out] at HST
            obtain ⟨r1, r2, hre⟩ : ∃ r1 r2, pt s (k + 1 + m) = (r1, r2) := ⟨_, _, rfl⟩
            rw [hre] at q3 q4 hrk HST
            clear hre
            obtain ⟨⟨a1, a2⟩, ⟨b1, b2⟩, d0, hAe⟩ : ∃ (a b : Int × Int) (d : Int), farRow s k A m = (a, b, d) := ⟨_, _, _, rfl⟩
            rw [hAe] at HST hTi hok ⊢
            clear hAe
            have bp : (-40 ≤ p1 ∧ p1 ≤ 40) ∧ (-40 ≤ p2 ∧ p2 ≤ 40) := isPg_bd HPK.out
            have br : (-40 ≤ r1 ∧ r1 ≤ 40) ∧ (-40 ≤ r2 ∧ r2 ≤ 40) := isPg_bd hrk
            have KM := Lib.hid (fun W => minus_any r1 r2 p1 p2 W (by unfold Mid; omega) (by unfold Mid; omega) (by unfold Mid; omega) (by unfold Mid; omega))
            have KS := Lib.hid (fun W => square_any (r1 - p1) (r2 - p2) W (by omega) (by omega))
            have HD1 : Hid (MH.sq (r1, r2) (p1, p2) = (r1 - p1) * (r1 - p1) + (r2 - p2) * (r2 - p2)) := Lib.hid rfl
            clear hrk hok bp br
            generalize (r1 - p1) * (r1 - p1) + (r2 - p2) * (r2 - p2) = d1 at *
            generalize r1 - p1 = e1 at *
            generalize r2 - p2 = e2 at *
            have hzi2 := hTi.out.zs
            go_wp2_with fail
            obtain ⟨Wq, hWq⟩ : ∃ Wq, Wq = (wi.alloc (.cells #[.int .i64 r1, .int .i64 r2] 25)) := ⟨_, rfl⟩
            rw [← hWq]
            have yWq0_0 : Wq.cell? ⟨wi.heap.size, 0, none⟩ = some (.int .i64 r1) := by rw [hWq]; go_simp
            have yWq0_1 : Wq.cell? ⟨wi.heap.size, 1, none⟩ = some (.int .i64 r2) := by rw [hWq]; go_simp
            have fWq0 : ∀ o, Wq.frozen? ⟨wi.heap.size, o, none⟩ = false := by intro o; rw [hWq]; (repeat rw [frozen?_alloc_cells]); simp [World.frozen?]
            have zWq0 : wi.heap.size < Wq.heap.size := by rw [hWq]; simp <;> omega
            have BWq : Below wi.heap.size wi Wq := by rw [hWq]; exact (Below.alloc (Below.refl _ _) (by simp <;> omega) _)
            have eWq : Hid (Wq.heap.size = wi.heap.size + 1) := Lib.hid (by rw [hWq]; simp)
            clear hWq
            refine (KM.out _).mono ?_; rintro e w3 ⟨rfl, hb3⟩
            go_wp2_with fail
            refine (KS.out _).mono ?_; rintro e w4 ⟨rfl, hb4⟩
            have B4 := (BWq.trans (hb3.mono BWq.size)).trans (hb4.mono (BWq.trans (hb3.mono BWq.size)).size)
            have F4 := Lib.hid (hTi.out.up B4)
            have u1 := ((bcell B4).1 _ 0 hzi).trans y1
            have u2 := ((bcell B4).1 _ 1 hzi).trans y2
            have u5 := ((bcell hb4).1 _ 0 (Nat.lt_of_lt_of_le zWq0 hb3.size)).trans (((bcell hb3).1 _ 0 zWq0).trans yWq0_0)
            have u6 := ((bcell hb4).1 _ 1 (Nat.lt_of_lt_of_le zWq0 hb3.size)).trans (((bcell hb3).1 _ 1 zWq0).trans yWq0_1)
            have z6 : wi.heap.size < w4.heap.size := Nat.lt_of_lt_of_le (Nat.lt_of_lt_of_le zWq0 hb3.size) hb4.size
            have z5 : wo.heap.size < w4.heap.size := Nat.lt_of_lt_of_le hzi B4.size
            have g1 := F4.out.two.g0
            have g2 := F4.out.two.g1
            have g3 := F4.out.two.h0
            have g4 := F4.out.two.h1
            have g5 := F4.out.two.gf 0
            have g6 := F4.out.two.gf 1
            have g7 := F4.out.two.hf 0
            have g8 := F4.out.two.hf 1
            simp only at g1 g2 g3 g4
            have z3 := F4.out.two.up1
            have z4 := F4.out.two.up2
            have hwi := hTi.out.two.up2
            have n1 : w1.heap.size ≠ wo.heap.size := by omega
            have n2 : w1.heap.size + 1 ≠ wo.heap.size := by omega
            have n4 : w1.heap.size ≠ wi.heap.size := by omega
            have n5 : w1.heap.size + 1 ≠ wi.heap.size := by omega
            clear y1 y2 q3 q4 hTi yWq0_0 yWq0_1 zWq0 fWq0 eWq BWq hb3 hb4 B4 KM KS hwi hzi
            by_cases hdd : d0 < d1
            · have HN : Hid (farRow s k A (m + 1) = ((p1, p2), (r1, r2), d1)) := Lib.hid (by rw [HST.out]; unfold farStep; simp only; rw [if_pos (by rw [HD1.out]; exact hdd), HD1.out])
              have T5 := Lib.hid (F4.out.store p1 p2 r1 r2)
              go_wp2_with fail
              go_region
              all_goals
                go_wp2_with fail
                go_roundg (n - (k + 1) - (m + 1))
                case measure => have := HGM.out; omega
                case rel => exact ⟨m + 1, by omega, rfl, by go_num, by rw [HN.out], Lib.hid (by rw [HN.out]; exact T5.out.up (by repeat (first | with_reducible assumption | with_reducible exact Below.refl _ _ | with_reducible apply Below.drew | ((with_reducible refine Below.setCell ?_ ?_ _); rotate_left; (first | exact Nat.le_refl _ | omega | (simp <;> omega))) | ((with_reducible refine Below.alloc ?_ ?_ _); rotate_left; (first | omega | (simp <;> omega)))))), by simp [World.setCell]; omega, by go_simp, by go_simp⟩
            · have HN : Hid (farRow s k A (m + 1) = ((a1, a2), (b1, b2), d0)) := Lib.hid (by rw [HST.out]; unfold farStep; simp only; rw [if_neg (by rw [HD1.out]; exact hdd)])
              go_wp2_with fail
              go_roundg (n - (k + 1) - (m + 1))
              case measure => have := HGM.out; omega
              case rel => exact ⟨m + 1, by omega, rfl, by go_num, by rw [HN.out], Lib.hid (by rw [HN.out]; exact F4.out), z5, u1, u2⟩
          · have hme : m = n - (k + 1) := by omega
            subst hme
            have HE : Hid (FarW w1 wi w1.heap.size (w1.heap.size + 1) gs n s (farAll s a0 (k + 1)).1 (farAll s a0 (k + 1)).2.1) := Lib.hid (by rw [HAN.out]; exact hTi.out)
            have hnl : ¬ (((n - (k + 1) : Nat) : Int) < ((n - (k + 1) : Nat) : Int)) := by omega
            clear hTi
            go_wp2_with fail
            go_roundg (n - (k + 1))
            case measure => have := HGK.out; omega
            case rel => exact ⟨k + 1, by omega, rfl, by go_num, by rw [HAN.out], HE⟩
    · have hkn : k = n := by omega
      subst hkn
      obtain ⟨⟨a1, a2⟩, ⟨b1, b2⟩, d0, hAe⟩ : ∃ (a b : Int × Int) (d : Int), farAll s a0 k = (a, b, d) := ⟨_, _, _, rfl⟩
      have HAE := Lib.hid hAe
      have hd0 : (farAll s a0 k).2.2 = d0 := by rw [hAe]
      have HT : Hid (Two w1 wo w1.heap.size (w1.heap.size + 1) (a1, a2) (b1, b2)) := Lib.hid (by have := hF.out.two; rw [hAe] at this; exact this)
      have hb := HT.out.below
      obtain ⟨r0, ⟨r1, r2, r3, r4⟩, f1, f2⟩ := HR1.out
      have x1 := (hb.cell (p := ⟨w.heap.size, 0, none⟩) (show w.heap.size < w1.heap.size by omega)).trans r1
      have x2 := (hb.cell (p := ⟨w.heap.size, 1, none⟩) (show w.heap.size < w1.heap.size by omega)).trans r2
      have x3 := (hb.cell (p := ⟨w.heap.size + 1, 0, none⟩) r0).trans r3
      have x4 := (hb.cell (p := ⟨w.heap.size + 1, 1, none⟩) r0).trans r4
      have g1 := (hb.frozen (p := ⟨w.heap.size, 0, none⟩) (show w.heap.size < w1.heap.size by omega)).trans (f1 0)
      have g2 := (hb.frozen (p := ⟨w.heap.size, 1, none⟩) (show w.heap.size < w1.heap.size by omega)).trans (f1 1)
      have g3 := (hb.frozen (p := ⟨w.heap.size + 1, 0, none⟩) r0).trans (f2 0)
      have g4 := (hb.frozen (p := ⟨w.heap.size + 1, 1, none⟩) r0).trans (f2 1)
      have zr1 : w.heap.size + 1 < wo.heap.size := by omega
      have zr0 : w.heap.size < wo.heap.size := by omega
      have n1 : w1.heap.size ≠ w.heap.size := by omega
      have n2 : w1.heap.size ≠ w.heap.size + 1 := by omega
      have n3 : w1.heap.size + 1 ≠ w.heap.size := by omega
      have n5 := Ne.symm n1
      have n6 := Ne.symm n2
      have n7 := Ne.symm n3
      have t1 := HT.out.g0
      have t2 := HT.out.g1
      have t3 := HT.out.h0
      have t4 := HT.out.h1
      simp only at t1 t2 t3 t4
      have B3 := B1.trans (hb.mono B1.size)
      clear r0 r1 r2 r3 r4 f1 f2 hb hF hAe HOK HRO HPG HR1 B1 zs HB2 HT
      rw [hd0]
      clear hd0
      go_wp2_with fail
      go_region
      all_goals
        go_wp2_with fail
        refine bodyPost_ret (v := .tuple #[.agg #[.int .i64 a1, .int .i64 a2], .agg #[.int .i64 b1, .int .i64 b2], .int .i64 d0, .bool true]) (by simp [results, Try.results18, go_sem, zr0, zr1, x1, x2, x3, x4]) rfl ⟨by rw [HAE.out], ?_⟩
        repeat (first | with_reducible assumption | with_reducible exact Below.refl _ _ | with_reducible apply Below.drew | ((with_reducible refine Below.setCell ?_ ?_ _); rotate_left; (first | exact Nat.le_refl _ | omega | (simp <;> omega))) | ((with_reducible refine Below.alloc ?_ ?_ _); rotate_left; (first | omega | (simp <;> omega))))
end Go.Proofs.Ytakccbbdfcnjeaa
