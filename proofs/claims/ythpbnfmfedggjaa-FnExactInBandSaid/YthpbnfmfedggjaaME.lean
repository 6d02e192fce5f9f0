/- contracts: InBand on both sides -/
import Derived.Test.YthpbnfmfedggjaaMC
import Derived.Test.YthpbnfmfedggjaaMB
import Derived.Test.YthpbnfmfedggjaaMA
import Derived.Deep.CutRange
import Derived.Deep.RegionWith
import Derived.Deep.DeepMust
namespace Go.Proofs.Ythpbnfmfedggjaa
open Go.ChangeShapes Go.WideShapes Go.ChangeAt Go.RowKit Go.Joins
set_option linter.unusedVariables false
set_option linter.unusedSimpArgs false
set_option maxRecDepth 4000
noncomputable def inbB (l : List (Int × Int)) (p1 p2 : Int) : Bool := difB l && isPegB p1 p2
noncomputable def inbV (l : List (Int × Int)) (p1 p2 : Int) : Bool := inbB l p1 p2 && inHB (band l) (p1, p2)
theorem specInBand_yes (A : Option Addr) (c : Nat) (l : List (Int × Int)) (p1 p2 : Int) (w : World) (hn : l.length ≤ 1048576) (hcap : l.length ≤ c) (hc2 : c ≤ 9223372036854775807) (hg : Dif l) (hp : isPegB p1 p2 = true) (hR : Rd w w.heap.size A l) :
    Calls Try.prog 28 #[.slice A l.length c, .agg #[.int .i64 p1, .int .i64 p2]] w fun e w' => e = .returned (.tuple #[.bool (inHB (band l) (p1, p2)), .bool true]) ∧ Below w.heap.size w w' := by
  have K := Lib.hid (fun W (hb : Below w.heap.size w W) => bdGood_any A c l W hn hcap hc2 (rd_more (rd_below hR hb (Nat.le_refl _)) hb.size))
  have KP := Lib.hid (fun W => pgIs_any p1 p2 W)
  rw [difB_true hg] at K
  rw [hp] at KP
  have K2 := Lib.hid (fun W (hb : Below w.heap.size w W) => bandS_any A c l.length l W rfl hg (rd_more (rd_below hR hb (Nat.le_refl _)) hb.size))
  have hpos := band_pos hg
  have KB := Lib.hid (fun g cap W (h : Rd W W.heap.size (some ⟨g, 0, none⟩) (band l)) => bdIn_any (some ⟨g, 0, none⟩) cap (band l) (p1, p2) W hpos (band_few hg) (band_pegs hg) hp h)
  have HPOS := Lib.hid hpos
  clear hR hg hp hpos
  generalize inHB (band l) (p1, p2) = r at *
  generalize band l = m at *
  go_enter Try.func28, Try.ntmps28
  go_wp2_with fail
  obtain ⟨W1, hW1⟩ : ∃ W1, W1 = (w.alloc (.cells #[.int .i64 p1, .int .i64 p2] 38)) := ⟨_, rfl⟩
  rw [← hW1]
  have yW10_0 : W1.cell? ⟨w.heap.size, 0, none⟩ = some (.int .i64 p1) := by rw [hW1]; go_simp
  have yW10_1 : W1.cell? ⟨w.heap.size, 1, none⟩ = some (.int .i64 p2) := by rw [hW1]; go_simp
  have fW10 : ∀ o, W1.frozen? ⟨w.heap.size, o, none⟩ = false := by intro o; rw [hW1]; (repeat rw [frozen?_alloc_cells]); simp [World.frozen?]
  have zW10 : w.heap.size < W1.heap.size := by rw [hW1]; simp <;> omega
  have BW1 : Below w.heap.size w W1 := by rw [hW1]; exact (Below.alloc (Below.refl _ _) (by simp <;> omega) _)
  have eW1 : Hid (W1.heap.size = w.heap.size + 1) := Lib.hid (by rw [hW1]; simp)
  clear hW1
  refine (K.out W1 BW1).mono ?_; rintro e w2 ⟨rfl, hb2⟩
  have B2 := BW1.trans (hb2.mono BW1.size)
  have y0 := ((bcell hb2).1 _ 0 zW10).trans yW10_0
  have y1 := ((bcell hb2).1 _ 1 zW10).trans yW10_1
  have z2 := Nat.lt_of_lt_of_le zW10 hb2.size
  clear hb2 yW10_0 yW10_1 fW10 eW1 zW10 BW1
  go_wp2_with fail
  refine (KP.out _).mono ?_; rintro e w3 ⟨rfl, hb3⟩
  have B3 := B2.trans (hb3.mono B2.size)
  have x0 := ((bcell hb3).1 _ 0 z2).trans y0
  have x1 := ((bcell hb3).1 _ 1 z2).trans y1
  have z3 := Nat.lt_of_lt_of_le z2 hb3.size
  clear hb3 y0 y1 z2 B2 K KP
  go_upto_region 3 with fail
  go_cut [4, 5] from 6 to 17 (fun p q wx => p = .bool r ∧ q = .bool true ∧ Below w.heap.size w wx)
  case first =>
    go_region_with (first
      | (go_at_call 51; go_must (with_reducible refine (K2.out _ (by first | exact B3 | exact B3.drew)).mono ?_); rintro e w4 ⟨⟨v, rfl, ho⟩, hb4⟩;
         obtain ⟨g, cap, rfl, _, _, hRR⟩ := rd_own ho HPOS.out;
         have B4 : Below w.heap.size w w4 := B3.drew.trans (hb4.mono B3.size);
         have u0 : w4.cell? ⟨w.heap.size, 0, none⟩ = some (.int .i64 p1) := ((bcell hb4).1 _ 0 z3).trans x0;
         have u1 : w4.cell? ⟨w.heap.size, 1, none⟩ = some (.int .i64 p2) := ((bcell hb4).1 _ 1 z3).trans x1;
         clear ho hb4)
      | (go_at_call 60; go_must (with_reducible refine (KB.out _ _ _ hRR).mono ?_); rintro e w5 ⟨rfl, hb5⟩;
         have B5 : Below w.heap.size w w5 := B4.trans (hb5.mono B4.size);
         clear hb5))
    all_goals
      go_wp2_with fail
      go_meet
      case rel => exact ⟨rfl, rfl, B5⟩
  case rest =>
    obtain ⟨rfl, rfl, BB⟩ := hcut
    go_wp2_with fail
    go_ret2
    exact ⟨rfl, BB⟩
theorem specInBand_any (A : Option Addr) (c : Nat) (l : List (Int × Int)) (p1 p2 : Int) (w : World) (hn : l.length ≤ 1048576) (hcap : l.length ≤ c) (hc2 : c ≤ 9223372036854775807) (hR : Rd w w.heap.size A l) :
    Calls Try.prog 28 #[.slice A l.length c, .agg #[.int .i64 p1, .int .i64 p2]] w fun e w' => e = .returned (.tuple #[.bool (inbV l p1 p2), .bool (inbB l p1 p2)]) ∧ Below w.heap.size w w' := by
  have K := Lib.hid (fun W (hb : Below w.heap.size w W) => bdGood_any A c l W hn hcap hc2 (rd_more (rd_below hR hb (Nat.le_refl _)) hb.size))
  have KP := Lib.hid (fun W => pgIs_any p1 p2 W)
  unfold inbV inbB
  by_cases hg : Dif l
  · by_cases hp : isPegB p1 p2 = true
    · rw [difB_true hg, hp]
      exact specInBand_yes A c l p1 p2 w hn hcap hc2 hg hp hR
    · have hpf : isPegB p1 p2 = false := by simpa using hp
      rw [difB_true hg] at K
      rw [hpf] at KP
      rw [difB_true hg, hpf]
      show Calls _ _ _ _ (fun e w' => e = .returned (.tuple #[.bool false, .bool false]) ∧ Below w.heap.size w w')
      clear hg hp hpf hR
      go_enter Try.func28, Try.ntmps28
      go_wp2_with fail
      obtain ⟨W1, hW1⟩ : ∃ W1, W1 = (w.alloc (.cells #[.int .i64 p1, .int .i64 p2] 38)) := ⟨_, rfl⟩
      rw [← hW1]
      have yW10_0 : W1.cell? ⟨w.heap.size, 0, none⟩ = some (.int .i64 p1) := by rw [hW1]; go_simp
      have yW10_1 : W1.cell? ⟨w.heap.size, 1, none⟩ = some (.int .i64 p2) := by rw [hW1]; go_simp
      have fW10 : ∀ o, W1.frozen? ⟨w.heap.size, o, none⟩ = false := by intro o; rw [hW1]; (repeat rw [frozen?_alloc_cells]); simp [World.frozen?]
      have zW10 : w.heap.size < W1.heap.size := by rw [hW1]; simp <;> omega
      have BW1 : Below w.heap.size w W1 := by rw [hW1]; exact (Below.alloc (Below.refl _ _) (by simp <;> omega) _)
      have eW1 : Hid (W1.heap.size = w.heap.size + 1) := Lib.hid (by rw [hW1]; simp)
      clear hW1
      refine (K.out W1 BW1).mono ?_; rintro e w2 ⟨rfl, hb2⟩
      have B2 := BW1.trans (hb2.mono BW1.size)
      have y0 := ((bcell hb2).1 _ 0 zW10).trans yW10_0
      have y1 := ((bcell hb2).1 _ 1 zW10).trans yW10_1
      have z2 := Nat.lt_of_lt_of_le zW10 hb2.size
      clear hb2 yW10_0 yW10_1 fW10 eW1 zW10 BW1
      go_wp2_with fail
      refine (KP.out _).mono ?_; rintro e w3 ⟨rfl, hb3⟩
      have B3 := B2.trans (hb3.mono B2.size)
      go_wp2_with fail
      go_ret2
      exact ⟨rfl, B3⟩
  · rw [difB_false hg] at K ⊢
    show Calls _ _ _ _ (fun e w' => e = .returned (.tuple #[.bool false, .bool false]) ∧ Below w.heap.size w w')
    clear hg hR
    go_enter Try.func28, Try.ntmps28
    go_wp2_with fail
    obtain ⟨W1, hW1⟩ : ∃ W1, W1 = (w.alloc (.cells #[.int .i64 p1, .int .i64 p2] 38)) := ⟨_, rfl⟩
    rw [← hW1]
    have yW10_0 : W1.cell? ⟨w.heap.size, 0, none⟩ = some (.int .i64 p1) := by rw [hW1]; go_simp
    have yW10_1 : W1.cell? ⟨w.heap.size, 1, none⟩ = some (.int .i64 p2) := by rw [hW1]; go_simp
    have fW10 : ∀ o, W1.frozen? ⟨w.heap.size, o, none⟩ = false := by intro o; rw [hW1]; (repeat rw [frozen?_alloc_cells]); simp [World.frozen?]
    have zW10 : w.heap.size < W1.heap.size := by rw [hW1]; simp <;> omega
    have BW1 : Below w.heap.size w W1 := by rw [hW1]; exact (Below.alloc (Below.refl _ _) (by simp <;> omega) _)
    have eW1 : Hid (W1.heap.size = w.heap.size + 1) := Lib.hid (by rw [hW1]; simp)
    clear hW1
    refine (K.out W1 BW1).mono ?_; rintro e w2 ⟨rfl, hb2⟩
    have B2 := BW1.trans (hb2.mono BW1.size)
    go_wp2_with fail
    go_ret2
    exact ⟨rfl, B2⟩
theorem implInBand_yes (A : Option Addr) (c : Nat) (l : List (Int × Int)) (p1 p2 : Int) (w : World) (hn : l.length ≤ 1048576) (hcap : l.length ≤ c) (hc2 : c ≤ 9223372036854775807) (hg : Dif l) (hp : isPegB p1 p2 = true) (hR : Rd w w.heap.size A l) :
    Calls Try.prog 30 #[.slice A l.length c, .agg #[.int .i64 p1, .int .i64 p2]] w fun e w' => e = .returned (.tuple #[.bool (inHB (band l) (p1, p2)), .bool true]) ∧ Below w.heap.size w w' := by
  have K := Lib.hid (fun W (hb : Below w.heap.size w W) => implBandOf_any A c l W hn hcap hc2 (rd_more (rd_below hR hb (Nat.le_refl _)) hb.size))
  have KP := Lib.hid (fun W => implIsPeg_any p1 p2 W)
  rw [difB_true hg] at K
  rw [hp] at KP
  have hpos := band_pos hg
  have HE := Lib.hid (place_in hg (p1, p2))
  have KB := Lib.hid (fun X cap W (h : Rd W W.heap.size X (band l)) => placeIn_any X cap (band l) (p1, p2) W hpos (band_few hg) (band_pegs hg) hp h)
  have K1 : Hid (∀ W, Below w.heap.size w W → Calls Try.prog 21 #[.slice A l.length c] W (RetL W (band l) true)) := Lib.hid K.out
  clear hR hg hp hpos K
  generalize placeI (band l) (p1, p2) = s at *
  generalize inHB (band l) (p1, p2) = r at *
  generalize band l = m at *
  go_enter Try.func30, Try.ntmps30
  go_wp2_with fail
  obtain ⟨W1, hW1⟩ : ∃ W1, W1 = (w.alloc (.cells #[.int .i64 p1, .int .i64 p2] 38)) := ⟨_, rfl⟩
  rw [← hW1]
  have yW10_0 : W1.cell? ⟨w.heap.size, 0, none⟩ = some (.int .i64 p1) := by rw [hW1]; go_simp
  have yW10_1 : W1.cell? ⟨w.heap.size, 1, none⟩ = some (.int .i64 p2) := by rw [hW1]; go_simp
  have fW10 : ∀ o, W1.frozen? ⟨w.heap.size, o, none⟩ = false := by intro o; rw [hW1]; (repeat rw [frozen?_alloc_cells]); simp [World.frozen?]
  have zW10 : w.heap.size < W1.heap.size := by rw [hW1]; simp <;> omega
  have BW1 : Below w.heap.size w W1 := by rw [hW1]; exact (Below.alloc (Below.refl _ _) (by simp <;> omega) _)
  have eW1 : Hid (W1.heap.size = w.heap.size + 1) := Lib.hid (by rw [hW1]; simp)
  clear hW1
  refine (K1.out W1 BW1).mono ?_; rintro e w2 ⟨X, cX, rfl, q1, q2, hb2, q3⟩
  have hRR := rd_more (rw_rd q3) (Nat.le_refl _)
  have B2 := BW1.trans (hb2.mono BW1.size)
  have y0 := ((bcell hb2).1 _ 0 zW10).trans yW10_0
  have y1 := ((bcell hb2).1 _ 1 zW10).trans yW10_1
  have z2 := Nat.lt_of_lt_of_le zW10 hb2.size
  clear hb2 yW10_0 yW10_1 fW10 eW1 zW10 BW1 q3 K1
  have HRR := Lib.hid hRR
  clear hRR
  go_wp2_with fail
  refine (KP.out _).mono ?_; rintro e w3 ⟨rfl, hb3⟩
  have B3 := B2.trans (hb3.mono B2.size)
  have x0 := ((bcell hb3).1 _ 0 z2).trans y0
  have x1 := ((bcell hb3).1 _ 1 z2).trans y1
  have HR3 := Lib.hid (rd_more (rd_below HRR.out hb3 (Nat.le_refl _)) hb3.size)
  clear hb3 y0 y1 z2 B2 KP HRR
  go_wp2_with fail
  refine (KB.out _ _ _ HR3.out).mono ?_; rintro e w4 ⟨rfl, hb4⟩
  have B4 := B3.trans (hb4.mono B3.size)
  clear x0 x1 HR3 hb4
  by_cases hs : 0 ≤ s
  · have he : Hid (r = true) := Lib.hid (by rw [HE.out]; exact decide_eq_true hs)
    have hs2 : Hid (0 ≤ s) := Lib.hid hs
    go_wp2_with fail
    go_ret2
    exact ⟨by rw [he.out]; first | rfl | (rw [decide_eq_false (show ¬ 0 ≤ s by omega)]; rfl), B4⟩
  · have he : Hid (r = false) := Lib.hid (by rw [HE.out]; exact decide_eq_false hs)
    go_wp2_with fail
    go_ret2
    exact ⟨by rw [he.out]; first | rfl | (rw [decide_eq_false (show ¬ 0 ≤ s by omega)]; rfl), B4⟩
theorem implInBand_any (A : Option Addr) (c : Nat) (l : List (Int × Int)) (p1 p2 : Int) (w : World) (hn : l.length ≤ 1048576) (hcap : l.length ≤ c) (hc2 : c ≤ 9223372036854775807) (hR : Rd w w.heap.size A l) :
    Calls Try.prog 30 #[.slice A l.length c, .agg #[.int .i64 p1, .int .i64 p2]] w fun e w' => e = .returned (.tuple #[.bool (inbV l p1 p2), .bool (inbB l p1 p2)]) ∧ Below w.heap.size w w' := by
  have K := Lib.hid (fun W (hb : Below w.heap.size w W) => implBandOf_any A c l W hn hcap hc2 (rd_more (rd_below hR hb (Nat.le_refl _)) hb.size))
  have KP := Lib.hid (fun W => implIsPeg_any p1 p2 W)
  unfold inbV inbB
  by_cases hg : Dif l
  · by_cases hp : isPegB p1 p2 = true
    · rw [difB_true hg, hp]
      exact implInBand_yes A c l p1 p2 w hn hcap hc2 hg hp hR
    · have hpf : isPegB p1 p2 = false := by simpa using hp
      rw [difB_true hg] at K
      rw [hpf] at KP
      rw [difB_true hg, hpf]
      have K1 : Hid (∀ W, Below w.heap.size w W → Calls Try.prog 21 #[.slice A l.length c] W (RetL W (band l) true)) := Lib.hid K.out
      show Calls _ _ _ _ (fun e w' => e = .returned (.tuple #[.bool false, .bool false]) ∧ Below w.heap.size w w')
      clear hg hp hpf hR K
      generalize band l = m at *
      go_enter Try.func30, Try.ntmps30
      go_wp2_with fail
      obtain ⟨W1, hW1⟩ : ∃ W1, W1 = (w.alloc (.cells #[.int .i64 p1, .int .i64 p2] 38)) := ⟨_, rfl⟩
      rw [← hW1]
      have yW10_0 : W1.cell? ⟨w.heap.size, 0, none⟩ = some (.int .i64 p1) := by rw [hW1]; go_simp
      have yW10_1 : W1.cell? ⟨w.heap.size, 1, none⟩ = some (.int .i64 p2) := by rw [hW1]; go_simp
      have fW10 : ∀ o, W1.frozen? ⟨w.heap.size, o, none⟩ = false := by intro o; rw [hW1]; (repeat rw [frozen?_alloc_cells]); simp [World.frozen?]
      have zW10 : w.heap.size < W1.heap.size := by rw [hW1]; simp <;> omega
      have BW1 : Below w.heap.size w W1 := by rw [hW1]; exact (Below.alloc (Below.refl _ _) (by simp <;> omega) _)
      have eW1 : Hid (W1.heap.size = w.heap.size + 1) := Lib.hid (by rw [hW1]; simp)
      clear hW1
      refine (K1.out W1 BW1).mono ?_; rintro e w2 ⟨X, cX, rfl, q1, q2, hb2, q3⟩
      have B2 := BW1.trans (hb2.mono BW1.size)
      have y0 := ((bcell hb2).1 _ 0 zW10).trans yW10_0
      have y1 := ((bcell hb2).1 _ 1 zW10).trans yW10_1
      have z2 := Nat.lt_of_lt_of_le zW10 hb2.size
      clear hb2 yW10_0 yW10_1 fW10 eW1 zW10 BW1 q3
      go_wp2_with fail
      refine (KP.out _).mono ?_; rintro e w3 ⟨rfl, hb3⟩
      have B3 := B2.trans (hb3.mono B2.size)
      go_wp2_with fail
      go_ret2
      exact ⟨rfl, B3⟩
  · rw [difB_false hg] at K ⊢
    have K1 : Hid (∀ W, Below w.heap.size w W → Calls Try.prog 21 #[.slice A l.length c] W (RetL W [] false)) := Lib.hid K.out
    show Calls _ _ _ _ (fun e w' => e = .returned (.tuple #[.bool false, .bool false]) ∧ Below w.heap.size w w')
    clear hg hR K
    go_enter Try.func30, Try.ntmps30
    go_wp2_with fail
    obtain ⟨W1, hW1⟩ : ∃ W1, W1 = (w.alloc (.cells #[.int .i64 p1, .int .i64 p2] 38)) := ⟨_, rfl⟩
    rw [← hW1]
    have yW10_0 : W1.cell? ⟨w.heap.size, 0, none⟩ = some (.int .i64 p1) := by rw [hW1]; go_simp
    have yW10_1 : W1.cell? ⟨w.heap.size, 1, none⟩ = some (.int .i64 p2) := by rw [hW1]; go_simp
    have fW10 : ∀ o, W1.frozen? ⟨w.heap.size, o, none⟩ = false := by intro o; rw [hW1]; (repeat rw [frozen?_alloc_cells]); simp [World.frozen?]
    have zW10 : w.heap.size < W1.heap.size := by rw [hW1]; simp <;> omega
    have BW1 : Below w.heap.size w W1 := by rw [hW1]; exact (Below.alloc (Below.refl _ _) (by simp <;> omega) _)
    have eW1 : Hid (W1.heap.size = w.heap.size + 1) := Lib.hid (by rw [hW1]; simp)
    clear hW1
    refine (K1.out W1 BW1).mono ?_; rintro e w2 ⟨X, cX, rfl, q1, q2, hb2, q3⟩
    have B2 := BW1.trans (hb2.mono BW1.size)
    clear q3
    go_wp2_with fail
    go_ret2
    exact ⟨rfl, B2⟩
end Go.Proofs.Ythpbnfmfedggjaa
