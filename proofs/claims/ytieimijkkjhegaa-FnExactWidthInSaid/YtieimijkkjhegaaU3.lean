/- contracts: the least and the greatest value, the model; BoxOf, the model -/
import Derived.Test.YtieimijkkjhegaaU0
import Derived.Test.YtieimijkkjhegaaU2
import Derived.Test.YtieimijkkjhegaaTw0
import Derived.Test.YtieimijkkjhegaaMl
import Derived.Test.YtieimijkkjhegaaQg
import Derived.Test.YtieimijkkjhegaaSax
namespace Go.Proofs.Ytieimijkkjhegaa
open Go.ChangeShapes Go.WideShapes Go.ChangeAt Go.RowKit Go.Joins
set_option linter.unusedVariables false
set_option linter.unusedSimpArgs false
set_option maxRecDepth 4000
set_option maxHeartbeats 2000000 in
theorem wiRange_any (A : Option Addr) (c : Nat) (l : List (Int × Int)) (u v : Int) (w : World) (h1 : -200 ≤ u) (h2 : u ≤ 200) (h3 : -200 ≤ v) (h4 : v ≤ 200) (hg : Good l) (hR : Rd w w.heap.size A l) :
    Calls Try.prog 79 #[.slice A l.length c, .int .i64 u, .int .i64 v] w fun e w' => e = .returned (.tuple #[.int .i64 (loW l u v l.length), .int .i64 (hiW l u v l.length)]) ∧ Below w.heap.size w w' := by
  have hf := hg.few
  obtain ⟨b, off, rfl, hb, HC⟩ := pts_of (by omega) hR
  have HV := Lib.hid (fun i (hi : i < l.length) => vlu_parts h1 h2 h3 h4 (hg.pegs i hi))
  have HBD := Lib.hid (lohi_bd h1 h2 h3 h4 hg.pegs (by omega))
  have HS : Hid (∀ k, loW l u v (k + 1) = min (loW l u v k) (u * (vx l k).1 + v * (vx l k).2) ∧ hiW l u v (k + 1) = max (hiW l u v k) (u * (vx l k).1 + v * (vx l k).2)) := Lib.hid (fun k => ⟨rfl, rfl⟩)
  have H0 : Hid (loW l u v 0 = u * (vx l 0).1 + v * (vx l 0).2 ∧ hiW l u v 0 = u * (vx l 0).1 + v * (vx l 0).2) := Lib.hid ⟨rfl, rfl⟩
  have KL := Lib.hid (fun a b W => l1Least_any a b W)
  have KM := Lib.hid (fun a b W => l1Most_any a b W)
  have h3l := hf.1
  have h10 := hf.2
  clear hR hf hg h1 h2 h3 h4
  generalize hN : l.length = n at *
  clear hN
  obtain ⟨x0, x1⟩ := HC.out w (Below.refl _ _) 0 (by omega)
  simp only [Nat.zero_mul, Nat.add_zero] at x0 x1
  obtain ⟨⟨p1, p2⟩, p3, p4⟩ := HV.out 0 (by omega)
  have i0 : IntKind.i64.wrap (u * (vx l 0).1) = u * (vx l 0).1 := IntWalk.i64_in _ (by omega)
  have i1 : IntKind.i64.wrap (v * (vx l 0).2) = v * (vx l 0).2 := IntWalk.i64_in _ (by omega)
  have i2 : IntKind.i64.wrap (u * (vx l 0).1 + v * (vx l 0).2) = u * (vx l 0).1 + v * (vx l 0).2 := IntWalk.i64_in _ (by omega)
  have hn0 : 0 < n := by omega
  go_enter Try.func79, Try.ntmps79
  go_wp2_with fail
  go_region
  · skip
    go_wp2_with fail
    clear x0 x1 p1 p2 p3 p4 i0 i1 i2
    go_loopg [8, 9, 29] n (fun gg a b i wr => ∃ k : Nat, k ≤ n ∧ gg = n - k ∧ i = .int .i64 k ∧ a = .int .i64 (loW l u v k) ∧ b = .int .i64 (hiW l u v k) ∧ Below w.heap.size w wr)
    case atStart => exact ⟨0, Nat.zero_le _, rfl, rfl, by rw [H0.out.1], by rw [H0.out.2], by repeat (first | exact Below.refl _ _ | apply Below.drew)⟩
    case round =>
      obtain ⟨k, hk, hgg, rfl, rfl, rfl, hB⟩ := hrel
      rename World => wo
      have HGK := Lib.hid hgg
      clear hgg
      by_cases hlt : k < n
      · obtain ⟨x0, x1⟩ := HC.out wo hB k hlt
        obtain ⟨⟨p1, p2⟩, p3, p4⟩ := HV.out k hlt
        obtain ⟨s1, s2⟩ := HS.out k
        have i0 : IntKind.i64.wrap (u * (vx l k).1) = u * (vx l k).1 := IntWalk.i64_in _ (by omega)
        have i1 : IntKind.i64.wrap (v * (vx l k).2) = v * (vx l k).2 := IntWalk.i64_in _ (by omega)
        have i2 : IntKind.i64.wrap (u * (vx l k).1 + v * (vx l k).2) = u * (vx l k).1 + v * (vx l k).2 := IntWalk.i64_in _ (by omega)
        have hbo : b < wo.heap.size := by have := hB.size; omega
        have hz := hB.size
        clear p1 p2 p3 p4
        go_wp2_with fail
        refine (KL.out _ _ _).mono ?_; rintro e _ ⟨rfl, rfl⟩
        go_wp2_with fail
        refine (KM.out _ _ _).mono ?_; rintro e _ ⟨rfl, rfl⟩
        go_wp2_with fail
        go_roundg (n - (k + 1))
        case measure => have := HGK.out; omega
        case rel => exact ⟨k + 1, by omega, rfl, by go_num, by rw [s1], by rw [s2], by repeat (first | with_reducible assumption | with_reducible exact Below.refl _ _ | with_reducible apply Below.drew | ((with_reducible refine Below.setCell ?_ ?_ _); rotate_left; (first | exact Nat.le_refl _ | omega | (simp <;> omega))) | ((with_reducible refine Below.alloc ?_ ?_ _); rotate_left; (first | omega | (simp <;> omega))))⟩
      · obtain rfl : k = n := by omega
        go_wp2_with fail
        go_ret2
        exact ⟨rfl, hB⟩
set_option maxHeartbeats 2000000 in
theorem specBoxOf_any (A : Option Addr) (c : Nat) (l : List (Int × Int)) (w : World) (hn : l.length ≤ 1048576) (hcap : l.length ≤ c) (hc2 : c ≤ 9223372036854775807) (hR : Rd w w.heap.size A l) :
    Calls Try.prog 31 #[.slice A l.length c] w fun e w' => e = .returned (.tuple #[.agg #[.int .i64 (boS l 0), .int .i64 (boS l 1)], .agg #[.int .i64 (boS l 2), .int .i64 (boS l 3)], .bool (goodB l)]) ∧ Below w.heap.size w w' := by
  have K := Lib.hid (fun (W : World) (hb : Below w.heap.size w W) => pgGood_any A c l W hn hcap hc2 (rd_more (rd_below hR hb (Nat.le_refl _)) hb.size))
  by_cases hg : Good l
  · have hgt := goodB_true hg
    have KX := Lib.hid (fun W (hb : Below w.heap.size w W) => wiRange_any A c l 1 0 W (by omega) (by omega) (by omega) (by omega) hg (rd_more (rd_below hR hb (Nat.le_refl _)) hb.size))
    have KY := Lib.hid (fun W (hb : Below w.heap.size w W) => wiRange_any A c l 0 1 W (by omega) (by omega) (by omega) (by omega) hg (rd_more (rd_below hR hb (Nat.le_refl _)) hb.size))
    rw [(lohi_x l l.length).1, (lohi_x l l.length).2] at KX
    rw [(lohi_y l l.length).1, (lohi_y l l.length).2] at KY
    rw [boS_0 hgt, boS_1 hgt, boS_2 hgt, boS_3 hgt, hgt]
    rw [hgt] at K
    clear hgt hg hR
    generalize loN l l.length = lo at *
    generalize hiN l l.length = hi at *
    go_enter Try.func31, Try.ntmps31
    go_wp2_with fail
    obtain ⟨W0, hW0⟩ : ∃ W0, W0 = ((w.alloc (.cells #[.int .i64 0, .int .i64 0] 42)).alloc (.cells #[.int .i64 0, .int .i64 0] 42)) := ⟨_, rfl⟩
    rw [← hW0]
    have yW00_0 : W0.cell? ⟨w.heap.size, 0, none⟩ = some (.int .i64 0) := by rw [hW0]; go_simp
    have yW00_1 : W0.cell? ⟨w.heap.size, 1, none⟩ = some (.int .i64 0) := by rw [hW0]; go_simp
    have fW00 : ∀ o, W0.frozen? ⟨w.heap.size, o, none⟩ = false := by intro o; rw [hW0]; (repeat rw [frozen?_alloc_cells]); simp [World.frozen?]
    have zW00 : w.heap.size < W0.heap.size := by rw [hW0]; simp <;> omega
    have yW01_0 : W0.cell? ⟨w.heap.size + 1, 0, none⟩ = some (.int .i64 0) := by rw [hW0]; go_simp
    have yW01_1 : W0.cell? ⟨w.heap.size + 1, 1, none⟩ = some (.int .i64 0) := by rw [hW0]; go_simp
    have fW01 : ∀ o, W0.frozen? ⟨w.heap.size + 1, o, none⟩ = false := by intro o; rw [hW0]; (repeat rw [frozen?_alloc_cells]); simp [World.frozen?]
    have zW01 : w.heap.size + 1 < W0.heap.size := by rw [hW0]; simp <;> omega
    have BW0 : Below w.heap.size w W0 := by rw [hW0]; exact (Below.alloc (Below.alloc (Below.refl _ _) (by simp <;> omega) _) (by simp <;> omega) _)
    have eW0 : Hid (W0.heap.size = w.heap.size + 2) := Lib.hid (by rw [hW0]; simp)
    clear hW0
    refine (K.out _ BW0).mono ?_; rintro e w1 ⟨rfl, hb1⟩
    have B1 := BW0.trans (hb1.mono BW0.size)
    go_wp2_with fail
    refine (KX.out _ B1).mono ?_; rintro e w2 ⟨rfl, hb2⟩
    have B2 := B1.trans (hb2.mono B1.size)
    go_wp2_with fail
    refine (KY.out _ B2).mono ?_; rintro e w3 ⟨rfl, hb3⟩
    have B3 := B2.trans (hb3.mono B2.size)
    have k3 := (hb1.trans (hb2.mono hb1.size)).trans (hb3.mono (hb1.trans (hb2.mono hb1.size)).size)
    have u0 := (k3.cell (p := ⟨w.heap.size, 0, none⟩) zW00).trans yW00_0
    have u1 := (k3.cell (p := ⟨w.heap.size, 1, none⟩) zW00).trans yW00_1
    have u2 := (k3.cell (p := ⟨w.heap.size + 1, 0, none⟩) zW01).trans yW01_0
    have u3 := (k3.cell (p := ⟨w.heap.size + 1, 1, none⟩) zW01).trans yW01_1
    have g0 := (k3.frozen (p := ⟨w.heap.size, 0, none⟩) zW00).trans (fW00 0)
    have g1 := (k3.frozen (p := ⟨w.heap.size, 1, none⟩) zW00).trans (fW00 1)
    have g2 := (k3.frozen (p := ⟨w.heap.size + 1, 0, none⟩) zW01).trans (fW01 0)
    have g3 := (k3.frozen (p := ⟨w.heap.size + 1, 1, none⟩) zW01).trans (fW01 1)
    have v0 : w.heap.size < w3.heap.size := by have := k3.size; omega
    have v1 : w.heap.size + 1 < w3.heap.size := by have := k3.size; omega
    have zz := B3.size
    clear yW00_0 yW00_1 yW01_0 yW01_1 fW00 fW01 zW00 zW01 BW0 hb1 hb2 hb3 k3 K KX KY B1 B2
    go_wp2_with fail
    refine bodyPost_ret (v := .tuple #[.agg #[.int .i64 lo.1, .int .i64 lo.2], .agg #[.int .i64 hi.1, .int .i64 hi.2], .bool true]) (by simp [results, Try.results31, go_sem, v0, v1, u0, u1, u2, u3]) rfl ⟨rfl, ?_⟩
    repeat (first | with_reducible assumption | with_reducible exact Below.refl _ _ | with_reducible apply Below.drew | ((with_reducible refine Below.setCell ?_ ?_ _); rotate_left; (first | exact Nat.le_refl _ | omega | (simp <;> omega))) | ((with_reducible refine Below.alloc ?_ ?_ _); rotate_left; (first | omega | (simp <;> omega))))
  · have hgf := goodB_false hg
    rw [boS_f hgf, boS_f hgf, boS_f hgf, boS_f hgf, hgf]
    rw [hgf] at K
    clear hgf hg hR
    go_enter Try.func31, Try.ntmps31
    go_wp2_with fail
    obtain ⟨W0, hW0⟩ : ∃ W0, W0 = ((w.alloc (.cells #[.int .i64 0, .int .i64 0] 42)).alloc (.cells #[.int .i64 0, .int .i64 0] 42)) := ⟨_, rfl⟩
    rw [← hW0]
    have yW00_0 : W0.cell? ⟨w.heap.size, 0, none⟩ = some (.int .i64 0) := by rw [hW0]; go_simp
    have yW00_1 : W0.cell? ⟨w.heap.size, 1, none⟩ = some (.int .i64 0) := by rw [hW0]; go_simp
    have fW00 : ∀ o, W0.frozen? ⟨w.heap.size, o, none⟩ = false := by intro o; rw [hW0]; (repeat rw [frozen?_alloc_cells]); simp [World.frozen?]
    have zW00 : w.heap.size < W0.heap.size := by rw [hW0]; simp <;> omega
    have yW01_0 : W0.cell? ⟨w.heap.size + 1, 0, none⟩ = some (.int .i64 0) := by rw [hW0]; go_simp
    have yW01_1 : W0.cell? ⟨w.heap.size + 1, 1, none⟩ = some (.int .i64 0) := by rw [hW0]; go_simp
    have fW01 : ∀ o, W0.frozen? ⟨w.heap.size + 1, o, none⟩ = false := by intro o; rw [hW0]; (repeat rw [frozen?_alloc_cells]); simp [World.frozen?]
    have zW01 : w.heap.size + 1 < W0.heap.size := by rw [hW0]; simp <;> omega
    have BW0 : Below w.heap.size w W0 := by rw [hW0]; exact (Below.alloc (Below.alloc (Below.refl _ _) (by simp <;> omega) _) (by simp <;> omega) _)
    have eW0 : Hid (W0.heap.size = w.heap.size + 2) := Lib.hid (by rw [hW0]; simp)
    clear hW0
    refine (K.out _ BW0).mono ?_; rintro e w1 ⟨rfl, hb1⟩
    have B1 := BW0.trans (hb1.mono BW0.size)
    have u0 := (hb1.cell (p := ⟨w.heap.size, 0, none⟩) zW00).trans yW00_0
    have u1 := (hb1.cell (p := ⟨w.heap.size, 1, none⟩) zW00).trans yW00_1
    have u2 := (hb1.cell (p := ⟨w.heap.size + 1, 0, none⟩) zW01).trans yW01_0
    have u3 := (hb1.cell (p := ⟨w.heap.size + 1, 1, none⟩) zW01).trans yW01_1
    have g0 := (hb1.frozen (p := ⟨w.heap.size, 0, none⟩) zW00).trans (fW00 0)
    have g1 := (hb1.frozen (p := ⟨w.heap.size, 1, none⟩) zW00).trans (fW00 1)
    have g2 := (hb1.frozen (p := ⟨w.heap.size + 1, 0, none⟩) zW01).trans (fW01 0)
    have g3 := (hb1.frozen (p := ⟨w.heap.size + 1, 1, none⟩) zW01).trans (fW01 1)
    have v0 : w.heap.size < w1.heap.size := by have := hb1.size; omega
    have v1 : w.heap.size + 1 < w1.heap.size := by have := hb1.size; omega
    have zz := B1.size
    clear yW00_0 yW00_1 yW01_0 yW01_1 fW00 fW01 zW00 zW01 BW0 hb1 K
    go_wp2_with fail
    refine bodyPost_ret (v := .tuple #[.agg #[.int .i64 0, .int .i64 0], .agg #[.int .i64 0, .int .i64 0], .bool false]) (by simp [results, Try.results31, go_sem, u0, u1, u2, u3, v0, v1]) rfl ⟨rfl, ?_⟩
    repeat (first | with_reducible assumption | with_reducible exact Below.refl _ _ | with_reducible apply Below.drew | ((with_reducible refine Below.setCell ?_ ?_ _); rotate_left; (first | exact Nat.le_refl _ | omega | (simp <;> omega))) | ((with_reducible refine Below.alloc ?_ ?_ _); rotate_left; (first | omega | (simp <;> omega))))
end Go.Proofs.Ytieimijkkjhegaa
