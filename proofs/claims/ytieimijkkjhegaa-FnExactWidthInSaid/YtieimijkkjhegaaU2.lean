/- contracts: BoxOf, the program -/
import Derived.Test.YtieimijkkjhegaaTyb
import Derived.Test.YtieimijkkjhegaaX
import Derived.Test.YtieimijkkjhegaaSd
namespace Go.Proofs.Ytieimijkkjhegaa
open Go.ChangeShapes Go.WideShapes Go.ChangeAt Go.RowKit Go.Joins
set_option linter.unusedVariables false
set_option linter.unusedSimpArgs false
set_option maxRecDepth 4000
/-- what BoxOf returns -/
noncomputable def boS (l : List (Int × Int)) (i : Nat) : Int := if goodB l = true then (if i = 0 then (loN l l.length).1 else if i = 1 then (loN l l.length).2 else if i = 2 then (hiN l l.length).1 else (hiN l l.length).2) else 0
theorem boS_f {l : List (Int × Int)} (h : goodB l = false) (i : Nat) : boS l i = 0 := by unfold boS; rw [h]; rfl
theorem boS_0 {l : List (Int × Int)} (h : goodB l = true) : boS l 0 = (loN l l.length).1 := by unfold boS; rw [if_pos h]; rfl
theorem boS_1 {l : List (Int × Int)} (h : goodB l = true) : boS l 1 = (loN l l.length).2 := by unfold boS; rw [if_pos h]; rfl
theorem boS_2 {l : List (Int × Int)} (h : goodB l = true) : boS l 2 = (hiN l l.length).1 := by unfold boS; rw [if_pos h]; rfl
theorem boS_3 {l : List (Int × Int)} (h : goodB l = true) : boS l 3 = (hiN l l.length).2 := by unfold boS; rw [if_pos h]; rfl
set_option maxHeartbeats 2000000 in
theorem implBoxOf_any (A : Option Addr) (c : Nat) (l : List (Int × Int)) (w : World) (hn : l.length ≤ 1048576) (hR : Rd w w.heap.size A l) :
    Calls Try.prog 32 #[.slice A l.length c] w fun e w' => e = .returned (.tuple #[.agg #[.int .i64 (boS l 0), .int .i64 (boS l 1)], .agg #[.int .i64 (boS l 2), .int .i64 (boS l 3)], .bool (goodB l)]) ∧ Below w.heap.size w w' := by
  have K := Lib.hid (fun (W : World) (hb : Below w.heap.size w W) => implIsPolygon_any A c l W hn (rd_more (rd_below hR hb (Nat.le_refl _)) hb.size))
  by_cases hg : Good l
  · have hgt := goodB_true hg
    have h3 := hg.few.1
    have h10 := hg.few.2
    have KB := Lib.hid (fun W (hb : Below w.heap.size w W) => boxAround_any A c l W (by omega) (by omega) (rd_more (rd_below hR hb (Nat.le_refl _)) hb.size))
    rw [boS_0 hgt, boS_1 hgt, boS_2 hgt, boS_3 hgt, hgt]
    rw [hgt] at K
    clear hgt hg hR
    generalize loN l l.length = lo at *
    generalize hiN l l.length = hi at *
    go_enter Try.func32, Try.ntmps32
    go_wp2_with fail
    obtain ⟨W0, hW0⟩ : ∃ W0, W0 = ((w.alloc (.cells #[.int .i64 0, .int .i64 0] 42)).alloc (.cells #[.int .i64 0, .int .i64 0] 42)) := ⟨_, rfl⟩
    rw [← hW0]
    have yW00_0 : W0.cell? ⟨w.heap.size, 0, none⟩ = some (.int .i64 0) := by rw [hW0]; go_simp
    have yW00_1 : W0.cell? ⟨w.heap.size, 1, none⟩ = some (.int .i64 0) := by rw [hW0]; go_simp
    have fW00 : ∀ o, W0.frozen? ⟨w.heap.size, o, none⟩ = false := by intro o; rw [hW0]; (repeat rw [frozen?_alloc_cells]); simp [World.frozen?]
    have zW00 : w.heap.size < W0.heap.size := by rw [hW0]; simp <;> omega
    have yW01_0 : W0.cell? ⟨w.heap.size + 1, 0, none⟩ = some (.int .i64 0) := by rw [hW0]; go_simp
    have yW01_1 : W0.cell? ⟨w.heap.size + 1, 1, none⟩ = some (.int .i64 0) := by rw [hW0]; go_simp
    have fW01 : ∀ o, W0.frozen? ⟨w.heap.size + 1, o, none⟩ = false := by intro o; rw [hW0]; (repeat rw [frozen?_alloc_cells]); simp [World.frozen?]
    have zW01 : w.heap.size + 1 < W0.heap.size := by rw [hW0]; simp <;> omega
    have BW0 : Below w.heap.size w W0 := by rw [hW0]; exact (Below.alloc (Below.alloc (Below.refl _ _) (by simp <;> omega) _) (by simp <;> omega) _)
    have eW0 : Hid (W0.heap.size = w.heap.size + 2) := Lib.hid (by rw [hW0]; simp)
    clear hW0
    refine (K.out _ BW0).mono ?_; rintro e w1 ⟨rfl, hb1⟩
    have B1 := BW0.trans (hb1.mono BW0.size)
    go_wp2_with fail
    refine (KB.out _ B1).mono ?_; rintro e w2 ⟨rfl, hb2⟩
    have B2 := B1.trans (hb2.mono B1.size)
    have k3 := hb1.trans (hb2.mono hb1.size)
    have u0 := (k3.cell (p := ⟨w.heap.size, 0, none⟩) zW00).trans yW00_0
    have u1 := (k3.cell (p := ⟨w.heap.size, 1, none⟩) zW00).trans yW00_1
    have u2 := (k3.cell (p := ⟨w.heap.size + 1, 0, none⟩) zW01).trans yW01_0
    have u3 := (k3.cell (p := ⟨w.heap.size + 1, 1, none⟩) zW01).trans yW01_1
    have g0 := (k3.frozen (p := ⟨w.heap.size, 0, none⟩) zW00).trans (fW00 0)
    have g1 := (k3.frozen (p := ⟨w.heap.size, 1, none⟩) zW00).trans (fW00 1)
    have g2 := (k3.frozen (p := ⟨w.heap.size + 1, 0, none⟩) zW01).trans (fW01 0)
    have g3 := (k3.frozen (p := ⟨w.heap.size + 1, 1, none⟩) zW01).trans (fW01 1)
    have v0 : w.heap.size < w2.heap.size := by have := k3.size; omega
    have v1 : w.heap.size + 1 < w2.heap.size := by have := k3.size; omega
    have zz := B2.size
    clear yW00_0 yW00_1 yW01_0 yW01_1 fW00 fW01 zW00 zW01 BW0 hb1 hb2 k3 K KB B1
    go_wp2_with fail
    go_region
    go_wp2_with fail
    refine bodyPost_ret (v := .tuple #[.agg #[.int .i64 lo.1, .int .i64 lo.2], .agg #[.int .i64 hi.1, .int .i64 hi.2], .bool true]) (by simp [results, Try.results32, go_sem, v0, v1, u0, u1, u2, u3]) rfl ⟨rfl, ?_⟩
    repeat (first | with_reducible assumption | with_reducible exact Below.refl _ _ | with_reducible apply Below.drew | ((with_reducible refine Below.setCell ?_ ?_ _); rotate_left; (first | exact Nat.le_refl _ | omega | (simp <;> omega))) | ((with_reducible refine Below.alloc ?_ ?_ _); rotate_left; (first | omega | (simp <;> omega))))
  · have hgf := goodB_false hg
    rw [boS_f hgf, boS_f hgf, boS_f hgf, boS_f hgf, hgf]
    rw [hgf] at K
    clear hgf hg hR
    go_enter Try.func32, Try.ntmps32
    go_wp2_with fail
    obtain ⟨W0, hW0⟩ : ∃ W0, W0 = ((w.alloc (.cells #[.int .i64 0, .int .i64 0] 42)).alloc (.cells #[.int .i64 0, .int .i64 0] 42)) := ⟨_, rfl⟩
    rw [← hW0]
    have yW00_0 : W0.cell? ⟨w.heap.size, 0, none⟩ = some (.int .i64 0) := by rw [hW0]; go_simp
    have yW00_1 : W0.cell? ⟨w.heap.size, 1, none⟩ = some (.int .i64 0) := by rw [hW0]; go_simp
    have fW00 : ∀ o, W0.frozen? ⟨w.heap.size, o, none⟩ = false := by intro o; rw [hW0]; (repeat rw [frozen?_alloc_cells]); simp [World.frozen?]
    have zW00 : w.heap.size < W0.heap.size := by rw [hW0]; simp <;> omega
    have yW01_0 : W0.cell? ⟨w.heap.size + 1, 0, none⟩ = some (.int .i64 0) := by rw [hW0]; go_simp
    have yW01_1 : W0.cell? ⟨w.heap.size + 1, 1, none⟩ = some (.int .i64 0) := by rw [hW0]; go_simp
    have fW01 : ∀ o, W0.frozen? ⟨w.heap.size + 1, o, none⟩ = false := by intro o; rw [hW0]; (repeat rw [frozen?_alloc_cells]); simp [World.frozen?]
    have zW01 : w.heap.size + 1 < W0.heap.size := by rw [hW0]; simp <;> omega
    have BW0 : Below w.heap.size w W0 := by rw [hW0]; exact (Below.alloc (Below.alloc (Below.refl _ _) (by simp <;> omega) _) (by simp <;> omega) _)
    have eW0 : Hid (W0.heap.size = w.heap.size + 2) := Lib.hid (by rw [hW0]; simp)
    clear hW0
    refine (K.out _ BW0).mono ?_; rintro e w1 ⟨rfl, hb1⟩
    have B1 := BW0.trans (hb1.mono BW0.size)
    have u0 := (hb1.cell (p := ⟨w.heap.size, 0, none⟩) zW00).trans yW00_0
    have u1 := (hb1.cell (p := ⟨w.heap.size, 1, none⟩) zW00).trans yW00_1
    have u2 := (hb1.cell (p := ⟨w.heap.size + 1, 0, none⟩) zW01).trans yW01_0
    have u3 := (hb1.cell (p := ⟨w.heap.size + 1, 1, none⟩) zW01).trans yW01_1
    have g0 := (hb1.frozen (p := ⟨w.heap.size, 0, none⟩) zW00).trans (fW00 0)
    have g1 := (hb1.frozen (p := ⟨w.heap.size, 1, none⟩) zW00).trans (fW00 1)
    have g2 := (hb1.frozen (p := ⟨w.heap.size + 1, 0, none⟩) zW01).trans (fW01 0)
    have g3 := (hb1.frozen (p := ⟨w.heap.size + 1, 1, none⟩) zW01).trans (fW01 1)
    have v0 : w.heap.size < w1.heap.size := by have := hb1.size; omega
    have v1 : w.heap.size + 1 < w1.heap.size := by have := hb1.size; omega
    have zz := B1.size
    clear yW00_0 yW00_1 yW01_0 yW01_1 fW00 fW01 zW00 zW01 BW0 hb1 K
    go_wp2_with fail
    refine bodyPost_ret (v := .tuple #[.agg #[.int .i64 0, .int .i64 0], .agg #[.int .i64 0, .int .i64 0], .bool false]) (by simp [results, Try.results32, go_sem, u0, u1, u2, u3, v0, v1]) rfl ⟨rfl, ?_⟩
    repeat (first | with_reducible assumption | with_reducible exact Below.refl _ _ | with_reducible apply Below.drew | ((with_reducible refine Below.setCell ?_ ?_ _); rotate_left; (first | exact Nat.le_refl _ | omega | (simp <;> omega))) | ((with_reducible refine Below.alloc ?_ ?_ _); rotate_left; (first | omega | (simp <;> omega))))
end Go.Proofs.Ytieimijkkjhegaa
