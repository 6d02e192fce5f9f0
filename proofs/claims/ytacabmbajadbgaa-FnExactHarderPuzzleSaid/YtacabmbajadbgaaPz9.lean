/- contracts: which pegs fit a clue, the program; DoesFit on both sides -/
import Derived.Test.YtacabmbajadbgaaPz8
namespace Go.Proofs.Ytacabmbajadbgaa
open Go.ChangeShapes Go.WideShapes Go.ChangeAt Go.RowKit Go.Joins
set_option linter.unusedVariables false
set_option linter.unusedSimpArgs false
set_option maxRecDepth 4000
/-- the clue that a peg fits -/
def asE (k a b c p1 p2 : Int) : Value := .agg #[.int .i64 k, .int .i64 (if k < 3 then vaN k a b p1 p2 else a), .int .i64 b, .int .i64 (if k < 3 then c else vaN k a b p1 p2)]
set_option maxHeartbeats 4000000 in
theorem asOf_any (k a b c p1 p2 : Int) (w : World) (hk : kindB k = true) (h : Fit a b p1 p2) :
    Calls Try.prog 82 #[.agg #[.int .i64 k, .int .i64 a, .int .i64 b, .int .i64 c], .agg #[.int .i64 p1, .int .i64 p2]] w fun e w' => e = .returned (asE k a b c p1 p2) ∧ Below w.heap.size w w' := by
  have hz := fit_sz h
  have ht := tw_small h
  have h1 := h.a
  have h2 := h.b
  have h3 := h.p
  have h4 := h.q
  have KT := Lib.hid (fun W => tws_any 0 0 a b p1 p2 W sz00 hz.1 hz.2 (by omega) (by omega))
  have KM := Lib.hid (fun W => minus_any p1 p2 a b W (by unfold Mid; omega) (by unfold Mid; omega) (by unfold Mid; omega) (by unfold Mid; omega))
  have KQ := Lib.hid (fun W => square_any (p1 - a) (p2 - b) W (by omega) (by omega))
  have KG := Lib.hid (fun W => stepsTo_any a b p1 p2 W hz.1 hz.2)
  have i1 : IntKind.i64.wrap (p1 + p2) = p1 + p2 := IntWalk.i64_in _ (by omega)
  rcases kinds k with rfl | rfl | rfl | rfl | rfl | rfl | hn
  case inr.inr.inr.inr.inr.inr => rw [kindB_f hn] at hk; exact absurd hk (by simp)
  · have hv : Hid (asE 0 a b c p1 p2 = .agg #[.int .i64 0, .int .i64 p1, .int .i64 b, .int .i64 c]) := Lib.hid rfl
    rw [hv.out]
    clear hz ht h h1 h2 h3 h4 hk
    go_enter Try.func82, Try.ntmps82
    go_wp2_with fail
    refine bodyPost_ret (v := .agg #[.int .i64 0, .int .i64 p1, .int .i64 b, .int .i64 c]) (by simp [results, Try.results82, go_sem]) rfl ⟨rfl, ?_⟩
    repeat (first | with_reducible assumption | with_reducible exact Below.refl _ _ | with_reducible apply Below.drew | ((with_reducible refine Below.setCell ?_ ?_ _); rotate_left; (first | exact Nat.le_refl _ | omega | (simp <;> omega))) | ((with_reducible refine Below.alloc ?_ ?_ _); rotate_left; (first | omega | (simp <;> omega))))
  · have hv : Hid (asE 1 a b c p1 p2 = .agg #[.int .i64 1, .int .i64 p2, .int .i64 b, .int .i64 c]) := Lib.hid rfl
    rw [hv.out]
    clear hz ht h h1 h2 h3 h4 hk
    go_enter Try.func82, Try.ntmps82
    go_wp2_with fail
    refine bodyPost_ret (v := .agg #[.int .i64 1, .int .i64 p2, .int .i64 b, .int .i64 c]) (by simp [results, Try.results82, go_sem]) rfl ⟨rfl, ?_⟩
    repeat (first | with_reducible assumption | with_reducible exact Below.refl _ _ | with_reducible apply Below.drew | ((with_reducible refine Below.setCell ?_ ?_ _); rotate_left; (first | exact Nat.le_refl _ | omega | (simp <;> omega))) | ((with_reducible refine Below.alloc ?_ ?_ _); rotate_left; (first | omega | (simp <;> omega))))
  · have hv : Hid (asE 2 a b c p1 p2 = .agg #[.int .i64 2, .int .i64 (p1 + p2), .int .i64 b, .int .i64 c]) := Lib.hid rfl
    rw [hv.out]
    clear hz ht h h1 h2 h3 h4 hk
    go_enter Try.func82, Try.ntmps82
    go_wp2_with fail
    refine bodyPost_ret (v := .agg #[.int .i64 2, .int .i64 (p1 + p2), .int .i64 b, .int .i64 c]) (by simp [results, Try.results82, go_sem]) rfl ⟨rfl, ?_⟩
    repeat (first | with_reducible assumption | with_reducible exact Below.refl _ _ | with_reducible apply Below.drew | ((with_reducible refine Below.setCell ?_ ?_ _); rotate_left; (first | exact Nat.le_refl _ | omega | (simp <;> omega))) | ((with_reducible refine Below.alloc ?_ ?_ _); rotate_left; (first | omega | (simp <;> omega))))
  · have hv : Hid (asE 3 a b c p1 p2 = .agg #[.int .i64 3, .int .i64 a, .int .i64 b, .int .i64 ((twI 0 0 a b p1 p2).natAbs : Int)]) := Lib.hid rfl
    rw [hv.out]
    clear hz ht h h1 h2 h3 h4 hk hv
    generalize ((twI 0 0 a b p1 p2).natAbs : Int) = t at *
    go_enter Try.func82, Try.ntmps82
    go_wp2_with fail
    obtain ⟨W0, hW0⟩ : ∃ W0, W0 = ((((w.alloc (.cells #[.int .i64 3, .int .i64 a, .int .i64 b, .int .i64 c] 38)).alloc (.cells #[.int .i64 p1, .int .i64 p2] 53)).alloc (.cells #[.int .i64 0, .int .i64 0, .int .i64 0, .int .i64 0] 38)).alloc (.cells #[.int .i64 a, .int .i64 b] 53)) := ⟨_, rfl⟩
    rw [← hW0]
    have yW00_0 : W0.cell? ⟨w.heap.size, 0, none⟩ = some (.int .i64 3) := by rw [hW0]; go_simp
    have yW00_1 : W0.cell? ⟨w.heap.size, 1, none⟩ = some (.int .i64 a) := by rw [hW0]; go_simp
    have yW00_2 : W0.cell? ⟨w.heap.size, 2, none⟩ = some (.int .i64 b) := by rw [hW0]; go_simp
    have yW00_3 : W0.cell? ⟨w.heap.size, 3, none⟩ = some (.int .i64 c) := by rw [hW0]; go_simp
    have fW00 : ∀ o, W0.frozen? ⟨w.heap.size, o, none⟩ = false := by intro o; rw [hW0]; (repeat rw [frozen?_alloc_cells]); simp [World.frozen?]
    have zW00 : w.heap.size < W0.heap.size := by rw [hW0]; simp <;> omega
    have yW01_0 : W0.cell? ⟨w.heap.size + 1, 0, none⟩ = some (.int .i64 p1) := by rw [hW0]; go_simp
    have yW01_1 : W0.cell? ⟨w.heap.size + 1, 1, none⟩ = some (.int .i64 p2) := by rw [hW0]; go_simp
    have fW01 : ∀ o, W0.frozen? ⟨w.heap.size + 1, o, none⟩ = false := by intro o; rw [hW0]; (repeat rw [frozen?_alloc_cells]); simp [World.frozen?]
    have zW01 : w.heap.size + 1 < W0.heap.size := by rw [hW0]; simp <;> omega
    have yW02_0 : W0.cell? ⟨w.heap.size + 2, 0, none⟩ = some (.int .i64 0) := by rw [hW0]; go_simp
    have yW02_1 : W0.cell? ⟨w.heap.size + 2, 1, none⟩ = some (.int .i64 0) := by rw [hW0]; go_simp
    have yW02_2 : W0.cell? ⟨w.heap.size + 2, 2, none⟩ = some (.int .i64 0) := by rw [hW0]; go_simp
    have yW02_3 : W0.cell? ⟨w.heap.size + 2, 3, none⟩ = some (.int .i64 0) := by rw [hW0]; go_simp
    have fW02 : ∀ o, W0.frozen? ⟨w.heap.size + 2, o, none⟩ = false := by intro o; rw [hW0]; (repeat rw [frozen?_alloc_cells]); simp [World.frozen?]
    have zW02 : w.heap.size + 2 < W0.heap.size := by rw [hW0]; simp <;> omega
    have yW03_0 : W0.cell? ⟨w.heap.size + 3, 0, none⟩ = some (.int .i64 a) := by rw [hW0]; go_simp
    have yW03_1 : W0.cell? ⟨w.heap.size + 3, 1, none⟩ = some (.int .i64 b) := by rw [hW0]; go_simp
    have fW03 : ∀ o, W0.frozen? ⟨w.heap.size + 3, o, none⟩ = false := by intro o; rw [hW0]; (repeat rw [frozen?_alloc_cells]); simp [World.frozen?]
    have zW03 : w.heap.size + 3 < W0.heap.size := by rw [hW0]; simp <;> omega
    have BW0 : Below w.heap.size w W0 := by rw [hW0]; exact (Below.alloc (Below.alloc (Below.alloc (Below.alloc (Below.refl _ _) (by simp <;> omega) _) (by simp <;> omega) _) (by simp <;> omega) _) (by simp <;> omega) _)
    have eW0 : Hid (W0.heap.size = w.heap.size + 4) := Lib.hid (by rw [hW0]; simp)
    clear hW0
    refine (KT.out _).mono ?_; rintro e w1 ⟨rfl, hb1⟩
    have kk : Below W0.heap.size W0 w1 := hb1
    have c0 := (kk.cell (p := ⟨w.heap.size, 0, none⟩) zW00).trans yW00_0
    have c1 := (kk.cell (p := ⟨w.heap.size, 1, none⟩) zW00).trans yW00_1
    have c2 := (kk.cell (p := ⟨w.heap.size, 2, none⟩) zW00).trans yW00_2
    have c3 := (kk.cell (p := ⟨w.heap.size, 3, none⟩) zW00).trans yW00_3
    have fc := (kk.frozen (p := ⟨w.heap.size, 3, none⟩) zW00).trans (fW00 3)
    have r0 := (kk.cell (p := ⟨w.heap.size + 2, 0, none⟩) zW02).trans yW02_0
    have r1 := (kk.cell (p := ⟨w.heap.size + 2, 1, none⟩) zW02).trans yW02_1
    have r2 := (kk.cell (p := ⟨w.heap.size + 2, 2, none⟩) zW02).trans yW02_2
    have r3 := (kk.cell (p := ⟨w.heap.size + 2, 3, none⟩) zW02).trans yW02_3
    have g0 := (kk.frozen (p := ⟨w.heap.size + 2, 0, none⟩) zW02).trans (fW02 0)
    have g1 := (kk.frozen (p := ⟨w.heap.size + 2, 1, none⟩) zW02).trans (fW02 1)
    have g2 := (kk.frozen (p := ⟨w.heap.size + 2, 2, none⟩) zW02).trans (fW02 2)
    have g3 := (kk.frozen (p := ⟨w.heap.size + 2, 3, none⟩) zW02).trans (fW02 3)
    have zc : w.heap.size < w1.heap.size := Nat.lt_of_lt_of_le zW00 kk.size
    have zr : w.heap.size + 2 < w1.heap.size := Nat.lt_of_lt_of_le zW02 kk.size
    have BB := BW0.trans (kk.mono BW0.size)
    clear kk yW00_0 yW00_1 yW00_2 yW00_3 yW01_0 yW01_1 yW02_0 yW02_1 yW02_2 yW02_3 yW03_0 yW03_1 fW00 fW01 fW02 fW03 zW00 zW01 zW02 zW03
    clear hb1
    go_wp2_with fail
    refine bodyPost_ret (v := .agg #[.int .i64 3, .int .i64 a, .int .i64 b, .int .i64 t]) (by simp [results, Try.results82, go_sem, r0, r1, r2, r3, zr]) rfl ⟨rfl, ?_⟩
    repeat (first | with_reducible assumption | with_reducible exact Below.refl _ _ | with_reducible apply Below.drew | ((with_reducible refine Below.setCell ?_ ?_ _); rotate_left; (first | exact Nat.le_refl _ | omega | (simp <;> omega))) | ((with_reducible refine Below.alloc ?_ ?_ _); rotate_left; (first | omega | (simp <;> omega))))
  · have hv : Hid (asE 4 a b c p1 p2 = .agg #[.int .i64 4, .int .i64 a, .int .i64 b, .int .i64 ((p1 - a) * (p1 - a) + (p2 - b) * (p2 - b))]) := Lib.hid rfl
    rw [hv.out]
    clear hz ht h h1 h2 h3 h4 hk hv
    generalize (p1 - a) * (p1 - a) + (p2 - b) * (p2 - b) = t at *
    go_enter Try.func82, Try.ntmps82
    go_wp2_with fail
    obtain ⟨W0, hW0⟩ : ∃ W0, W0 = ((((w.alloc (.cells #[.int .i64 4, .int .i64 a, .int .i64 b, .int .i64 c] 38)).alloc (.cells #[.int .i64 p1, .int .i64 p2] 53)).alloc (.cells #[.int .i64 0, .int .i64 0, .int .i64 0, .int .i64 0] 38)).alloc (.cells #[.int .i64 a, .int .i64 b] 53)) := ⟨_, rfl⟩
    rw [← hW0]
    have yW00_0 : W0.cell? ⟨w.heap.size, 0, none⟩ = some (.int .i64 4) := by rw [hW0]; go_simp
    have yW00_1 : W0.cell? ⟨w.heap.size, 1, none⟩ = some (.int .i64 a) := by rw [hW0]; go_simp
    have yW00_2 : W0.cell? ⟨w.heap.size, 2, none⟩ = some (.int .i64 b) := by rw [hW0]; go_simp
    have yW00_3 : W0.cell? ⟨w.heap.size, 3, none⟩ = some (.int .i64 c) := by rw [hW0]; go_simp
    have fW00 : ∀ o, W0.frozen? ⟨w.heap.size, o, none⟩ = false := by intro o; rw [hW0]; (repeat rw [frozen?_alloc_cells]); simp [World.frozen?]
    have zW00 : w.heap.size < W0.heap.size := by rw [hW0]; simp <;> omega
    have yW01_0 : W0.cell? ⟨w.heap.size + 1, 0, none⟩ = some (.int .i64 p1) := by rw [hW0]; go_simp
    have yW01_1 : W0.cell? ⟨w.heap.size + 1, 1, none⟩ = some (.int .i64 p2) := by rw [hW0]; go_simp
    have fW01 : ∀ o, W0.frozen? ⟨w.heap.size + 1, o, none⟩ = false := by intro o; rw [hW0]; (repeat rw [frozen?_alloc_cells]); simp [World.frozen?]
    have zW01 : w.heap.size + 1 < W0.heap.size := by rw [hW0]; simp <;> omega
    have yW02_0 : W0.cell? ⟨w.heap.size + 2, 0, none⟩ = some (.int .i64 0) := by rw [hW0]; go_simp
    have yW02_1 : W0.cell? ⟨w.heap.size + 2, 1, none⟩ = some (.int .i64 0) := by rw [hW0]; go_simp
    have yW02_2 : W0.cell? ⟨w.heap.size + 2, 2, none⟩ = some (.int .i64 0) := by rw [hW0]; go_simp
    have yW02_3 : W0.cell? ⟨w.heap.size + 2, 3, none⟩ = some (.int .i64 0) := by rw [hW0]; go_simp
    have fW02 : ∀ o, W0.frozen? ⟨w.heap.size + 2, o, none⟩ = false := by intro o; rw [hW0]; (repeat rw [frozen?_alloc_cells]); simp [World.frozen?]
    have zW02 : w.heap.size + 2 < W0.heap.size := by rw [hW0]; simp <;> omega
    have yW03_0 : W0.cell? ⟨w.heap.size + 3, 0, none⟩ = some (.int .i64 a) := by rw [hW0]; go_simp
    have yW03_1 : W0.cell? ⟨w.heap.size + 3, 1, none⟩ = some (.int .i64 b) := by rw [hW0]; go_simp
    have fW03 : ∀ o, W0.frozen? ⟨w.heap.size + 3, o, none⟩ = false := by intro o; rw [hW0]; (repeat rw [frozen?_alloc_cells]); simp [World.frozen?]
    have zW03 : w.heap.size + 3 < W0.heap.size := by rw [hW0]; simp <;> omega
    have BW0 : Below w.heap.size w W0 := by rw [hW0]; exact (Below.alloc (Below.alloc (Below.alloc (Below.alloc (Below.refl _ _) (by simp <;> omega) _) (by simp <;> omega) _) (by simp <;> omega) _) (by simp <;> omega) _)
    have eW0 : Hid (W0.heap.size = w.heap.size + 4) := Lib.hid (by rw [hW0]; simp)
    clear hW0
    refine (KM.out _).mono ?_; rintro e w1 ⟨rfl, hb1⟩
    go_wp2_with fail
    refine (KQ.out _).mono ?_; rintro e w2 ⟨rfl, hb2⟩
    have kk : Below W0.heap.size W0 w2 := hb1.trans (hb2.mono hb1.size)
    have c0 := (kk.cell (p := ⟨w.heap.size, 0, none⟩) zW00).trans yW00_0
    have c1 := (kk.cell (p := ⟨w.heap.size, 1, none⟩) zW00).trans yW00_1
    have c2 := (kk.cell (p := ⟨w.heap.size, 2, none⟩) zW00).trans yW00_2
    have c3 := (kk.cell (p := ⟨w.heap.size, 3, none⟩) zW00).trans yW00_3
    have fc := (kk.frozen (p := ⟨w.heap.size, 3, none⟩) zW00).trans (fW00 3)
    have r0 := (kk.cell (p := ⟨w.heap.size + 2, 0, none⟩) zW02).trans yW02_0
    have r1 := (kk.cell (p := ⟨w.heap.size + 2, 1, none⟩) zW02).trans yW02_1
    have r2 := (kk.cell (p := ⟨w.heap.size + 2, 2, none⟩) zW02).trans yW02_2
    have r3 := (kk.cell (p := ⟨w.heap.size + 2, 3, none⟩) zW02).trans yW02_3
    have g0 := (kk.frozen (p := ⟨w.heap.size + 2, 0, none⟩) zW02).trans (fW02 0)
    have g1 := (kk.frozen (p := ⟨w.heap.size + 2, 1, none⟩) zW02).trans (fW02 1)
    have g2 := (kk.frozen (p := ⟨w.heap.size + 2, 2, none⟩) zW02).trans (fW02 2)
    have g3 := (kk.frozen (p := ⟨w.heap.size + 2, 3, none⟩) zW02).trans (fW02 3)
    have zc : w.heap.size < w2.heap.size := Nat.lt_of_lt_of_le zW00 kk.size
    have zr : w.heap.size + 2 < w2.heap.size := Nat.lt_of_lt_of_le zW02 kk.size
    have BB := BW0.trans (kk.mono BW0.size)
    clear kk yW00_0 yW00_1 yW00_2 yW00_3 yW01_0 yW01_1 yW02_0 yW02_1 yW02_2 yW02_3 yW03_0 yW03_1 fW00 fW01 fW02 fW03 zW00 zW01 zW02 zW03
    clear hb1 hb2
    go_wp2_with fail
    refine bodyPost_ret (v := .agg #[.int .i64 4, .int .i64 a, .int .i64 b, .int .i64 t]) (by simp [results, Try.results82, go_sem, r0, r1, r2, r3, zr]) rfl ⟨rfl, ?_⟩
    repeat (first | with_reducible assumption | with_reducible exact Below.refl _ _ | with_reducible apply Below.drew | ((with_reducible refine Below.setCell ?_ ?_ _); rotate_left; (first | exact Nat.le_refl _ | omega | (simp <;> omega))) | ((with_reducible refine Below.alloc ?_ ?_ _); rotate_left; (first | omega | (simp <;> omega))))
  · have hv : Hid (asE 5 a b c p1 p2 = .agg #[.int .i64 5, .int .i64 a, .int .i64 b, .int .i64 (if stepN a b p1 p2 < 2 then 1 else 0)]) := Lib.hid rfl
    rw [hv.out]
    clear hz ht h h1 h2 h3 h4 hk hv
    generalize stepN a b p1 p2 = t at *
    go_enter Try.func82, Try.ntmps82
    go_wp2_with fail
    obtain ⟨W0, hW0⟩ : ∃ W0, W0 = ((((w.alloc (.cells #[.int .i64 5, .int .i64 a, .int .i64 b, .int .i64 0] 38)).alloc (.cells #[.int .i64 p1, .int .i64 p2] 53)).alloc (.cells #[.int .i64 0, .int .i64 0, .int .i64 0, .int .i64 0] 38)).alloc (.cells #[.int .i64 a, .int .i64 b] 53)) := ⟨_, rfl⟩
    rw [← hW0]
    have yW00_0 : W0.cell? ⟨w.heap.size, 0, none⟩ = some (.int .i64 5) := by rw [hW0]; go_simp
    have yW00_1 : W0.cell? ⟨w.heap.size, 1, none⟩ = some (.int .i64 a) := by rw [hW0]; go_simp
    have yW00_2 : W0.cell? ⟨w.heap.size, 2, none⟩ = some (.int .i64 b) := by rw [hW0]; go_simp
    have yW00_3 : W0.cell? ⟨w.heap.size, 3, none⟩ = some (.int .i64 0) := by rw [hW0]; go_simp
    have fW00 : ∀ o, W0.frozen? ⟨w.heap.size, o, none⟩ = false := by intro o; rw [hW0]; (repeat rw [frozen?_alloc_cells]); simp [World.frozen?]
    have zW00 : w.heap.size < W0.heap.size := by rw [hW0]; simp <;> omega
    have yW01_0 : W0.cell? ⟨w.heap.size + 1, 0, none⟩ = some (.int .i64 p1) := by rw [hW0]; go_simp
    have yW01_1 : W0.cell? ⟨w.heap.size + 1, 1, none⟩ = some (.int .i64 p2) := by rw [hW0]; go_simp
    have fW01 : ∀ o, W0.frozen? ⟨w.heap.size + 1, o, none⟩ = false := by intro o; rw [hW0]; (repeat rw [frozen?_alloc_cells]); simp [World.frozen?]
    have zW01 : w.heap.size + 1 < W0.heap.size := by rw [hW0]; simp <;> omega
    have yW02_0 : W0.cell? ⟨w.heap.size + 2, 0, none⟩ = some (.int .i64 0) := by rw [hW0]; go_simp
    have yW02_1 : W0.cell? ⟨w.heap.size + 2, 1, none⟩ = some (.int .i64 0) := by rw [hW0]; go_simp
    have yW02_2 : W0.cell? ⟨w.heap.size + 2, 2, none⟩ = some (.int .i64 0) := by rw [hW0]; go_simp
    have yW02_3 : W0.cell? ⟨w.heap.size + 2, 3, none⟩ = some (.int .i64 0) := by rw [hW0]; go_simp
    have fW02 : ∀ o, W0.frozen? ⟨w.heap.size + 2, o, none⟩ = false := by intro o; rw [hW0]; (repeat rw [frozen?_alloc_cells]); simp [World.frozen?]
    have zW02 : w.heap.size + 2 < W0.heap.size := by rw [hW0]; simp <;> omega
    have yW03_0 : W0.cell? ⟨w.heap.size + 3, 0, none⟩ = some (.int .i64 a) := by rw [hW0]; go_simp
    have yW03_1 : W0.cell? ⟨w.heap.size + 3, 1, none⟩ = some (.int .i64 b) := by rw [hW0]; go_simp
    have fW03 : ∀ o, W0.frozen? ⟨w.heap.size + 3, o, none⟩ = false := by intro o; rw [hW0]; (repeat rw [frozen?_alloc_cells]); simp [World.frozen?]
    have zW03 : w.heap.size + 3 < W0.heap.size := by rw [hW0]; simp <;> omega
    have BW0 : Below w.heap.size w W0 := by rw [hW0]; exact (Below.alloc (Below.alloc (Below.alloc (Below.alloc (Below.refl _ _) (by simp <;> omega) _) (by simp <;> omega) _) (by simp <;> omega) _) (by simp <;> omega) _)
    have eW0 : Hid (W0.heap.size = w.heap.size + 4) := Lib.hid (by rw [hW0]; simp)
    clear hW0
    refine (KG.out _).mono ?_; rintro e w1 ⟨rfl, hb1⟩
    have kk : Below W0.heap.size W0 w1 := hb1
    have c0 := (kk.cell (p := ⟨w.heap.size, 0, none⟩) zW00).trans yW00_0
    have c1 := (kk.cell (p := ⟨w.heap.size, 1, none⟩) zW00).trans yW00_1
    have c2 := (kk.cell (p := ⟨w.heap.size, 2, none⟩) zW00).trans yW00_2
    have c3 := (kk.cell (p := ⟨w.heap.size, 3, none⟩) zW00).trans yW00_3
    have fc := (kk.frozen (p := ⟨w.heap.size, 3, none⟩) zW00).trans (fW00 3)
    have r0 := (kk.cell (p := ⟨w.heap.size + 2, 0, none⟩) zW02).trans yW02_0
    have r1 := (kk.cell (p := ⟨w.heap.size + 2, 1, none⟩) zW02).trans yW02_1
    have r2 := (kk.cell (p := ⟨w.heap.size + 2, 2, none⟩) zW02).trans yW02_2
    have r3 := (kk.cell (p := ⟨w.heap.size + 2, 3, none⟩) zW02).trans yW02_3
    have g0 := (kk.frozen (p := ⟨w.heap.size + 2, 0, none⟩) zW02).trans (fW02 0)
    have g1 := (kk.frozen (p := ⟨w.heap.size + 2, 1, none⟩) zW02).trans (fW02 1)
    have g2 := (kk.frozen (p := ⟨w.heap.size + 2, 2, none⟩) zW02).trans (fW02 2)
    have g3 := (kk.frozen (p := ⟨w.heap.size + 2, 3, none⟩) zW02).trans (fW02 3)
    have zc : w.heap.size < w1.heap.size := Nat.lt_of_lt_of_le zW00 kk.size
    have zr : w.heap.size + 2 < w1.heap.size := Nat.lt_of_lt_of_le zW02 kk.size
    have BB := BW0.trans (kk.mono BW0.size)
    clear kk yW00_0 yW00_1 yW00_2 yW00_3 yW01_0 yW01_1 yW02_0 yW02_1 yW02_2 yW02_3 yW03_0 yW03_1 fW00 fW01 fW02 fW03 zW00 zW01 zW02 zW03
    clear hb1
    by_cases h2 : t < 2
    · have h2' : t ≤ 1 := by omega
      have HX := Lib.hid h2
      clear h2
      go_wp2_with fail
      refine bodyPost_ret (v := .agg #[.int .i64 5, .int .i64 a, .int .i64 b, .int .i64 1]) (by simp [results, Try.results82, go_sem, r0, r1, r2, r3, zr]) rfl ⟨by first | rfl | rw [if_pos HX.out], ?_⟩
      repeat (first | with_reducible assumption | with_reducible exact Below.refl _ _ | with_reducible apply Below.drew | ((with_reducible refine Below.setCell ?_ ?_ _); rotate_left; (first | exact Nat.le_refl _ | omega | (simp <;> omega))) | ((with_reducible refine Below.alloc ?_ ?_ _); rotate_left; (first | omega | (simp <;> omega))))
    · have h2' : ¬ t ≤ 1 := by omega
      have HX := Lib.hid h2
      clear h2
      go_wp2_with fail
      refine bodyPost_ret (v := .agg #[.int .i64 5, .int .i64 a, .int .i64 b, .int .i64 0]) (by simp [results, Try.results82, go_sem, r0, r1, r2, r3, zr]) rfl ⟨by first | rfl | rw [if_neg HX.out], ?_⟩
      repeat (first | with_reducible assumption | with_reducible exact Below.refl _ _ | with_reducible apply Below.drew | ((with_reducible refine Below.setCell ?_ ?_ _); rotate_left; (first | exact Nat.le_refl _ | omega | (simp <;> omega))) | ((with_reducible refine Below.alloc ?_ ?_ _); rotate_left; (first | omega | (simp <;> omega))))
set_option maxHeartbeats 2000000 in
theorem fits_any (k a b c p1 p2 : Int) (w : World) (hk : kindB k = true) (h : Fit a b p1 p2) :
    Calls Try.prog 116 #[.agg #[.int .i64 k, .int .i64 a, .int .i64 b, .int .i64 c], .agg #[.int .i64 p1, .int .i64 p2]] w fun e w' => e = .returned (.bool (fitB k a b c p1 p2)) ∧ Below w.heap.size w w' := by
  have K := Lib.hid (fun W => asOf_any k a b c p1 p2 W hk h)
  unfold asE at K
  by_cases h3 : k < 3
  · have hf : Hid (fitB k a b c p1 p2 = decide (vaN k a b p1 p2 = a)) := Lib.hid (by unfold fitB; rw [if_pos h3])
    rw [hf.out]
    simp only [if_pos h3] at K
    clear hf hk h h3
    generalize vaN k a b p1 p2 = t at *
    by_cases ht : t = a
    · subst ht
      go_enter Try.func116, Try.ntmps116
      go_wp2_with fail
      obtain ⟨W0, hW0⟩ : ∃ W0, W0 = ((w.alloc (.cells #[.int .i64 k, .int .i64 t, .int .i64 b, .int .i64 c] 38)).alloc (.cells #[.int .i64 p1, .int .i64 p2] 53)) := ⟨_, rfl⟩
      rw [← hW0]
      have yW00_0 : W0.cell? ⟨w.heap.size, 0, none⟩ = some (.int .i64 k) := by rw [hW0]; go_simp
      have yW00_1 : W0.cell? ⟨w.heap.size, 1, none⟩ = some (.int .i64 t) := by rw [hW0]; go_simp
      have yW00_2 : W0.cell? ⟨w.heap.size, 2, none⟩ = some (.int .i64 b) := by rw [hW0]; go_simp
      have yW00_3 : W0.cell? ⟨w.heap.size, 3, none⟩ = some (.int .i64 c) := by rw [hW0]; go_simp
      have fW00 : ∀ o, W0.frozen? ⟨w.heap.size, o, none⟩ = false := by intro o; rw [hW0]; (repeat rw [frozen?_alloc_cells]); simp [World.frozen?]
      have zW00 : w.heap.size < W0.heap.size := by rw [hW0]; simp <;> omega
      have yW01_0 : W0.cell? ⟨w.heap.size + 1, 0, none⟩ = some (.int .i64 p1) := by rw [hW0]; go_simp
      have yW01_1 : W0.cell? ⟨w.heap.size + 1, 1, none⟩ = some (.int .i64 p2) := by rw [hW0]; go_simp
      have fW01 : ∀ o, W0.frozen? ⟨w.heap.size + 1, o, none⟩ = false := by intro o; rw [hW0]; (repeat rw [frozen?_alloc_cells]); simp [World.frozen?]
      have zW01 : w.heap.size + 1 < W0.heap.size := by rw [hW0]; simp <;> omega
      have BW0 : Below w.heap.size w W0 := by rw [hW0]; exact (Below.alloc (Below.alloc (Below.refl _ _) (by simp <;> omega) _) (by simp <;> omega) _)
      have eW0 : Hid (W0.heap.size = w.heap.size + 2) := Lib.hid (by rw [hW0]; simp)
      clear hW0
      refine wp_region_B (fun W => Below W0.heap.size W0 W) (by kernel_rfl) (by repeat (first | exact Below.refl _ _ | apply Below.drew)) ?_
      first | refine wpB_skip 0 rfl (by kernel_rfl) (by kernel_rfl) (by kernel_rfl) (by rfl) ?_ | (refine wpB_text 0 (v := ?_) rfl (by kernel_rfl) (by kernel_rfl) (by kernel_rfl) (by rfl) (fun W hW => ?_) ?_; rotate_left; (have k1 := hW; obtain ⟨hc1, hf1⟩ := bcell k1; go_simp; refine comes_v ?_; exact k1))
      (try simp only [Act.put, List.setIfInBounds_toArray, List.set_cons_zero, List.set_cons_succ])
      first | refine wpB_skip 1 rfl (by kernel_rfl) (by kernel_rfl) (by kernel_rfl) (by rfl) ?_ | (refine wpB_text 1 (v := ?_) rfl (by kernel_rfl) (by kernel_rfl) (by kernel_rfl) (by rfl) (fun W hW => ?_) ?_; rotate_left; (have k1 := hW; obtain ⟨hc1, hf1⟩ := bcell k1; go_simp; refine comes_v ?_; exact k1))
      (try simp only [Act.put, List.setIfInBounds_toArray, List.set_cons_zero, List.set_cons_succ])
      first | refine wpB_skip 2 rfl (by kernel_rfl) (by kernel_rfl) (by kernel_rfl) (by rfl) ?_ | (refine wpB_text 2 (v := ?_) rfl (by kernel_rfl) (by kernel_rfl) (by kernel_rfl) (by rfl) (fun W hW => ?_) ?_; rotate_left; (have k1 := hW; obtain ⟨hc1, hf1⟩ := bcell k1; go_simp; refine comes_v ?_; exact k1))
      (try simp only [Act.put, List.setIfInBounds_toArray, List.set_cons_zero, List.set_cons_succ])
      first | refine wpB_skip 3 rfl (by kernel_rfl) (by kernel_rfl) (by kernel_rfl) (by rfl) ?_ | (refine wpB_text 3 (v := .agg #[.int .i64 k, .int .i64 t, .int .i64 b, .int .i64 c]) rfl (by kernel_rfl) (by kernel_rfl) (by kernel_rfl) (by rfl) (fun W hW => ?_) ?_; (have k1 := hW; obtain ⟨hc1, hf1⟩ := bcell k1; go_simp; exact comes_c ( K.out _) (fun wn hbn => bt_keep k1 hbn)))
      (try simp only [Act.put, List.setIfInBounds_toArray, List.set_cons_zero, List.set_cons_succ])
      first | refine wpB_skip 4 rfl (by kernel_rfl) (by kernel_rfl) (by kernel_rfl) (by rfl) ?_ | (refine wpB_text 4 (v := ?_) rfl (by kernel_rfl) (by kernel_rfl) (by kernel_rfl) (by rfl) (fun W hW => ?_) ?_; rotate_left; (have k1 := hW; obtain ⟨hc1, hf1⟩ := bcell k1; go_simp; refine comes_v ?_; exact k1))
      (try simp only [Act.put, List.setIfInBounds_toArray, List.set_cons_zero, List.set_cons_succ])
      first | refine wpB_skip 5 rfl (by kernel_rfl) (by kernel_rfl) (by kernel_rfl) (by rfl) ?_ | (refine wpB_text 5 (v := ?_) rfl (by kernel_rfl) (by kernel_rfl) (by kernel_rfl) (by rfl) (fun W hW => ?_) ?_; rotate_left; (have k1 := hW; obtain ⟨hc1, hf1⟩ := bcell k1; go_simp; refine comes_v ?_; exact k1))
      (try simp only [Act.put, List.setIfInBounds_toArray, List.set_cons_zero, List.set_cons_succ])
      refine wpB_done (by kernel_rfl) ?_ _
      intro W hW; have k1 := hW
      go_wp2_with fail
      go_ret
      exact ⟨ret_bool (by simp), BW0.trans (k1.mono BW0.size)⟩
    · go_enter Try.func116, Try.ntmps116
      go_wp2_with fail
      obtain ⟨W0, hW0⟩ : ∃ W0, W0 = ((w.alloc (.cells #[.int .i64 k, .int .i64 a, .int .i64 b, .int .i64 c] 38)).alloc (.cells #[.int .i64 p1, .int .i64 p2] 53)) := ⟨_, rfl⟩
      rw [← hW0]
      have yW00_0 : W0.cell? ⟨w.heap.size, 0, none⟩ = some (.int .i64 k) := by rw [hW0]; go_simp
      have yW00_1 : W0.cell? ⟨w.heap.size, 1, none⟩ = some (.int .i64 a) := by rw [hW0]; go_simp
      have yW00_2 : W0.cell? ⟨w.heap.size, 2, none⟩ = some (.int .i64 b) := by rw [hW0]; go_simp
      have yW00_3 : W0.cell? ⟨w.heap.size, 3, none⟩ = some (.int .i64 c) := by rw [hW0]; go_simp
      have fW00 : ∀ o, W0.frozen? ⟨w.heap.size, o, none⟩ = false := by intro o; rw [hW0]; (repeat rw [frozen?_alloc_cells]); simp [World.frozen?]
      have zW00 : w.heap.size < W0.heap.size := by rw [hW0]; simp <;> omega
      have yW01_0 : W0.cell? ⟨w.heap.size + 1, 0, none⟩ = some (.int .i64 p1) := by rw [hW0]; go_simp
      have yW01_1 : W0.cell? ⟨w.heap.size + 1, 1, none⟩ = some (.int .i64 p2) := by rw [hW0]; go_simp
      have fW01 : ∀ o, W0.frozen? ⟨w.heap.size + 1, o, none⟩ = false := by intro o; rw [hW0]; (repeat rw [frozen?_alloc_cells]); simp [World.frozen?]
      have zW01 : w.heap.size + 1 < W0.heap.size := by rw [hW0]; simp <;> omega
      have BW0 : Below w.heap.size w W0 := by rw [hW0]; exact (Below.alloc (Below.alloc (Below.refl _ _) (by simp <;> omega) _) (by simp <;> omega) _)
      have eW0 : Hid (W0.heap.size = w.heap.size + 2) := Lib.hid (by rw [hW0]; simp)
      clear hW0
      have ht' : ¬ a = t := fun e => ht e.symm
      refine wp_region_B (fun W => Below W0.heap.size W0 W) (by kernel_rfl) (by repeat (first | exact Below.refl _ _ | apply Below.drew)) ?_
      first | refine wpB_skip 0 rfl (by kernel_rfl) (by kernel_rfl) (by kernel_rfl) (by rfl) ?_ | (refine wpB_text 0 (v := ?_) rfl (by kernel_rfl) (by kernel_rfl) (by kernel_rfl) (by rfl) (fun W hW => ?_) ?_; rotate_left; (have k1 := hW; obtain ⟨hc1, hf1⟩ := bcell k1; go_simp; refine comes_v ?_; exact k1))
      (try simp only [Act.put, List.setIfInBounds_toArray, List.set_cons_zero, List.set_cons_succ])
      first | refine wpB_skip 1 rfl (by kernel_rfl) (by kernel_rfl) (by kernel_rfl) (by rfl) ?_ | (refine wpB_text 1 (v := ?_) rfl (by kernel_rfl) (by kernel_rfl) (by kernel_rfl) (by rfl) (fun W hW => ?_) ?_; rotate_left; (have k1 := hW; obtain ⟨hc1, hf1⟩ := bcell k1; go_simp; refine comes_v ?_; exact k1))
      (try simp only [Act.put, List.setIfInBounds_toArray, List.set_cons_zero, List.set_cons_succ])
      first | refine wpB_skip 2 rfl (by kernel_rfl) (by kernel_rfl) (by kernel_rfl) (by rfl) ?_ | (refine wpB_text 2 (v := ?_) rfl (by kernel_rfl) (by kernel_rfl) (by kernel_rfl) (by rfl) (fun W hW => ?_) ?_; rotate_left; (have k1 := hW; obtain ⟨hc1, hf1⟩ := bcell k1; go_simp; refine comes_v ?_; exact k1))
      (try simp only [Act.put, List.setIfInBounds_toArray, List.set_cons_zero, List.set_cons_succ])
      first | refine wpB_skip 3 rfl (by kernel_rfl) (by kernel_rfl) (by kernel_rfl) (by rfl) ?_ | (refine wpB_text 3 (v := .agg #[.int .i64 k, .int .i64 t, .int .i64 b, .int .i64 c]) rfl (by kernel_rfl) (by kernel_rfl) (by kernel_rfl) (by rfl) (fun W hW => ?_) ?_; (have k1 := hW; obtain ⟨hc1, hf1⟩ := bcell k1; go_simp; exact comes_c ( K.out _) (fun wn hbn => bt_keep k1 hbn)))
      (try simp only [Act.put, List.setIfInBounds_toArray, List.set_cons_zero, List.set_cons_succ])
      first | refine wpB_skip 4 rfl (by kernel_rfl) (by kernel_rfl) (by kernel_rfl) (by rfl) ?_ | (refine wpB_text 4 (v := ?_) rfl (by kernel_rfl) (by kernel_rfl) (by kernel_rfl) (by rfl) (fun W hW => ?_) ?_; rotate_left; (have k1 := hW; obtain ⟨hc1, hf1⟩ := bcell k1; go_simp; refine comes_v ?_; exact k1))
      (try simp only [Act.put, List.setIfInBounds_toArray, List.set_cons_zero, List.set_cons_succ])
      first | refine wpB_skip 5 rfl (by kernel_rfl) (by kernel_rfl) (by kernel_rfl) (by rfl) ?_ | (refine wpB_text 5 (v := ?_) rfl (by kernel_rfl) (by kernel_rfl) (by kernel_rfl) (by rfl) (fun W hW => ?_) ?_; rotate_left; (have k1 := hW; obtain ⟨hc1, hf1⟩ := bcell k1; go_simp; refine comes_v ?_; exact k1))
      (try simp only [Act.put, List.setIfInBounds_toArray, List.set_cons_zero, List.set_cons_succ])
      refine wpB_done (by kernel_rfl) ?_ _
      intro W hW; have k1 := hW
      go_wp2_with fail
      go_ret
      exact ⟨ret_bool (by simp [ht, ht']), BW0.trans (k1.mono BW0.size)⟩
  · have hf : Hid (fitB k a b c p1 p2 = decide (vaN k a b p1 p2 = c)) := Lib.hid (by unfold fitB; rw [if_neg h3])
    rw [hf.out]
    simp only [if_neg h3] at K
    clear hf hk h h3
    generalize vaN k a b p1 p2 = t at *
    by_cases ht : t = c
    · subst ht
      go_enter Try.func116, Try.ntmps116
      go_wp2_with fail
      obtain ⟨W0, hW0⟩ : ∃ W0, W0 = ((w.alloc (.cells #[.int .i64 k, .int .i64 a, .int .i64 b, .int .i64 t] 38)).alloc (.cells #[.int .i64 p1, .int .i64 p2] 53)) := ⟨_, rfl⟩
      rw [← hW0]
      have yW00_0 : W0.cell? ⟨w.heap.size, 0, none⟩ = some (.int .i64 k) := by rw [hW0]; go_simp
      have yW00_1 : W0.cell? ⟨w.heap.size, 1, none⟩ = some (.int .i64 a) := by rw [hW0]; go_simp
      have yW00_2 : W0.cell? ⟨w.heap.size, 2, none⟩ = some (.int .i64 b) := by rw [hW0]; go_simp
      have yW00_3 : W0.cell? ⟨w.heap.size, 3, none⟩ = some (.int .i64 t) := by rw [hW0]; go_simp
      have fW00 : ∀ o, W0.frozen? ⟨w.heap.size, o, none⟩ = false := by intro o; rw [hW0]; (repeat rw [frozen?_alloc_cells]); simp [World.frozen?]
      have zW00 : w.heap.size < W0.heap.size := by rw [hW0]; simp <;> omega
      have yW01_0 : W0.cell? ⟨w.heap.size + 1, 0, none⟩ = some (.int .i64 p1) := by rw [hW0]; go_simp
      have yW01_1 : W0.cell? ⟨w.heap.size + 1, 1, none⟩ = some (.int .i64 p2) := by rw [hW0]; go_simp
      have fW01 : ∀ o, W0.frozen? ⟨w.heap.size + 1, o, none⟩ = false := by intro o; rw [hW0]; (repeat rw [frozen?_alloc_cells]); simp [World.frozen?]
      have zW01 : w.heap.size + 1 < W0.heap.size := by rw [hW0]; simp <;> omega
      have BW0 : Below w.heap.size w W0 := by rw [hW0]; exact (Below.alloc (Below.alloc (Below.refl _ _) (by simp <;> omega) _) (by simp <;> omega) _)
      have eW0 : Hid (W0.heap.size = w.heap.size + 2) := Lib.hid (by rw [hW0]; simp)
      clear hW0
      refine wp_region_B (fun W => Below W0.heap.size W0 W) (by kernel_rfl) (by repeat (first | exact Below.refl _ _ | apply Below.drew)) ?_
      first | refine wpB_skip 0 rfl (by kernel_rfl) (by kernel_rfl) (by kernel_rfl) (by rfl) ?_ | (refine wpB_text 0 (v := ?_) rfl (by kernel_rfl) (by kernel_rfl) (by kernel_rfl) (by rfl) (fun W hW => ?_) ?_; rotate_left; (have k1 := hW; obtain ⟨hc1, hf1⟩ := bcell k1; go_simp; refine comes_v ?_; exact k1))
      (try simp only [Act.put, List.setIfInBounds_toArray, List.set_cons_zero, List.set_cons_succ])
      first | refine wpB_skip 1 rfl (by kernel_rfl) (by kernel_rfl) (by kernel_rfl) (by rfl) ?_ | (refine wpB_text 1 (v := ?_) rfl (by kernel_rfl) (by kernel_rfl) (by kernel_rfl) (by rfl) (fun W hW => ?_) ?_; rotate_left; (have k1 := hW; obtain ⟨hc1, hf1⟩ := bcell k1; go_simp; refine comes_v ?_; exact k1))
      (try simp only [Act.put, List.setIfInBounds_toArray, List.set_cons_zero, List.set_cons_succ])
      first | refine wpB_skip 2 rfl (by kernel_rfl) (by kernel_rfl) (by kernel_rfl) (by rfl) ?_ | (refine wpB_text 2 (v := ?_) rfl (by kernel_rfl) (by kernel_rfl) (by kernel_rfl) (by rfl) (fun W hW => ?_) ?_; rotate_left; (have k1 := hW; obtain ⟨hc1, hf1⟩ := bcell k1; go_simp; refine comes_v ?_; exact k1))
      (try simp only [Act.put, List.setIfInBounds_toArray, List.set_cons_zero, List.set_cons_succ])
      first | refine wpB_skip 3 rfl (by kernel_rfl) (by kernel_rfl) (by kernel_rfl) (by rfl) ?_ | (refine wpB_text 3 (v := .agg #[.int .i64 k, .int .i64 a, .int .i64 b, .int .i64 t]) rfl (by kernel_rfl) (by kernel_rfl) (by kernel_rfl) (by rfl) (fun W hW => ?_) ?_; (have k1 := hW; obtain ⟨hc1, hf1⟩ := bcell k1; go_simp; exact comes_c ( K.out _) (fun wn hbn => bt_keep k1 hbn)))
      (try simp only [Act.put, List.setIfInBounds_toArray, List.set_cons_zero, List.set_cons_succ])
      first | refine wpB_skip 4 rfl (by kernel_rfl) (by kernel_rfl) (by kernel_rfl) (by rfl) ?_ | (refine wpB_text 4 (v := ?_) rfl (by kernel_rfl) (by kernel_rfl) (by kernel_rfl) (by rfl) (fun W hW => ?_) ?_; rotate_left; (have k1 := hW; obtain ⟨hc1, hf1⟩ := bcell k1; go_simp; refine comes_v ?_; exact k1))
      (try simp only [Act.put, List.setIfInBounds_toArray, List.set_cons_zero, List.set_cons_succ])
      first | refine wpB_skip 5 rfl (by kernel_rfl) (by kernel_rfl) (by kernel_rfl) (by rfl) ?_ | (refine wpB_text 5 (v := ?_) rfl (by kernel_rfl) (by kernel_rfl) (by kernel_rfl) (by rfl) (fun W hW => ?_) ?_; rotate_left; (have k1 := hW; obtain ⟨hc1, hf1⟩ := bcell k1; go_simp; refine comes_v ?_; exact k1))
      (try simp only [Act.put, List.setIfInBounds_toArray, List.set_cons_zero, List.set_cons_succ])
      refine wpB_done (by kernel_rfl) ?_ _
      intro W hW; have k1 := hW
      go_wp2_with fail
      go_ret
      exact ⟨ret_bool (by simp), BW0.trans (k1.mono BW0.size)⟩
    · go_enter Try.func116, Try.ntmps116
      go_wp2_with fail
      obtain ⟨W0, hW0⟩ : ∃ W0, W0 = ((w.alloc (.cells #[.int .i64 k, .int .i64 a, .int .i64 b, .int .i64 c] 38)).alloc (.cells #[.int .i64 p1, .int .i64 p2] 53)) := ⟨_, rfl⟩
      rw [← hW0]
      have yW00_0 : W0.cell? ⟨w.heap.size, 0, none⟩ = some (.int .i64 k) := by rw [hW0]; go_simp
      have yW00_1 : W0.cell? ⟨w.heap.size, 1, none⟩ = some (.int .i64 a) := by rw [hW0]; go_simp
      have yW00_2 : W0.cell? ⟨w.heap.size, 2, none⟩ = some (.int .i64 b) := by rw [hW0]; go_simp
      have yW00_3 : W0.cell? ⟨w.heap.size, 3, none⟩ = some (.int .i64 c) := by rw [hW0]; go_simp
      have fW00 : ∀ o, W0.frozen? ⟨w.heap.size, o, none⟩ = false := by intro o; rw [hW0]; (repeat rw [frozen?_alloc_cells]); simp [World.frozen?]
      have zW00 : w.heap.size < W0.heap.size := by rw [hW0]; simp <;> omega
      have yW01_0 : W0.cell? ⟨w.heap.size + 1, 0, none⟩ = some (.int .i64 p1) := by rw [hW0]; go_simp
      have yW01_1 : W0.cell? ⟨w.heap.size + 1, 1, none⟩ = some (.int .i64 p2) := by rw [hW0]; go_simp
      have fW01 : ∀ o, W0.frozen? ⟨w.heap.size + 1, o, none⟩ = false := by intro o; rw [hW0]; (repeat rw [frozen?_alloc_cells]); simp [World.frozen?]
      have zW01 : w.heap.size + 1 < W0.heap.size := by rw [hW0]; simp <;> omega
      have BW0 : Below w.heap.size w W0 := by rw [hW0]; exact (Below.alloc (Below.alloc (Below.refl _ _) (by simp <;> omega) _) (by simp <;> omega) _)
      have eW0 : Hid (W0.heap.size = w.heap.size + 2) := Lib.hid (by rw [hW0]; simp)
      clear hW0
      have ht' : ¬ c = t := fun e => ht e.symm
      refine wp_region_B (fun W => Below W0.heap.size W0 W) (by kernel_rfl) (by repeat (first | exact Below.refl _ _ | apply Below.drew)) ?_
      first | refine wpB_skip 0 rfl (by kernel_rfl) (by kernel_rfl) (by kernel_rfl) (by rfl) ?_ | (refine wpB_text 0 (v := ?_) rfl (by kernel_rfl) (by kernel_rfl) (by kernel_rfl) (by rfl) (fun W hW => ?_) ?_; rotate_left; (have k1 := hW; obtain ⟨hc1, hf1⟩ := bcell k1; go_simp; refine comes_v ?_; exact k1))
      (try simp only [Act.put, List.setIfInBounds_toArray, List.set_cons_zero, List.set_cons_succ])
      first | refine wpB_skip 1 rfl (by kernel_rfl) (by kernel_rfl) (by kernel_rfl) (by rfl) ?_ | (refine wpB_text 1 (v := ?_) rfl (by kernel_rfl) (by kernel_rfl) (by kernel_rfl) (by rfl) (fun W hW => ?_) ?_; rotate_left; (have k1 := hW; obtain ⟨hc1, hf1⟩ := bcell k1; go_simp; refine comes_v ?_; exact k1))
      (try simp only [Act.put, List.setIfInBounds_toArray, List.set_cons_zero, List.set_cons_succ])
      first | refine wpB_skip 2 rfl (by kernel_rfl) (by kernel_rfl) (by kernel_rfl) (by rfl) ?_ | (refine wpB_text 2 (v := ?_) rfl (by kernel_rfl) (by kernel_rfl) (by kernel_rfl) (by rfl) (fun W hW => ?_) ?_; rotate_left; (have k1 := hW; obtain ⟨hc1, hf1⟩ := bcell k1; go_simp; refine comes_v ?_; exact k1))
      (try simp only [Act.put, List.setIfInBounds_toArray, List.set_cons_zero, List.set_cons_succ])
      first | refine wpB_skip 3 rfl (by kernel_rfl) (by kernel_rfl) (by kernel_rfl) (by rfl) ?_ | (refine wpB_text 3 (v := .agg #[.int .i64 k, .int .i64 a, .int .i64 b, .int .i64 t]) rfl (by kernel_rfl) (by kernel_rfl) (by kernel_rfl) (by rfl) (fun W hW => ?_) ?_; (have k1 := hW; obtain ⟨hc1, hf1⟩ := bcell k1; go_simp; exact comes_c ( K.out _) (fun wn hbn => bt_keep k1 hbn)))
      (try simp only [Act.put, List.setIfInBounds_toArray, List.set_cons_zero, List.set_cons_succ])
      first | refine wpB_skip 4 rfl (by kernel_rfl) (by kernel_rfl) (by kernel_rfl) (by rfl) ?_ | (refine wpB_text 4 (v := ?_) rfl (by kernel_rfl) (by kernel_rfl) (by kernel_rfl) (by rfl) (fun W hW => ?_) ?_; rotate_left; (have k1 := hW; obtain ⟨hc1, hf1⟩ := bcell k1; go_simp; refine comes_v ?_; exact k1))
      (try simp only [Act.put, List.setIfInBounds_toArray, List.set_cons_zero, List.set_cons_succ])
      first | refine wpB_skip 5 rfl (by kernel_rfl) (by kernel_rfl) (by kernel_rfl) (by rfl) ?_ | (refine wpB_text 5 (v := ?_) rfl (by kernel_rfl) (by kernel_rfl) (by kernel_rfl) (by rfl) (fun W hW => ?_) ?_; rotate_left; (have k1 := hW; obtain ⟨hc1, hf1⟩ := bcell k1; go_simp; refine comes_v ?_; exact k1))
      (try simp only [Act.put, List.setIfInBounds_toArray, List.set_cons_zero, List.set_cons_succ])
      refine wpB_done (by kernel_rfl) ?_ _
      intro W hW; have k1 := hW
      go_wp2_with fail
      go_ret
      exact ⟨ret_bool (by simp [ht, ht']), BW0.trans (k1.mono BW0.size)⟩
theorem pzOn_any (s p1 p2 : Int) (w : World) :
    Calls Try.prog 74 #[.int .i64 s, .agg #[.int .i64 p1, .int .i64 p2]] w fun e w' => e = .returned (.bool (inQ 0 s p1 && inQ 0 s p2)) ∧ Below w.heap.size w w' := by
  have K1 := Lib.hid (fun W => inQ_any p1 0 s W)
  have K2 := Lib.hid (fun W => inQ_any p2 0 s W)
  have HB := Lib.hid (Below.alloc (Below.refl w.heap.size w) (Nat.le_refl _) (.cells #[.int .i64 p1, .int .i64 p2] 53))
  generalize inQ 0 s p1 = q1 at *
  generalize inQ 0 s p2 = q2 at *
  cases q1
  all_goals
    go_enter Try.func74, Try.ntmps74
    go_wp2_with fail
    refine (K1.out _).mono ?_; rintro e _ ⟨rfl, rfl⟩
    go_wp2_with fail
    try (refine (K2.out _).mono ?_; rintro e _ ⟨rfl, rfl⟩)
    try go_wp2_with fail
    go_ret
    exact ⟨rfl, HB.out⟩
theorem sideBoard_any (s : Int) (w : World) (h1 : 1 ≤ s) (h2 : s ≤ 12) :
    Calls Try.prog 78 #[.int .i64 s] w fun e w' => e = .returned (.agg #[.int .i64 (s + 1), .int .i64 (s + 1)]) ∧ Below w.heap.size w w' := by
  have i1 : IntKind.i64.wrap (s + 1) = s + 1 := IntWalk.i64_in _ (by omega)
  go_enter Try.func78, Try.ntmps78
  go_wp2_with fail
  refine bodyPost_ret (v := .agg #[.int .i64 (s + 1), .int .i64 (s + 1)]) (by simp [results, Try.results78, go_sem]) rfl ⟨rfl, ?_⟩
  repeat (first | with_reducible assumption | with_reducible exact Below.refl _ _ | with_reducible apply Below.drew | ((with_reducible refine Below.setCell ?_ ?_ _); rotate_left; (first | exact Nat.le_refl _ | omega | (simp <;> omega))) | ((with_reducible refine Below.alloc ?_ ?_ _); rotate_left; (first | omega | (simp <;> omega))))
set_option maxHeartbeats 1000000 in
theorem hasS_any (s p1 p2 : Int) (w : World) (h1 : 1 ≤ s) (h2 : s ≤ 12) :
    Calls Try.prog 79 #[.agg #[.int .i64 (s + 1), .int .i64 (s + 1)], .agg #[.int .i64 p1, .int .i64 p2]] w fun e w' => e = .returned (.bool (inQ 0 s p1 && inQ 0 s p2)) ∧ Below w.heap.size w w' := by
  have HB := Lib.hid (Below.alloc (Below.alloc (Below.refl w.heap.size w) (Nat.le_refl _) (.cells #[.int .i64 (s + 1), .int .i64 (s + 1)] 88)) (by simp) (.cells #[.int .i64 p1, .int .i64 p2] 53))
  clear h1 h2
  by_cases g1 : 0 ≤ p1
  · by_cases g2 : p1 < s + 1
    · by_cases g3 : 0 ≤ p2
      · by_cases g4 : p2 < s + 1
        · have hr : Hid ((inQ 0 s p1 && inQ 0 s p2) = true) := Lib.hid (by unfold inQ; simp; omega)
          rw [hr.out]
          go_enter Try.func79, Try.ntmps79
          go_wp2_with fail
          go_ret
          exact ⟨rfl, HB.out⟩
        · have hr : Hid ((inQ 0 s p1 && inQ 0 s p2) = false) := Lib.hid (by unfold inQ; simp; omega)
          rw [hr.out]
          go_enter Try.func79, Try.ntmps79
          go_wp2_with fail
          go_ret
          exact ⟨rfl, HB.out⟩
      · have hr : Hid ((inQ 0 s p1 && inQ 0 s p2) = false) := Lib.hid (by unfold inQ; simp; omega)
        rw [hr.out]
        go_enter Try.func79, Try.ntmps79
        go_wp2_with fail
        go_ret
        exact ⟨rfl, HB.out⟩
    · have hr : Hid ((inQ 0 s p1 && inQ 0 s p2) = false) := Lib.hid (by unfold inQ; simp; omega)
      rw [hr.out]
      go_enter Try.func79, Try.ntmps79
      go_wp2_with fail
      go_ret
      exact ⟨rfl, HB.out⟩
  · have hr : Hid ((inQ 0 s p1 && inQ 0 s p2) = false) := Lib.hid (by unfold inQ; simp; omega)
    rw [hr.out]
    go_enter Try.func79, Try.ntmps79
    go_wp2_with fail
    go_ret
    exact ⟨rfl, HB.out⟩
end Go.Proofs.Ytacabmbajadbgaa
