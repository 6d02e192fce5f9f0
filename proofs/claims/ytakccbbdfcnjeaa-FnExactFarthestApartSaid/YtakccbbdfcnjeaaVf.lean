/- contracts: FarthestApart on both sides, at any list -/
import Derived.Test.YtakccbbdfcnjeaaVb
import Derived.Test.YtakccbbdfcnjeaaVc
namespace Go.Proofs.Ytakccbbdfcnjeaa
open Go.ChangeShapes Go.WideShapes Go.ChangeAt Go.RowKit Go.Joins
set_option linter.unusedVariables false
set_option linter.unusedSimpArgs false
set_option maxRecDepth 4000
noncomputable def fzS (l : List (Int × Int)) (i : Nat) : Int := if i = 0 then (fzV l).1.1 else if i = 1 then (fzV l).1.2 else if i = 2 then (fzV l).2.1.1 else if i = 3 then (fzV l).2.1.2 else (fzV l).2.2
theorem specFarthest_no (A : Option Addr) (c : Nat) (l : List (Int × Int)) (w : World) (b : Bool) (hb0 : difB l = b) (hno : b = false ∨ l.length < 2) (hn : l.length ≤ 1048576) (hcap : l.length ≤ c) (hc2 : c ≤ 9223372036854775807) (hR : Rd w w.heap.size A l) :
    Calls Try.prog 16 #[.slice A l.length c] w fun e w' => e = .returned (.tuple #[.agg #[.int .i64 0, .int .i64 0], .agg #[.int .i64 0, .int .i64 0], .int .i64 0, .bool false]) ∧ Below w.heap.size w w' := by
  have K := Lib.hid (fun W (hb : Below w.heap.size w W) => bdGood_any A c l W hn hcap hc2 (rd_more (rd_below hR hb (Nat.le_refl _)) hb.size))
  rw [hb0] at K
  clear hR hb0
  generalize l.length = n at *
  cases b
  all_goals
    first | (exfalso; simp at hno; done) | skip
    try (have hlt2 : ((n : Int) < 2) := by (simp at hno; omega))
    clear hno
    go_enter Try.func16, Try.ntmps16
    go_wp2_with fail
    obtain ⟨W0, hW0⟩ : ∃ W0, W0 = ((w.alloc (.cells #[.int .i64 0, .int .i64 0] 25)).alloc (.cells #[.int .i64 0, .int .i64 0] 25)) := ⟨_, rfl⟩
    rw [← hW0]
    have yW00_0 : W0.cell? ⟨w.heap.size, 0, none⟩ = some (.int .i64 0) := by rw [hW0]; go_simp
    have yW00_1 : W0.cell? ⟨w.heap.size, 1, none⟩ = some (.int .i64 0) := by rw [hW0]; go_simp
    have fW00 : ∀ o, W0.frozen? ⟨w.heap.size, o, none⟩ = false := by intro o; rw [hW0]; (repeat rw [frozen?_alloc_cells]); simp [World.frozen?]
    have zW00 : w.heap.size < W0.heap.size := by rw [hW0]; simp <;> omega
    have yW01_0 : W0.cell? ⟨w.heap.size + 1, 0, none⟩ = some (.int .i64 0) := by rw [hW0]; go_simp
    have yW01_1 : W0.cell? ⟨w.heap.size + 1, 1, none⟩ = some (.int .i64 0) := by rw [hW0]; go_simp
    have fW01 : ∀ o, W0.frozen? ⟨w.heap.size + 1, o, none⟩ = false := by intro o; rw [hW0]; (repeat rw [frozen?_alloc_cells]); simp [World.frozen?]
    have zW01 : w.heap.size + 1 < W0.heap.size := by rw [hW0]; simp <;> omega
    have BW0 : Below w.heap.size w W0 := by rw [hW0]; exact (Below.alloc (Below.alloc (Below.refl _ _) (by simp <;> omega) _) (by simp <;> omega) _)
    have eW0 : Hid (W0.heap.size = w.heap.size + 2) := Lib.hid (by rw [hW0]; simp)
    clear hW0
    refine (K.out W0 BW0).mono ?_; rintro e w1 ⟨rfl, hb1⟩
    have B1 := BW0.trans (hb1.mono BW0.size)
    obtain ⟨hc1, hf1⟩ := bcell hb1
    have x1 := (hc1 _ 0 zW00).trans yW00_0
    have x2 := (hc1 _ 1 zW00).trans yW00_1
    have x3 := (hc1 _ 0 zW01).trans yW01_0
    have x4 := (hc1 _ 1 zW01).trans yW01_1
    have g1 := (hf1 _ 0 zW00).trans (fW00 0)
    have g2 := (hf1 _ 1 zW00).trans (fW00 1)
    have g3 := (hf1 _ 0 zW01).trans (fW01 0)
    have g4 := (hf1 _ 1 zW01).trans (fW01 1)
    have zr1 : w.heap.size + 1 < w1.heap.size := Nat.lt_of_lt_of_le zW01 hb1.size
    have zr0 : w.heap.size < w1.heap.size := by omega
    clear hc1 hf1 hb1 yW00_0 yW00_1 yW01_0 yW01_1 fW00 fW01 zW00 zW01 eW0 BW0 K
    go_wp2_with fail
    refine bodyPost_ret (v := .tuple #[.agg #[.int .i64 0, .int .i64 0], .agg #[.int .i64 0, .int .i64 0], .int .i64 0, .bool false]) (by simp [results, Try.results16, go_sem, zr0, zr1, x1, x2, x3, x4]) rfl ⟨rfl, ?_⟩
    repeat (first | with_reducible assumption | with_reducible exact Below.refl _ _ | with_reducible apply Below.drew | ((with_reducible refine Below.setCell ?_ ?_ _); rotate_left; (first | exact Nat.le_refl _ | omega | (simp <;> omega))) | ((with_reducible refine Below.alloc ?_ ?_ _); rotate_left; (first | omega | (simp <;> omega))))
theorem specFarthestApart_any (A : Option Addr) (c : Nat) (l : List (Int × Int)) (w : World) (hn : l.length ≤ 1048576) (hcap : l.length ≤ c) (hc2 : c ≤ 9223372036854775807) (hR : Rd w w.heap.size A l) :
    Calls Try.prog 16 #[.slice A l.length c] w fun e w' => e = .returned (.tuple #[.agg #[.int .i64 (fzS l 0), .int .i64 (fzS l 1)], .agg #[.int .i64 (fzS l 2), .int .i64 (fzS l 3)], .int .i64 (fzS l 4), .bool (fzB l)]) ∧ Below w.heap.size w w' := by
  by_cases hd : Dif l
  · by_cases h2 : 2 ≤ l.length
    · have hB : fzB l = true := by unfold fzB; rw [difB_true hd]; simpa using h2
      have := specFarthest_yes A c l w hn hcap hc2 hd h2 hR
      unfold fzS fzV
      rw [hB]
      exact this
    · have hB : fzB l = false := by unfold fzB; rw [difB_true hd]; simpa using h2
      have := specFarthest_no A c l w (difB l) rfl (Or.inr (by omega)) hn hcap hc2 hR
      unfold fzS fzV
      rw [hB]
      exact this
  · have hB : fzB l = false := by unfold fzB; rw [difB_false hd]; rfl
    have := specFarthest_no A c l w (difB l) rfl (Or.inl (difB_false hd)) hn hcap hc2 hR
    unfold fzS fzV
    rw [hB]
    exact this
theorem implFarthest_no (A : Option Addr) (c : Nat) (l : List (Int × Int)) (w : World) (b : Bool) (hb0 : difB l = b) (hno : b = false ∨ l.length < 2) (hn : l.length ≤ 1048576) (hcap : l.length ≤ c) (hc2 : c ≤ 9223372036854775807) (hR : Rd w w.heap.size A l) :
    Calls Try.prog 18 #[.slice A l.length c] w fun e w' => e = .returned (.tuple #[.agg #[.int .i64 0, .int .i64 0], .agg #[.int .i64 0, .int .i64 0], .int .i64 0, .bool false]) ∧ Below w.heap.size w w' := by
  have K := Lib.hid (fun W (hb : Below w.heap.size w W) => implAreDifferent_any A c l W hn hcap hc2 (rd_more (rd_below hR hb (Nat.le_refl _)) hb.size))
  rw [hb0] at K
  clear hR hb0
  generalize l.length = n at *
  cases b
  all_goals
    first | (exfalso; simp at hno; done) | skip
    try (have hlt2 : ((n : Int) < 2) := by (simp at hno; omega))
    clear hno
    go_enter Try.func18, Try.ntmps18
    go_wp2_with fail
    obtain ⟨W0, hW0⟩ : ∃ W0, W0 = ((w.alloc (.cells #[.int .i64 0, .int .i64 0] 25)).alloc (.cells #[.int .i64 0, .int .i64 0] 25)) := ⟨_, rfl⟩
    rw [← hW0]
    have yW00_0 : W0.cell? ⟨w.heap.size, 0, none⟩ = some (.int .i64 0) := by rw [hW0]; go_simp
    have yW00_1 : W0.cell? ⟨w.heap.size, 1, none⟩ = some (.int .i64 0) := by rw [hW0]; go_simp
    have fW00 : ∀ o, W0.frozen? ⟨w.heap.size, o, none⟩ = false := by intro o; rw [hW0]; (repeat rw [frozen?_alloc_cells]); simp [World.frozen?]
    have zW00 : w.heap.size < W0.heap.size := by rw [hW0]; simp <;> omega
    have yW01_0 : W0.cell? ⟨w.heap.size + 1, 0, none⟩ = some (.int .i64 0) := by rw [hW0]; go_simp
    have yW01_1 : W0.cell? ⟨w.heap.size + 1, 1, none⟩ = some (.int .i64 0) := by rw [hW0]; go_simp
    have fW01 : ∀ o, W0.frozen? ⟨w.heap.size + 1, o, none⟩ = false := by intro o; rw [hW0]; (repeat rw [frozen?_alloc_cells]); simp [World.frozen?]
    have zW01 : w.heap.size + 1 < W0.heap.size := by rw [hW0]; simp <;> omega
    have BW0 : Below w.heap.size w W0 := by rw [hW0]; exact (Below.alloc (Below.alloc (Below.refl _ _) (by simp <;> omega) _) (by simp <;> omega) _)
    have eW0 : Hid (W0.heap.size = w.heap.size + 2) := Lib.hid (by rw [hW0]; simp)
    clear hW0
    refine (K.out W0 BW0).mono ?_; rintro e w1 ⟨rfl, hb1⟩
    have B1 := BW0.trans (hb1.mono BW0.size)
    obtain ⟨hc1, hf1⟩ := bcell hb1
    have x1 := (hc1 _ 0 zW00).trans yW00_0
    have x2 := (hc1 _ 1 zW00).trans yW00_1
    have x3 := (hc1 _ 0 zW01).trans yW01_0
    have x4 := (hc1 _ 1 zW01).trans yW01_1
    have g1 := (hf1 _ 0 zW00).trans (fW00 0)
    have g2 := (hf1 _ 1 zW00).trans (fW00 1)
    have g3 := (hf1 _ 0 zW01).trans (fW01 0)
    have g4 := (hf1 _ 1 zW01).trans (fW01 1)
    have zr1 : w.heap.size + 1 < w1.heap.size := Nat.lt_of_lt_of_le zW01 hb1.size
    have zr0 : w.heap.size < w1.heap.size := by omega
    clear hc1 hf1 hb1 yW00_0 yW00_1 yW01_0 yW01_1 fW00 fW01 zW00 zW01 eW0 BW0 K
    go_wp2_with fail
    refine bodyPost_ret (v := .tuple #[.agg #[.int .i64 0, .int .i64 0], .agg #[.int .i64 0, .int .i64 0], .int .i64 0, .bool false]) (by simp [results, Try.results18, go_sem, zr0, zr1, x1, x2, x3, x4]) rfl ⟨rfl, ?_⟩
    repeat (first | with_reducible assumption | with_reducible exact Below.refl _ _ | with_reducible apply Below.drew | ((with_reducible refine Below.setCell ?_ ?_ _); rotate_left; (first | exact Nat.le_refl _ | omega | (simp <;> omega))) | ((with_reducible refine Below.alloc ?_ ?_ _); rotate_left; (first | omega | (simp <;> omega))))
theorem implFarthestApart_any (A : Option Addr) (c : Nat) (l : List (Int × Int)) (w : World) (hn : l.length ≤ 1048576) (hcap : l.length ≤ c) (hc2 : c ≤ 9223372036854775807) (hR : Rd w w.heap.size A l) :
    Calls Try.prog 18 #[.slice A l.length c] w fun e w' => e = .returned (.tuple #[.agg #[.int .i64 (fzS l 0), .int .i64 (fzS l 1)], .agg #[.int .i64 (fzS l 2), .int .i64 (fzS l 3)], .int .i64 (fzS l 4), .bool (fzB l)]) ∧ Below w.heap.size w w' := by
  by_cases hd : Dif l
  · by_cases h2 : 2 ≤ l.length
    · have hB : fzB l = true := by unfold fzB; rw [difB_true hd]; simpa using h2
      have := implFarthest_yes A c l w hn hcap hc2 hd h2 hR
      unfold fzS fzV
      rw [hB]
      exact this
    · have hB : fzB l = false := by unfold fzB; rw [difB_true hd]; simpa using h2
      have := implFarthest_no A c l w (difB l) rfl (Or.inr (by omega)) hn hcap hc2 hR
      unfold fzS fzV
      rw [hB]
      exact this
  · have hB : fzB l = false := by unfold fzB; rw [difB_false hd]; rfl
    have := implFarthest_no A c l w (difB l) rfl (Or.inl (difB_false hd)) hn hcap hc2 hR
    unfold fzS fzV
    rw [hB]
    exact this
end Go.Proofs.Ytakccbbdfcnjeaa
