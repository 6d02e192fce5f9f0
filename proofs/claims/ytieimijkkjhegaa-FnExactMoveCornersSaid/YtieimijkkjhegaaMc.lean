/- contracts: what is a move, the program -/
import Derived.Test.YtieimijkkjhegaaMb
namespace Go.Proofs.Ytieimijkkjhegaa
open Go.ChangeShapes Go.WideShapes Go.ChangeAt Go.RowKit Go.Joins
set_option linter.unusedVariables false
set_option linter.unusedSimpArgs false
set_option maxRecDepth 4000
def clip (m v : Int) : Int := min (max v (-m)) m
theorem minIf (x y : Int) : (if y < x then y else x) = min x y := by omega
theorem maxIf (x y : Int) : (if x < y then y else x) = max x y := by omega
def cl (k j : Nat) (m v : Int) : Int := if j < k then clip m v else v
theorem at6_set0 {w : World} {g : Nat} {a b c d x y : Int} (h : At6 w g a b c d x y) (v : Int) : At6 (w.setCell ⟨g, 0, none⟩ (.int .i64 v)) g v b c d x y := by
  obtain ⟨h0, h1, h2, h3, h4, h5, h6⟩ := h
  refine ⟨by simpa [World.setCell] using h0, ?_, ?_, ?_, ?_, ?_, ?_⟩
  · exact World.cell?_setCell_same w _ _ h1
  · rw [World.cell?_setCell_other w _ _ _ (fun e => by injection e with e1 e2; cases e2)]; exact h2
  · rw [World.cell?_setCell_other w _ _ _ (fun e => by injection e with e1 e2; cases e2)]; exact h3
  · rw [World.cell?_setCell_other w _ _ _ (fun e => by injection e with e1 e2; cases e2)]; exact h4
  · rw [World.cell?_setCell_other w _ _ _ (fun e => by injection e with e1 e2; cases e2)]; exact h5
  · rw [World.cell?_setCell_other w _ _ _ (fun e => by injection e with e1 e2; cases e2)]; exact h6
theorem at6_set1 {w : World} {g : Nat} {a b c d x y : Int} (h : At6 w g a b c d x y) (v : Int) : At6 (w.setCell ⟨g, 1, none⟩ (.int .i64 v)) g a v c d x y := by
  obtain ⟨h0, h1, h2, h3, h4, h5, h6⟩ := h
  refine ⟨by simpa [World.setCell] using h0, ?_, ?_, ?_, ?_, ?_, ?_⟩
  · rw [World.cell?_setCell_other w _ _ _ (fun e => by injection e with e1 e2; cases e2)]; exact h1
  · exact World.cell?_setCell_same w _ _ h2
  · rw [World.cell?_setCell_other w _ _ _ (fun e => by injection e with e1 e2; cases e2)]; exact h3
  · rw [World.cell?_setCell_other w _ _ _ (fun e => by injection e with e1 e2; cases e2)]; exact h4
  · rw [World.cell?_setCell_other w _ _ _ (fun e => by injection e with e1 e2; cases e2)]; exact h5
  · rw [World.cell?_setCell_other w _ _ _ (fun e => by injection e with e1 e2; cases e2)]; exact h6
theorem at6_set2 {w : World} {g : Nat} {a b c d x y : Int} (h : At6 w g a b c d x y) (v : Int) : At6 (w.setCell ⟨g, 2, none⟩ (.int .i64 v)) g a b v d x y := by
  obtain ⟨h0, h1, h2, h3, h4, h5, h6⟩ := h
  refine ⟨by simpa [World.setCell] using h0, ?_, ?_, ?_, ?_, ?_, ?_⟩
  · rw [World.cell?_setCell_other w _ _ _ (fun e => by injection e with e1 e2; cases e2)]; exact h1
  · rw [World.cell?_setCell_other w _ _ _ (fun e => by injection e with e1 e2; cases e2)]; exact h2
  · exact World.cell?_setCell_same w _ _ h3
  · rw [World.cell?_setCell_other w _ _ _ (fun e => by injection e with e1 e2; cases e2)]; exact h4
  · rw [World.cell?_setCell_other w _ _ _ (fun e => by injection e with e1 e2; cases e2)]; exact h5
  · rw [World.cell?_setCell_other w _ _ _ (fun e => by injection e with e1 e2; cases e2)]; exact h6
theorem at6_set3 {w : World} {g : Nat} {a b c d x y : Int} (h : At6 w g a b c d x y) (v : Int) : At6 (w.setCell ⟨g, 3, none⟩ (.int .i64 v)) g a b c v x y := by
  obtain ⟨h0, h1, h2, h3, h4, h5, h6⟩ := h
  refine ⟨by simpa [World.setCell] using h0, ?_, ?_, ?_, ?_, ?_, ?_⟩
  · rw [World.cell?_setCell_other w _ _ _ (fun e => by injection e with e1 e2; cases e2)]; exact h1
  · rw [World.cell?_setCell_other w _ _ _ (fun e => by injection e with e1 e2; cases e2)]; exact h2
  · rw [World.cell?_setCell_other w _ _ _ (fun e => by injection e with e1 e2; cases e2)]; exact h3
  · exact World.cell?_setCell_same w _ _ h4
  · rw [World.cell?_setCell_other w _ _ _ (fun e => by injection e with e1 e2; cases e2)]; exact h5
  · rw [World.cell?_setCell_other w _ _ _ (fun e => by injection e with e1 e2; cases e2)]; exact h6
theorem at6_set4 {w : World} {g : Nat} {a b c d x y : Int} (h : At6 w g a b c d x y) (v : Int) : At6 (w.setCell ⟨g, 4, none⟩ (.int .i64 v)) g a b c d v y := by
  obtain ⟨h0, h1, h2, h3, h4, h5, h6⟩ := h
  refine ⟨by simpa [World.setCell] using h0, ?_, ?_, ?_, ?_, ?_, ?_⟩
  · rw [World.cell?_setCell_other w _ _ _ (fun e => by injection e with e1 e2; cases e2)]; exact h1
  · rw [World.cell?_setCell_other w _ _ _ (fun e => by injection e with e1 e2; cases e2)]; exact h2
  · rw [World.cell?_setCell_other w _ _ _ (fun e => by injection e with e1 e2; cases e2)]; exact h3
  · rw [World.cell?_setCell_other w _ _ _ (fun e => by injection e with e1 e2; cases e2)]; exact h4
  · exact World.cell?_setCell_same w _ _ h5
  · rw [World.cell?_setCell_other w _ _ _ (fun e => by injection e with e1 e2; cases e2)]; exact h6
theorem at6_set5 {w : World} {g : Nat} {a b c d x y : Int} (h : At6 w g a b c d x y) (v : Int) : At6 (w.setCell ⟨g, 5, none⟩ (.int .i64 v)) g a b c d x v := by
  obtain ⟨h0, h1, h2, h3, h4, h5, h6⟩ := h
  refine ⟨by simpa [World.setCell] using h0, ?_, ?_, ?_, ?_, ?_, ?_⟩
  · rw [World.cell?_setCell_other w _ _ _ (fun e => by injection e with e1 e2; cases e2)]; exact h1
  · rw [World.cell?_setCell_other w _ _ _ (fun e => by injection e with e1 e2; cases e2)]; exact h2
  · rw [World.cell?_setCell_other w _ _ _ (fun e => by injection e with e1 e2; cases e2)]; exact h3
  · rw [World.cell?_setCell_other w _ _ _ (fun e => by injection e with e1 e2; cases e2)]; exact h4
  · rw [World.cell?_setCell_other w _ _ _ (fun e => by injection e with e1 e2; cases e2)]; exact h5
  · exact World.cell?_setCell_same w _ _ h6
theorem at6_other {w : World} {g h : Nat} {a b c d x y : Int} (hh : At6 w g a b c d x y) (hn : g ≠ h) (o : Nat) (v : Value) : At6 (w.setCell ⟨h, o, none⟩ v) g a b c d x y := by
  obtain ⟨h0, h1, h2, h3, h4, h5, h6⟩ := hh
  have k : ∀ q, (w.setCell ⟨h, o, none⟩ v).cell? ⟨g, q, none⟩ = w.cell? ⟨g, q, none⟩ := fun q => World.cell?_setCell_other w _ _ _ (fun e => hn (by injection e with e1; exact e1.symm))
  exact ⟨by simpa [World.setCell] using h0, (k _).trans h1, (k _).trans h2, (k _).trans h3, (k _).trans h4, (k _).trans h5, (k _).trans h6⟩
theorem whole_any (a b c d x y : Int) (w : World) :
    Calls Try.prog 72 #[.agg #[.int .i64 a, .int .i64 b, .int .i64 c, .int .i64 d, .int .i64 x, .int .i64 y]] w fun e w' => e = .returned (.agg #[.int .i64 a, .int .i64 b, .int .i64 c, .int .i64 d, .int .i64 x, .int .i64 y]) ∧ Below w.heap.size w w' := by
  go_enter Try.func72, Try.ntmps72
  go_wp2
  exact bodyPost_ret (v := .agg #[.int .i64 a, .int .i64 b, .int .i64 c, .int .i64 d, .int .i64 x, .int .i64 y]) (by simp [results, Try.results72, go_sem]) rfl ⟨rfl, (by repeat (first | exact Below.refl _ _ | assumption | apply Below.drew | refine Below.alloc ?_ (by simp <;> omega) _))⟩
theorem side_any (a b c d x y : Int) (w : World) (ha : -10000000 ≤ a ∧ a ≤ 10000000) (hb : -10000000 ≤ b ∧ b ≤ 10000000) (hc : -10000000 ≤ c ∧ c ≤ 10000000) (hd : -10000000 ≤ d ∧ d ≤ 10000000) :
    Calls Try.prog 108 #[.agg #[.int .i64 a, .int .i64 b, .int .i64 c, .int .i64 d, .int .i64 x, .int .i64 y]] w fun e w' => e = .returned (.int .i64 (a * d - b * c)) ∧ Below w.heap.size w w' := by
  obtain ⟨u1, u2⟩ := mul_bd (x := a) (y := d) (m := 10000000) (n := 10000000) ha.1 ha.2 hd.1 hd.2
  obtain ⟨u3, u4⟩ := mul_bd (x := b) (y := c) (m := 10000000) (n := 10000000) hb.1 hb.2 hc.1 hc.2
  clear ha hb hc hd
  go_enter Try.func108, Try.ntmps108
  go_wp2
  go_ret
  exact ⟨rfl, (by repeat (first | exact Below.refl _ _ | assumption | apply Below.drew | refine Below.alloc ?_ (by simp <;> omega) _))⟩
theorem limit0 (W : World) : (Instr.index 89 (.agg #[.int .i64 20, .int .i64 20, .int .i64 20, .int .i64 20, .int .i64 80, .int .i64 80]) (.int .i64 0)).run Try.prog W = .ok (.int .i64 20) W := by
  first | rfl | kernel_rfl
theorem limit1 (W : World) : (Instr.index 89 (.agg #[.int .i64 20, .int .i64 20, .int .i64 20, .int .i64 20, .int .i64 80, .int .i64 80]) (.int .i64 1)).run Try.prog W = .ok (.int .i64 20) W := by
  first | rfl | kernel_rfl
theorem limit2 (W : World) : (Instr.index 89 (.agg #[.int .i64 20, .int .i64 20, .int .i64 20, .int .i64 20, .int .i64 80, .int .i64 80]) (.int .i64 2)).run Try.prog W = .ok (.int .i64 20) W := by
  first | rfl | kernel_rfl
theorem limit3 (W : World) : (Instr.index 89 (.agg #[.int .i64 20, .int .i64 20, .int .i64 20, .int .i64 20, .int .i64 80, .int .i64 80]) (.int .i64 3)).run Try.prog W = .ok (.int .i64 20) W := by
  first | rfl | kernel_rfl
theorem limit4 (W : World) : (Instr.index 89 (.agg #[.int .i64 20, .int .i64 20, .int .i64 20, .int .i64 20, .int .i64 80, .int .i64 80]) (.int .i64 4)).run Try.prog W = .ok (.int .i64 80) W := by
  first | rfl | kernel_rfl
theorem limit5 (W : World) : (Instr.index 89 (.agg #[.int .i64 20, .int .i64 20, .int .i64 20, .int .i64 20, .int .i64 80, .int .i64 80]) (.int .i64 5)).run Try.prog W = .ok (.int .i64 80) W := by
  first | rfl | kernel_rfl
def Clst (wr : World) (g k : Nat) (a b c d x y : Int) : Prop := At6 wr g (cl k 0 20 a) (cl k 1 20 b) (cl k 2 20 c) (cl k 3 20 d) (cl k 4 80 x) (cl k 5 80 y) ∧ At6 wr (g + 1) 0 0 0 0 0 0 ∧ (∀ o, wr.frozen? ⟨g, o, none⟩ = false) ∧ (∀ o, wr.frozen? ⟨g + 1, o, none⟩ = false)
theorem clst0 {w : World} {g : Nat} {a b c d x y : Int} (h : Clst w g 0 a b c d x y) : Clst (w.setCell ⟨g, 0, none⟩ (.int .i64 (clip 20 a))) g 1 a b c d x y := by
  obtain ⟨h1, h2, h3, h4⟩ := h
  exact ⟨at6_set0 h1 _, at6_other h2 (by omega) _ _, fun o => by rw [World.frozen?_setCell]; exact h3 o, fun o => by rw [World.frozen?_setCell]; exact h4 o⟩
theorem clst1 {w : World} {g : Nat} {a b c d x y : Int} (h : Clst w g 1 a b c d x y) : Clst (w.setCell ⟨g, 1, none⟩ (.int .i64 (clip 20 b))) g 2 a b c d x y := by
  obtain ⟨h1, h2, h3, h4⟩ := h
  exact ⟨at6_set1 h1 _, at6_other h2 (by omega) _ _, fun o => by rw [World.frozen?_setCell]; exact h3 o, fun o => by rw [World.frozen?_setCell]; exact h4 o⟩
theorem clst2 {w : World} {g : Nat} {a b c d x y : Int} (h : Clst w g 2 a b c d x y) : Clst (w.setCell ⟨g, 2, none⟩ (.int .i64 (clip 20 c))) g 3 a b c d x y := by
  obtain ⟨h1, h2, h3, h4⟩ := h
  exact ⟨at6_set2 h1 _, at6_other h2 (by omega) _ _, fun o => by rw [World.frozen?_setCell]; exact h3 o, fun o => by rw [World.frozen?_setCell]; exact h4 o⟩
theorem clst3 {w : World} {g : Nat} {a b c d x y : Int} (h : Clst w g 3 a b c d x y) : Clst (w.setCell ⟨g, 3, none⟩ (.int .i64 (clip 20 d))) g 4 a b c d x y := by
  obtain ⟨h1, h2, h3, h4⟩ := h
  exact ⟨at6_set3 h1 _, at6_other h2 (by omega) _ _, fun o => by rw [World.frozen?_setCell]; exact h3 o, fun o => by rw [World.frozen?_setCell]; exact h4 o⟩
theorem clst4 {w : World} {g : Nat} {a b c d x y : Int} (h : Clst w g 4 a b c d x y) : Clst (w.setCell ⟨g, 4, none⟩ (.int .i64 (clip 80 x))) g 5 a b c d x y := by
  obtain ⟨h1, h2, h3, h4⟩ := h
  exact ⟨at6_set4 h1 _, at6_other h2 (by omega) _ _, fun o => by rw [World.frozen?_setCell]; exact h3 o, fun o => by rw [World.frozen?_setCell]; exact h4 o⟩
theorem clst5 {w : World} {g : Nat} {a b c d x y : Int} (h : Clst w g 5 a b c d x y) : Clst (w.setCell ⟨g, 5, none⟩ (.int .i64 (clip 80 y))) g 6 a b c d x y := by
  obtain ⟨h1, h2, h3, h4⟩ := h
  exact ⟨at6_set5 h1 _, at6_other h2 (by omega) _ _, fun o => by rw [World.frozen?_setCell]; exact h3 o, fun o => by rw [World.frozen?_setCell]; exact h4 o⟩
set_option maxHeartbeats 2000000 in
theorem clipped_any (a b c d x y : Int) (w : World) :
    Calls Try.prog 107 #[.agg #[.int .i64 a, .int .i64 b, .int .i64 c, .int .i64 d, .int .i64 x, .int .i64 y]] w fun e w' => e = .returned (.agg #[.int .i64 (clip 20 a), .int .i64 (clip 20 b), .int .i64 (clip 20 c), .int .i64 (clip 20 d), .int .i64 (clip 80 x), .int .i64 (clip 80 y)]) ∧ Below w.heap.size w w' := by
  have mn := minIf
  have mx := maxIf
  have HN := Lib.hid (And.intro mn mx)
  clear mn mx
  go_enter Try.func107, Try.ntmps107
  go_wp2_with fail
  obtain ⟨W0, hW0⟩ : ∃ W0, W0 = (((w.alloc (.cells #[.int .i64 a, .int .i64 b, .int .i64 c, .int .i64 d, .int .i64 x, .int .i64 y] 89)).alloc (.cells #[.int .i64 0, .int .i64 0, .int .i64 0, .int .i64 0, .int .i64 0, .int .i64 0] 89)).alloc (.cells #[.int .i64 20, .int .i64 20, .int .i64 20, .int .i64 20, .int .i64 80, .int .i64 80] 89)) := ⟨_, rfl⟩
  rw [← hW0]
  have yW00_0 : W0.cell? ⟨w.heap.size, 0, none⟩ = some (.int .i64 a) := by rw [hW0]; go_simp
  have yW00_1 : W0.cell? ⟨w.heap.size, 1, none⟩ = some (.int .i64 b) := by rw [hW0]; go_simp
  have yW00_2 : W0.cell? ⟨w.heap.size, 2, none⟩ = some (.int .i64 c) := by rw [hW0]; go_simp
  have yW00_3 : W0.cell? ⟨w.heap.size, 3, none⟩ = some (.int .i64 d) := by rw [hW0]; go_simp
  have yW00_4 : W0.cell? ⟨w.heap.size, 4, none⟩ = some (.int .i64 x) := by rw [hW0]; go_simp
  have yW00_5 : W0.cell? ⟨w.heap.size, 5, none⟩ = some (.int .i64 y) := by rw [hW0]; go_simp
  have fW00 : ∀ o, W0.frozen? ⟨w.heap.size, o, none⟩ = false := by intro o; rw [hW0]; (repeat rw [frozen?_alloc_cells]); simp [World.frozen?]
  have zW00 : w.heap.size < W0.heap.size := by rw [hW0]; simp <;> omega
  have yW01_0 : W0.cell? ⟨w.heap.size + 1, 0, none⟩ = some (.int .i64 0) := by rw [hW0]; go_simp
  have yW01_1 : W0.cell? ⟨w.heap.size + 1, 1, none⟩ = some (.int .i64 0) := by rw [hW0]; go_simp
  have yW01_2 : W0.cell? ⟨w.heap.size + 1, 2, none⟩ = some (.int .i64 0) := by rw [hW0]; go_simp
  have yW01_3 : W0.cell? ⟨w.heap.size + 1, 3, none⟩ = some (.int .i64 0) := by rw [hW0]; go_simp
  have yW01_4 : W0.cell? ⟨w.heap.size + 1, 4, none⟩ = some (.int .i64 0) := by rw [hW0]; go_simp
  have yW01_5 : W0.cell? ⟨w.heap.size + 1, 5, none⟩ = some (.int .i64 0) := by rw [hW0]; go_simp
  have fW01 : ∀ o, W0.frozen? ⟨w.heap.size + 1, o, none⟩ = false := by intro o; rw [hW0]; (repeat rw [frozen?_alloc_cells]); simp [World.frozen?]
  have zW01 : w.heap.size + 1 < W0.heap.size := by rw [hW0]; simp <;> omega
  have yW02_0 : W0.cell? ⟨w.heap.size + 2, 0, none⟩ = some (.int .i64 20) := by rw [hW0]; go_simp
  have yW02_1 : W0.cell? ⟨w.heap.size + 2, 1, none⟩ = some (.int .i64 20) := by rw [hW0]; go_simp
  have yW02_2 : W0.cell? ⟨w.heap.size + 2, 2, none⟩ = some (.int .i64 20) := by rw [hW0]; go_simp
  have yW02_3 : W0.cell? ⟨w.heap.size + 2, 3, none⟩ = some (.int .i64 20) := by rw [hW0]; go_simp
  have yW02_4 : W0.cell? ⟨w.heap.size + 2, 4, none⟩ = some (.int .i64 80) := by rw [hW0]; go_simp
  have yW02_5 : W0.cell? ⟨w.heap.size + 2, 5, none⟩ = some (.int .i64 80) := by rw [hW0]; go_simp
  have fW02 : ∀ o, W0.frozen? ⟨w.heap.size + 2, o, none⟩ = false := by intro o; rw [hW0]; (repeat rw [frozen?_alloc_cells]); simp [World.frozen?]
  have zW02 : w.heap.size + 2 < W0.heap.size := by rw [hW0]; simp <;> omega
  have BW0 : Below w.heap.size w W0 := by rw [hW0]; exact (Below.alloc (Below.alloc (Below.alloc (Below.refl _ _) (by simp <;> omega) _) (by simp <;> omega) _) (by simp <;> omega) _)
  have eW0 : Hid (W0.heap.size = w.heap.size + 3) := Lib.hid (by rw [hW0]; simp)
  clear hW0
  have Z0 := eW0.out
  have S0 := Lib.hid (show Clst W0 w.heap.size 0 a b c d x y from ⟨⟨zW00, yW00_0, yW00_1, yW00_2, yW00_3, yW00_4, yW00_5⟩, ⟨zW01, yW01_0, yW01_1, yW01_2, yW01_3, yW01_4, yW01_5⟩, fW00, fW01⟩)
  clear yW00_0 yW00_1 yW00_2 yW00_3 yW00_4 yW00_5 yW01_0 yW01_1 yW01_2 yW01_3 yW01_4 yW01_5 fW00 fW01 fW02 zW00 zW01 eW0
  go_wp2_with fail
  clear yW02_0 yW02_1 yW02_2 yW02_3 yW02_4 yW02_5 zW02 Z0
  obtain ⟨g, hg⟩ : ∃ x, x = w.heap.size := ⟨_, rfl⟩
  rw [← hg] at S0 BW0 ⊢
  have HG := Lib.hid hg
  clear hg
  go_loopg [8] 6 (fun gg i wr => ∃ k : Nat, k ≤ 6 ∧ gg = 6 - k ∧ i = .int .i64 k ∧ Below g w wr ∧ Hid (Clst wr g k a b c d x y))
  case atStart => exact ⟨0, Nat.zero_le _, rfl, rfl, BW0, S0⟩
  case round =>
    clear S0 BW0
    obtain ⟨k, hk, hgg, rfl, hB, hS⟩ := hrel
    rename World => wo
    rcases (show k = 0 ∨ k = 1 ∨ k = 2 ∨ k = 3 ∨ k = 4 ∨ k = 5 ∨ k = 6 by omega) with rfl | rfl | rfl | rfl | rfl | rfl | rfl
    · have S2 := Lib.hid (clst0 hS.out)
      obtain ⟨E1, R1, f1, f2⟩ := (show At6 wo g a b c d x y ∧ At6 wo (g + 1) 0 0 0 0 0 0 ∧ (∀ o, wo.frozen? ⟨g, o, none⟩ = false) ∧ (∀ o, wo.frozen? ⟨g + 1, o, none⟩ = false) from hS.out)
      obtain ⟨zg, c0, c1, c2, c3, c4, c5⟩ := E1
      have hc : (min (max a (-20)) 20) = clip 20 a := rfl
      have f1k := f1 0
      have HB := Lib.hid (hB.setCell (p := ⟨g, 0, none⟩) (Nat.le_refl _) (.int .i64 (clip 20 a)))
      have IX := limit0
      have mn := HN.out.1
      have mx := HN.out.2
      clear R1 f1 f2 hS
      go_wp2_with fail
      go_roundg (6 - (0 + 1))
      case measure => omega
      case rel => exact ⟨0 + 1, by omega, rfl, by go_num, HB.out, S2⟩
    · have S2 := Lib.hid (clst1 hS.out)
      obtain ⟨E1, R1, f1, f2⟩ := (show At6 wo g (clip 20 a) b c d x y ∧ At6 wo (g + 1) 0 0 0 0 0 0 ∧ (∀ o, wo.frozen? ⟨g, o, none⟩ = false) ∧ (∀ o, wo.frozen? ⟨g + 1, o, none⟩ = false) from hS.out)
      obtain ⟨zg, c0, c1, c2, c3, c4, c5⟩ := E1
      have hc : (min (max b (-20)) 20) = clip 20 b := rfl
      have f1k := f1 1
      have HB := Lib.hid (hB.setCell (p := ⟨g, 1, none⟩) (Nat.le_refl _) (.int .i64 (clip 20 b)))
      have IX := limit1
      have mn := HN.out.1
      have mx := HN.out.2
      clear R1 f1 f2 hS
      go_wp2_with fail
      go_roundg (6 - (1 + 1))
      case measure => omega
      case rel => exact ⟨1 + 1, by omega, rfl, by go_num, HB.out, S2⟩
    · have S2 := Lib.hid (clst2 hS.out)
      obtain ⟨E1, R1, f1, f2⟩ := (show At6 wo g (clip 20 a) (clip 20 b) c d x y ∧ At6 wo (g + 1) 0 0 0 0 0 0 ∧ (∀ o, wo.frozen? ⟨g, o, none⟩ = false) ∧ (∀ o, wo.frozen? ⟨g + 1, o, none⟩ = false) from hS.out)
      obtain ⟨zg, c0, c1, c2, c3, c4, c5⟩ := E1
      have hc : (min (max c (-20)) 20) = clip 20 c := rfl
      have f1k := f1 2
      have HB := Lib.hid (hB.setCell (p := ⟨g, 2, none⟩) (Nat.le_refl _) (.int .i64 (clip 20 c)))
      have IX := limit2
      have mn := HN.out.1
      have mx := HN.out.2
      clear R1 f1 f2 hS
      go_wp2_with fail
      go_roundg (6 - (2 + 1))
      case measure => omega
      case rel => exact ⟨2 + 1, by omega, rfl, by go_num, HB.out, S2⟩
    · have S2 := Lib.hid (clst3 hS.out)
      obtain ⟨E1, R1, f1, f2⟩ := (show At6 wo g (clip 20 a) (clip 20 b) (clip 20 c) d x y ∧ At6 wo (g + 1) 0 0 0 0 0 0 ∧ (∀ o, wo.frozen? ⟨g, o, none⟩ = false) ∧ (∀ o, wo.frozen? ⟨g + 1, o, none⟩ = false) from hS.out)
      obtain ⟨zg, c0, c1, c2, c3, c4, c5⟩ := E1
      have hc : (min (max d (-20)) 20) = clip 20 d := rfl
      have f1k := f1 3
      have HB := Lib.hid (hB.setCell (p := ⟨g, 3, none⟩) (Nat.le_refl _) (.int .i64 (clip 20 d)))
      have IX := limit3
      have mn := HN.out.1
      have mx := HN.out.2
      clear R1 f1 f2 hS
      go_wp2_with fail
      go_roundg (6 - (3 + 1))
      case measure => omega
      case rel => exact ⟨3 + 1, by omega, rfl, by go_num, HB.out, S2⟩
    · have S2 := Lib.hid (clst4 hS.out)
      obtain ⟨E1, R1, f1, f2⟩ := (show At6 wo g (clip 20 a) (clip 20 b) (clip 20 c) (clip 20 d) x y ∧ At6 wo (g + 1) 0 0 0 0 0 0 ∧ (∀ o, wo.frozen? ⟨g, o, none⟩ = false) ∧ (∀ o, wo.frozen? ⟨g + 1, o, none⟩ = false) from hS.out)
      obtain ⟨zg, c0, c1, c2, c3, c4, c5⟩ := E1
      have hc : (min (max x (-80)) 80) = clip 80 x := rfl
      have f1k := f1 4
      have HB := Lib.hid (hB.setCell (p := ⟨g, 4, none⟩) (Nat.le_refl _) (.int .i64 (clip 80 x)))
      have IX := limit4
      have mn := HN.out.1
      have mx := HN.out.2
      clear R1 f1 f2 hS
      go_wp2_with fail
      go_roundg (6 - (4 + 1))
      case measure => omega
      case rel => exact ⟨4 + 1, by omega, rfl, by go_num, HB.out, S2⟩
    · have S2 := Lib.hid (clst5 hS.out)
      obtain ⟨E1, R1, f1, f2⟩ := (show At6 wo g (clip 20 a) (clip 20 b) (clip 20 c) (clip 20 d) (clip 80 x) y ∧ At6 wo (g + 1) 0 0 0 0 0 0 ∧ (∀ o, wo.frozen? ⟨g, o, none⟩ = false) ∧ (∀ o, wo.frozen? ⟨g + 1, o, none⟩ = false) from hS.out)
      obtain ⟨zg, c0, c1, c2, c3, c4, c5⟩ := E1
      have hc : (min (max y (-80)) 80) = clip 80 y := rfl
      have f1k := f1 5
      have HB := Lib.hid (hB.setCell (p := ⟨g, 5, none⟩) (Nat.le_refl _) (.int .i64 (clip 80 y)))
      have IX := limit5
      have mn := HN.out.1
      have mx := HN.out.2
      clear R1 f1 f2 hS
      go_wp2_with fail
      go_roundg (6 - (5 + 1))
      case measure => omega
      case rel => exact ⟨5 + 1, by omega, rfl, by go_num, HB.out, S2⟩
    · obtain ⟨E1, R1, f1, f2⟩ := (show At6 wo g (clip 20 a) (clip 20 b) (clip 20 c) (clip 20 d) (clip 80 x) (clip 80 y) ∧ At6 wo (g + 1) 0 0 0 0 0 0 ∧ (∀ o, wo.frozen? ⟨g, o, none⟩ = false) ∧ (∀ o, wo.frozen? ⟨g + 1, o, none⟩ = false) from hS.out)
      obtain ⟨zg, c0, c1, c2, c3, c4, c5⟩ := E1
      obtain ⟨zh, r0, r1, r2, r3, r4, r5⟩ := R1
      have R7 := at6_set5 (at6_set4 (at6_set3 (at6_set2 (at6_set1 (at6_set0 (show At6 wo (g + 1) 0 0 0 0 0 0 from ⟨zh, r0, r1, r2, r3, r4, r5⟩) (clip 20 a)) (clip 20 b)) (clip 20 c)) (clip 20 d)) (clip 80 x)) (clip 80 y)
      clear f1 hS
      have B7 := Lib.hid (((((((hB.setCell (p := ⟨g + 1, 0, none⟩) (Nat.le_succ _) (.int .i64 (clip 20 a))).setCell (p := ⟨g + 1, 1, none⟩) (Nat.le_succ _) (.int .i64 (clip 20 b))).setCell (p := ⟨g + 1, 2, none⟩) (Nat.le_succ _) (.int .i64 (clip 20 c))).setCell (p := ⟨g + 1, 3, none⟩) (Nat.le_succ _) (.int .i64 (clip 20 d))).setCell (p := ⟨g + 1, 4, none⟩) (Nat.le_succ _) (.int .i64 (clip 80 x))).setCell (p := ⟨g + 1, 5, none⟩) (Nat.le_succ _) (.int .i64 (clip 80 y))))
      have R8 := Lib.hid R7
      clear R7
      go_wp2_with fail
      have R7 := R8.out
      have B8 := B7.out
      clear R8 B7 r0 r1 r2 r3 r4 r5 c0 c1 c2 c3 c4 c5 hB f2
      revert R7 B8
      generalize ((((((wo.setCell ⟨g + 1, 0, none⟩ (.int .i64 (clip 20 a))).setCell ⟨g + 1, 1, none⟩ (.int .i64 (clip 20 b))).setCell ⟨g + 1, 2, none⟩ (.int .i64 (clip 20 c))).setCell ⟨g + 1, 3, none⟩ (.int .i64 (clip 20 d))).setCell ⟨g + 1, 4, none⟩ (.int .i64 (clip 80 x))).setCell ⟨g + 1, 5, none⟩ (.int .i64 (clip 80 y))) = W9
      intro R7 B8
      obtain ⟨zz, s0, s1, s2, s3, s4, s5⟩ := R7
      rw [HG.out] at B8
      exact bodyPost_ret (v := .agg #[.int .i64 (clip 20 a), .int .i64 (clip 20 b), .int .i64 (clip 20 c), .int .i64 (clip 20 d), .int .i64 (clip 80 x), .int .i64 (clip 80 y)]) (by simp [results, Try.results107, go_sem, s0, s1, s2, s3, s4, s5]) rfl ⟨rfl, B8⟩
end Go.Proofs.Ytieimijkkjhegaa
