/- joined: Mc Me0 Md Mf Mg Mh0 Wq4 Wq5 Lc Ld -/
import Derived.Test.YtheddoinnakneaaZFlatPolygon8
import Derived.DeepKeys
import Derived.BigRegion
/- contracts: what is a move, the program -/
namespace Go.Proofs.Ytheddoinnakneaa
open Go.ChangeShapes Go.WideShapes Go.ChangeAt Go.RowKit Go.Joins
set_option linter.unusedVariables false
set_option linter.unusedSimpArgs false
set_option maxRecDepth 4000
def clip (m v : Int) : Int := min (max v (-m)) m
theorem minIf (x y : Int) : (if y < x then y else x) = min x y := by omega
theorem maxIf (x y : Int) : (if x < y then y else x) = max x y := by omega
def cl (k j : Nat) (m v : Int) : Int := if j < k then clip m v else v
theorem at6_set0 {w : World} {g : Nat} {a b c d x y : Int} (h : At6 w g a b c d x y) (v : Int) : At6 (w.setCell ⟨g, 0, none⟩ (.int .i64 v)) g v b c d x y := by
  obtain ⟨h0, h1, h2, h3, h4, h5, h6⟩ := h
  refine ⟨by simpa [World.setCell] using h0, ?_, ?_, ?_, ?_, ?_, ?_⟩
  · exact World.cell?_setCell_same w _ _ h1
  · rw [World.cell?_setCell_other w _ _ _ (fun e => by injection e with e1 e2; cases e2)]; exact h2
  · rw [World.cell?_setCell_other w _ _ _ (fun e => by injection e with e1 e2; cases e2)]; exact h3
  · rw [World.cell?_setCell_other w _ _ _ (fun e => by injection e with e1 e2; cases e2)]; exact h4
  · rw [World.cell?_setCell_other w _ _ _ (fun e => by injection e with e1 e2; cases e2)]; exact h5
  · rw [World.cell?_setCell_other w _ _ _ (fun e => by injection e with e1 e2; cases e2)]; exact h6
theorem at6_set1 {w : World} {g : Nat} {a b c d x y : Int} (h : At6 w g a b c d x y) (v : Int) : At6 (w.setCell ⟨g, 1, none⟩ (.int .i64 v)) g a v c d x y := by
  obtain ⟨h0, h1, h2, h3, h4, h5, h6⟩ := h
  refine ⟨by simpa [World.setCell] using h0, ?_, ?_, ?_, ?_, ?_, ?_⟩
  · rw [World.cell?_setCell_other w _ _ _ (fun e => by injection e with e1 e2; cases e2)]; exact h1
  · exact World.cell?_setCell_same w _ _ h2
  · rw [World.cell?_setCell_other w _ _ _ (fun e => by injection e with e1 e2; cases e2)]; exact h3
  · rw [World.cell?_setCell_other w _ _ _ (fun e => by injection e with e1 e2; cases e2)]; exact h4
  · rw [World.cell?_setCell_other w _ _ _ (fun e => by injection e with e1 e2; cases e2)]; exact h5
  · rw [World.cell?_setCell_other w _ _ _ (fun e => by injection e with e1 e2; cases e2)]; exact h6
theorem at6_set2 {w : World} {g : Nat} {a b c d x y : Int} (h : At6 w g a b c d x y) (v : Int) : At6 (w.setCell ⟨g, 2, none⟩ (.int .i64 v)) g a b v d x y := by
  obtain ⟨h0, h1, h2, h3, h4, h5, h6⟩ := h
  refine ⟨by simpa [World.setCell] using h0, ?_, ?_, ?_, ?_, ?_, ?_⟩
  · rw [World.cell?_setCell_other w _ _ _ (fun e => by injection e with e1 e2; cases e2)]; exact h1
  · rw [World.cell?_setCell_other w _ _ _ (fun e => by injection e with e1 e2; cases e2)]; exact h2
  · exact World.cell?_setCell_same w _ _ h3
  · rw [World.cell?_setCell_other w _ _ _ (fun e => by injection e with e1 e2; cases e2)]; exact h4
  · rw [World.cell?_setCell_other w _ _ _ (fun e => by injection e with e1 e2; cases e2)]; exact h5
  · rw [World.cell?_setCell_other w _ _ _ (fun e => by injection e with e1 e2; cases e2)]; exact h6
theorem at6_set3 {w : World} {g : Nat} {a b c d x y : Int} (h : At6 w g a b c d x y) (v : Int) : At6 (w.setCell ⟨g, 3, none⟩ (.int .i64 v)) g a b c v x y := by
  obtain ⟨h0, h1, h2, h3, h4, h5, h6⟩ := h
  refine ⟨by simpa [World.setCell] using h0, ?_, ?_, ?_, ?_, ?_, ?_⟩
  · rw [World.cell?_setCell_other w _ _ _ (fun e => by injection e with e1 e2; cases e2)]; exact h1
  · rw [World.cell?_setCell_other w _ _ _ (fun e => by injection e with e1 e2; cases e2)]; exact h2
  · rw [World.cell?_setCell_other w _ _ _ (fun e => by injection e with e1 e2; cases e2)]; exact h3
  · exact World.cell?_setCell_same w _ _ h4
  · rw [World.cell?_setCell_other w _ _ _ (fun e => by injection e with e1 e2; cases e2)]; exact h5
  · rw [World.cell?_setCell_other w _ _ _ (fun e => by injection e with e1 e2; cases e2)]; exact h6
theorem at6_set4 {w : World} {g : Nat} {a b c d x y : Int} (h : At6 w g a b c d x y) (v : Int) : At6 (w.setCell ⟨g, 4, none⟩ (.int .i64 v)) g a b c d v y := by
  obtain ⟨h0, h1, h2, h3, h4, h5, h6⟩ := h
  refine ⟨by simpa [World.setCell] using h0, ?_, ?_, ?_, ?_, ?_, ?_⟩
  · rw [World.cell?_setCell_other w _ _ _ (fun e => by injection e with e1 e2; cases e2)]; exact h1
  · rw [World.cell?_setCell_other w _ _ _ (fun e => by injection e with e1 e2; cases e2)]; exact h2
  · rw [World.cell?_setCell_other w _ _ _ (fun e => by injection e with e1 e2; cases e2)]; exact h3
  · rw [World.cell?_setCell_other w _ _ _ (fun e => by injection e with e1 e2; cases e2)]; exact h4
  · exact World.cell?_setCell_same w _ _ h5
  · rw [World.cell?_setCell_other w _ _ _ (fun e => by injection e with e1 e2; cases e2)]; exact h6
theorem at6_set5 {w : World} {g : Nat} {a b c d x y : Int} (h : At6 w g a b c d x y) (v : Int) : At6 (w.setCell ⟨g, 5, none⟩ (.int .i64 v)) g a b c d x v := by
  obtain ⟨h0, h1, h2, h3, h4, h5, h6⟩ := h
  refine ⟨by simpa [World.setCell] using h0, ?_, ?_, ?_, ?_, ?_, ?_⟩
  · rw [World.cell?_setCell_other w _ _ _ (fun e => by injection e with e1 e2; cases e2)]; exact h1
  · rw [World.cell?_setCell_other w _ _ _ (fun e => by injection e with e1 e2; cases e2)]; exact h2
  · rw [World.cell?_setCell_other w _ _ _ (fun e => by injection e with e1 e2; cases e2)]; exact h3
  · rw [World.cell?_setCell_other w _ _ _ (fun e => by injection e with e1 e2; cases e2)]; exact h4
  · rw [World.cell?_setCell_other w _ _ _ (fun e => by injection e with e1 e2; cases e2)]; exact h5
  · exact World.cell?_setCell_same w _ _ h6
theorem at6_other {w : World} {g h : Nat} {a b c d x y : Int} (hh : At6 w g a b c d x y) (hn : g ≠ h) (o : Nat) (v : Value) : At6 (w.setCell ⟨h, o, none⟩ v) g a b c d x y := by
  obtain ⟨h0, h1, h2, h3, h4, h5, h6⟩ := hh
  have k : ∀ q, (w.setCell ⟨h, o, none⟩ v).cell? ⟨g, q, none⟩ = w.cell? ⟨g, q, none⟩ := fun q => World.cell?_setCell_other w _ _ _ (fun e => hn (by injection e with e1; exact e1.symm))
  exact ⟨by simpa [World.setCell] using h0, (k _).trans h1, (k _).trans h2, (k _).trans h3, (k _).trans h4, (k _).trans h5, (k _).trans h6⟩
theorem whole_any (a b c d x y : Int) (w : World) :
    Calls Try.prog 107 #[.agg #[.int .i64 a, .int .i64 b, .int .i64 c, .int .i64 d, .int .i64 x, .int .i64 y]] w fun e w' => e = .returned (.agg #[.int .i64 a, .int .i64 b, .int .i64 c, .int .i64 d, .int .i64 x, .int .i64 y]) ∧ Below w.heap.size w w' := by
  go_enter Try.func107, Try.ntmps107
  go_wp2
  exact bodyPost_ret (v := .agg #[.int .i64 a, .int .i64 b, .int .i64 c, .int .i64 d, .int .i64 x, .int .i64 y]) (by simp [results, Try.results107, go_sem]) rfl ⟨rfl, (by repeat (first | exact Below.refl _ _ | assumption | apply Below.drew | refine Below.alloc ?_ (by simp <;> omega) _))⟩
theorem side_any (a b c d x y : Int) (w : World) (ha : -10000000 ≤ a ∧ a ≤ 10000000) (hb : -10000000 ≤ b ∧ b ≤ 10000000) (hc : -10000000 ≤ c ∧ c ≤ 10000000) (hd : -10000000 ≤ d ∧ d ≤ 10000000) :
    Calls Try.prog 136 #[.agg #[.int .i64 a, .int .i64 b, .int .i64 c, .int .i64 d, .int .i64 x, .int .i64 y]] w fun e w' => e = .returned (.int .i64 (a * d - b * c)) ∧ Below w.heap.size w w' := by
  obtain ⟨u1, u2⟩ := mul_bd (x := a) (y := d) (m := 10000000) (n := 10000000) ha.1 ha.2 hd.1 hd.2
  obtain ⟨u3, u4⟩ := mul_bd (x := b) (y := c) (m := 10000000) (n := 10000000) hb.1 hb.2 hc.1 hc.2
  clear ha hb hc hd
  go_enter Try.func136, Try.ntmps136
  go_wp2
  go_ret
  exact ⟨rfl, (by repeat (first | exact Below.refl _ _ | assumption | apply Below.drew | refine Below.alloc ?_ (by simp <;> omega) _))⟩
theorem limit0 (W : World) : (Instr.index 80 (.agg #[.int .i64 20, .int .i64 20, .int .i64 20, .int .i64 20, .int .i64 80, .int .i64 80]) (.int .i64 0)).run Try.prog W = .ok (.int .i64 20) W := by
  first | rfl | kernel_rfl
theorem limit1 (W : World) : (Instr.index 80 (.agg #[.int .i64 20, .int .i64 20, .int .i64 20, .int .i64 20, .int .i64 80, .int .i64 80]) (.int .i64 1)).run Try.prog W = .ok (.int .i64 20) W := by
  first | rfl | kernel_rfl
theorem limit2 (W : World) : (Instr.index 80 (.agg #[.int .i64 20, .int .i64 20, .int .i64 20, .int .i64 20, .int .i64 80, .int .i64 80]) (.int .i64 2)).run Try.prog W = .ok (.int .i64 20) W := by
  first | rfl | kernel_rfl
theorem limit3 (W : World) : (Instr.index 80 (.agg #[.int .i64 20, .int .i64 20, .int .i64 20, .int .i64 20, .int .i64 80, .int .i64 80]) (.int .i64 3)).run Try.prog W = .ok (.int .i64 20) W := by
  first | rfl | kernel_rfl
theorem limit4 (W : World) : (Instr.index 80 (.agg #[.int .i64 20, .int .i64 20, .int .i64 20, .int .i64 20, .int .i64 80, .int .i64 80]) (.int .i64 4)).run Try.prog W = .ok (.int .i64 80) W := by
  first | rfl | kernel_rfl
theorem limit5 (W : World) : (Instr.index 80 (.agg #[.int .i64 20, .int .i64 20, .int .i64 20, .int .i64 20, .int .i64 80, .int .i64 80]) (.int .i64 5)).run Try.prog W = .ok (.int .i64 80) W := by
  first | rfl | kernel_rfl
def Clst (wr : World) (g k : Nat) (a b c d x y : Int) : Prop := At6 wr g (cl k 0 20 a) (cl k 1 20 b) (cl k 2 20 c) (cl k 3 20 d) (cl k 4 80 x) (cl k 5 80 y) ∧ At6 wr (g + 1) 0 0 0 0 0 0 ∧ (∀ o, wr.frozen? ⟨g, o, none⟩ = false) ∧ (∀ o, wr.frozen? ⟨g + 1, o, none⟩ = false)
theorem clst0 {w : World} {g : Nat} {a b c d x y : Int} (h : Clst w g 0 a b c d x y) : Clst (w.setCell ⟨g, 0, none⟩ (.int .i64 (clip 20 a))) g 1 a b c d x y := by
  obtain ⟨h1, h2, h3, h4⟩ := h
  exact ⟨at6_set0 h1 _, at6_other h2 (by omega) _ _, fun o => by rw [World.frozen?_setCell]; exact h3 o, fun o => by rw [World.frozen?_setCell]; exact h4 o⟩
theorem clst1 {w : World} {g : Nat} {a b c d x y : Int} (h : Clst w g 1 a b c d x y) : Clst (w.setCell ⟨g, 1, none⟩ (.int .i64 (clip 20 b))) g 2 a b c d x y := by
  obtain ⟨h1, h2, h3, h4⟩ := h
  exact ⟨at6_set1 h1 _, at6_other h2 (by omega) _ _, fun o => by rw [World.frozen?_setCell]; exact h3 o, fun o => by rw [World.frozen?_setCell]; exact h4 o⟩
theorem clst2 {w : World} {g : Nat} {a b c d x y : Int} (h : Clst w g 2 a b c d x y) : Clst (w.setCell ⟨g, 2, none⟩ (.int .i64 (clip 20 c))) g 3 a b c d x y := by
  obtain ⟨h1, h2, h3, h4⟩ := h
  exact ⟨at6_set2 h1 _, at6_other h2 (by omega) _ _, fun o => by rw [World.frozen?_setCell]; exact h3 o, fun o => by rw [World.frozen?_setCell]; exact h4 o⟩
theorem clst3 {w : World} {g : Nat} {a b c d x y : Int} (h : Clst w g 3 a b c d x y) : Clst (w.setCell ⟨g, 3, none⟩ (.int .i64 (clip 20 d))) g 4 a b c d x y := by
  obtain ⟨h1, h2, h3, h4⟩ := h
  exact ⟨at6_set3 h1 _, at6_other h2 (by omega) _ _, fun o => by rw [World.frozen?_setCell]; exact h3 o, fun o => by rw [World.frozen?_setCell]; exact h4 o⟩
theorem clst4 {w : World} {g : Nat} {a b c d x y : Int} (h : Clst w g 4 a b c d x y) : Clst (w.setCell ⟨g, 4, none⟩ (.int .i64 (clip 80 x))) g 5 a b c d x y := by
  obtain ⟨h1, h2, h3, h4⟩ := h
  exact ⟨at6_set4 h1 _, at6_other h2 (by omega) _ _, fun o => by rw [World.frozen?_setCell]; exact h3 o, fun o => by rw [World.frozen?_setCell]; exact h4 o⟩
theorem clst5 {w : World} {g : Nat} {a b c d x y : Int} (h : Clst w g 5 a b c d x y) : Clst (w.setCell ⟨g, 5, none⟩ (.int .i64 (clip 80 y))) g 6 a b c d x y := by
  obtain ⟨h1, h2, h3, h4⟩ := h
  exact ⟨at6_set5 h1 _, at6_other h2 (by omega) _ _, fun o => by rw [World.frozen?_setCell]; exact h3 o, fun o => by rw [World.frozen?_setCell]; exact h4 o⟩
set_option maxHeartbeats 2000000 in
theorem clipped_any (a b c d x y : Int) (w : World) :
    Calls Try.prog 135 #[.agg #[.int .i64 a, .int .i64 b, .int .i64 c, .int .i64 d, .int .i64 x, .int .i64 y]] w fun e w' => e = .returned (.agg #[.int .i64 (clip 20 a), .int .i64 (clip 20 b), .int .i64 (clip 20 c), .int .i64 (clip 20 d), .int .i64 (clip 80 x), .int .i64 (clip 80 y)]) ∧ Below w.heap.size w w' := by
  have mn := minIf
  have mx := maxIf
  have HN := Lib.hid (And.intro mn mx)
  clear mn mx
  go_enter Try.func135, Try.ntmps135
  go_wp2_with fail
  obtain ⟨W0, hW0⟩ : ∃ W0, W0 = (((w.alloc (.cells #[.int .i64 a, .int .i64 b, .int .i64 c, .int .i64 d, .int .i64 x, .int .i64 y] 80)).alloc (.cells #[.int .i64 0, .int .i64 0, .int .i64 0, .int .i64 0, .int .i64 0, .int .i64 0] 80)).alloc (.cells #[.int .i64 20, .int .i64 20, .int .i64 20, .int .i64 20, .int .i64 80, .int .i64 80] 80)) := ⟨_, rfl⟩
  rw [← hW0]
  have yW00_0 : W0.cell? ⟨w.heap.size, 0, none⟩ = some (.int .i64 a) := by rw [hW0]; go_simp
  have yW00_1 : W0.cell? ⟨w.heap.size, 1, none⟩ = some (.int .i64 b) := by rw [hW0]; go_simp
  have yW00_2 : W0.cell? ⟨w.heap.size, 2, none⟩ = some (.int .i64 c) := by rw [hW0]; go_simp
  have yW00_3 : W0.cell? ⟨w.heap.size, 3, none⟩ = some (.int .i64 d) := by rw [hW0]; go_simp
  have yW00_4 : W0.cell? ⟨w.heap.size, 4, none⟩ = some (.int .i64 x) := by rw [hW0]; go_simp
  have yW00_5 : W0.cell? ⟨w.heap.size, 5, none⟩ = some (.int .i64 y) := by rw [hW0]; go_simp
  have fW00 : ∀ o, W0.frozen? ⟨w.heap.size, o, none⟩ = false := by intro o; rw [hW0]; (repeat rw [frozen?_alloc_cells]); simp [World.frozen?]
  have zW00 : w.heap.size < W0.heap.size := by rw [hW0]; simp <;> omega
  have yW01_0 : W0.cell? ⟨w.heap.size + 1, 0, none⟩ = some (.int .i64 0) := by rw [hW0]; go_simp
  have yW01_1 : W0.cell? ⟨w.heap.size + 1, 1, none⟩ = some (.int .i64 0) := by rw [hW0]; go_simp
  have yW01_2 : W0.cell? ⟨w.heap.size + 1, 2, none⟩ = some (.int .i64 0) := by rw [hW0]; go_simp
  have yW01_3 : W0.cell? ⟨w.heap.size + 1, 3, none⟩ = some (.int .i64 0) := by rw [hW0]; go_simp
  have yW01_4 : W0.cell? ⟨w.heap.size + 1, 4, none⟩ = some (.int .i64 0) := by rw [hW0]; go_simp
  have yW01_5 : W0.cell? ⟨w.heap.size + 1, 5, none⟩ = some (.int .i64 0) := by rw [hW0]; go_simp
  have fW01 : ∀ o, W0.frozen? ⟨w.heap.size + 1, o, none⟩ = false := by intro o; rw [hW0]; (repeat rw [frozen?_alloc_cells]); simp [World.frozen?]
  have zW01 : w.heap.size + 1 < W0.heap.size := by rw [hW0]; simp <;> omega
  have yW02_0 : W0.cell? ⟨w.heap.size + 2, 0, none⟩ = some (.int .i64 20) := by rw [hW0]; go_simp
  have yW02_1 : W0.cell? ⟨w.heap.size + 2, 1, none⟩ = some (.int .i64 20) := by rw [hW0]; go_simp
  have yW02_2 : W0.cell? ⟨w.heap.size + 2, 2, none⟩ = some (.int .i64 20) := by rw [hW0]; go_simp
  have yW02_3 : W0.cell? ⟨w.heap.size + 2, 3, none⟩ = some (.int .i64 20) := by rw [hW0]; go_simp
  have yW02_4 : W0.cell? ⟨w.heap.size + 2, 4, none⟩ = some (.int .i64 80) := by rw [hW0]; go_simp
  have yW02_5 : W0.cell? ⟨w.heap.size + 2, 5, none⟩ = some (.int .i64 80) := by rw [hW0]; go_simp
  have fW02 : ∀ o, W0.frozen? ⟨w.heap.size + 2, o, none⟩ = false := by intro o; rw [hW0]; (repeat rw [frozen?_alloc_cells]); simp [World.frozen?]
  have zW02 : w.heap.size + 2 < W0.heap.size := by rw [hW0]; simp <;> omega
  have BW0 : Below w.heap.size w W0 := by rw [hW0]; exact (Below.alloc (Below.alloc (Below.alloc (Below.refl _ _) (by simp <;> omega) _) (by simp <;> omega) _) (by simp <;> omega) _)
  have eW0 : Hid (W0.heap.size = w.heap.size + 3) := Lib.hid (by rw [hW0]; simp)
  clear hW0
  have Z0 := eW0.out
  have S0 := Lib.hid (show Clst W0 w.heap.size 0 a b c d x y from ⟨⟨zW00, yW00_0, yW00_1, yW00_2, yW00_3, yW00_4, yW00_5⟩, ⟨zW01, yW01_0, yW01_1, yW01_2, yW01_3, yW01_4, yW01_5⟩, fW00, fW01⟩)
  clear yW00_0 yW00_1 yW00_2 yW00_3 yW00_4 yW00_5 yW01_0 yW01_1 yW01_2 yW01_3 yW01_4 yW01_5 fW00 fW01 fW02 zW00 zW01 eW0
  go_wp2_with fail
  clear yW02_0 yW02_1 yW02_2 yW02_3 yW02_4 yW02_5 zW02 Z0
  obtain ⟨g, hg⟩ : ∃ x, x = w.heap.size := ⟨_, rfl⟩
  rw [← hg] at S0 BW0 ⊢
  have HG := Lib.hid hg
  clear hg
  go_loopg [8] 6 (fun gg i wr => ∃ k : Nat, k ≤ 6 ∧ gg = 6 - k ∧ i = .int .i64 k ∧ Below g w wr ∧ Hid (Clst wr g k a b c d x y))
  case atStart => exact ⟨0, Nat.zero_le _, rfl, rfl, BW0, S0⟩
  case round =>
    clear S0 BW0
    obtain ⟨k, hk, hgg, rfl, hB, hS⟩ := hrel
    rename World => wo
    rcases (show k = 0 ∨ k = 1 ∨ k = 2 ∨ k = 3 ∨ k = 4 ∨ k = 5 ∨ k = 6 by omega) with rfl | rfl | rfl | rfl | rfl | rfl | rfl
    · have S2 := Lib.hid (clst0 hS.out)
      obtain ⟨E1, R1, f1, f2⟩ := (show At6 wo g a b c d x y ∧ At6 wo (g + 1) 0 0 0 0 0 0 ∧ (∀ o, wo.frozen? ⟨g, o, none⟩ = false) ∧ (∀ o, wo.frozen? ⟨g + 1, o, none⟩ = false) from hS.out)
      obtain ⟨zg, c0, c1, c2, c3, c4, c5⟩ := E1
      have hc : (min (max a (-20)) 20) = clip 20 a := rfl
      have f1k := f1 0
      have HB := Lib.hid (hB.setCell (p := ⟨g, 0, none⟩) (Nat.le_refl _) (.int .i64 (clip 20 a)))
      have IX := limit0
      have mn := HN.out.1
      have mx := HN.out.2
      clear R1 f1 f2 hS
      go_wp2_with fail
      go_roundg (6 - (0 + 1))
      case measure => omega
      case rel => exact ⟨0 + 1, by omega, rfl, by go_num, HB.out, S2⟩
    · have S2 := Lib.hid (clst1 hS.out)
      obtain ⟨E1, R1, f1, f2⟩ := (show At6 wo g (clip 20 a) b c d x y ∧ At6 wo (g + 1) 0 0 0 0 0 0 ∧ (∀ o, wo.frozen? ⟨g, o, none⟩ = false) ∧ (∀ o, wo.frozen? ⟨g + 1, o, none⟩ = false) from hS.out)
      obtain ⟨zg, c0, c1, c2, c3, c4, c5⟩ := E1
      have hc : (min (max b (-20)) 20) = clip 20 b := rfl
      have f1k := f1 1
      have HB := Lib.hid (hB.setCell (p := ⟨g, 1, none⟩) (Nat.le_refl _) (.int .i64 (clip 20 b)))
      have IX := limit1
      have mn := HN.out.1
      have mx := HN.out.2
      clear R1 f1 f2 hS
      go_wp2_with fail
      go_roundg (6 - (1 + 1))
      case measure => omega
      case rel => exact ⟨1 + 1, by omega, rfl, by go_num, HB.out, S2⟩
    · have S2 := Lib.hid (clst2 hS.out)
      obtain ⟨E1, R1, f1, f2⟩ := (show At6 wo g (clip 20 a) (clip 20 b) c d x y ∧ At6 wo (g + 1) 0 0 0 0 0 0 ∧ (∀ o, wo.frozen? ⟨g, o, none⟩ = false) ∧ (∀ o, wo.frozen? ⟨g + 1, o, none⟩ = false) from hS.out)
      obtain ⟨zg, c0, c1, c2, c3, c4, c5⟩ := E1
      have hc : (min (max c (-20)) 20) = clip 20 c := rfl
      have f1k := f1 2
      have HB := Lib.hid (hB.setCell (p := ⟨g, 2, none⟩) (Nat.le_refl _) (.int .i64 (clip 20 c)))
      have IX := limit2
      have mn := HN.out.1
      have mx := HN.out.2
      clear R1 f1 f2 hS
      go_wp2_with fail
      go_roundg (6 - (2 + 1))
      case measure => omega
      case rel => exact ⟨2 + 1, by omega, rfl, by go_num, HB.out, S2⟩
    · have S2 := Lib.hid (clst3 hS.out)
      obtain ⟨E1, R1, f1, f2⟩ := (show At6 wo g (clip 20 a) (clip 20 b) (clip 20 c) d x y ∧ At6 wo (g + 1) 0 0 0 0 0 0 ∧ (∀ o, wo.frozen? ⟨g, o, none⟩ = false) ∧ (∀ o, wo.frozen? ⟨g + 1, o, none⟩ = false) from hS.out)
      obtain ⟨zg, c0, c1, c2, c3, c4, c5⟩ := E1
      have hc : (min (max d (-20)) 20) = clip 20 d := rfl
      have f1k := f1 3
      have HB := Lib.hid (hB.setCell (p := ⟨g, 3, none⟩) (Nat.le_refl _) (.int .i64 (clip 20 d)))
      have IX := limit3
      have mn := HN.out.1
      have mx := HN.out.2
      clear R1 f1 f2 hS
      go_wp2_with fail
      go_roundg (6 - (3 + 1))
      case measure => omega
      case rel => exact ⟨3 + 1, by omega, rfl, by go_num, HB.out, S2⟩
    · have S2 := Lib.hid (clst4 hS.out)
      obtain ⟨E1, R1, f1, f2⟩ := (show At6 wo g (clip 20 a) (clip 20 b) (clip 20 c) (clip 20 d) x y ∧ At6 wo (g + 1) 0 0 0 0 0 0 ∧ (∀ o, wo.frozen? ⟨g, o, none⟩ = false) ∧ (∀ o, wo.frozen? ⟨g + 1, o, none⟩ = false) from hS.out)
      obtain ⟨zg, c0, c1, c2, c3, c4, c5⟩ := E1
      have hc : (min (max x (-80)) 80) = clip 80 x := rfl
      have f1k := f1 4
      have HB := Lib.hid (hB.setCell (p := ⟨g, 4, none⟩) (Nat.le_refl _) (.int .i64 (clip 80 x)))
      have IX := limit4
      have mn := HN.out.1
      have mx := HN.out.2
      clear R1 f1 f2 hS
      go_wp2_with fail
      go_roundg (6 - (4 + 1))
      case measure => omega
      case rel => exact ⟨4 + 1, by omega, rfl, by go_num, HB.out, S2⟩
    · have S2 := Lib.hid (clst5 hS.out)
      obtain ⟨E1, R1, f1, f2⟩ := (show At6 wo g (clip 20 a) (clip 20 b) (clip 20 c) (clip 20 d) (clip 80 x) y ∧ At6 wo (g + 1) 0 0 0 0 0 0 ∧ (∀ o, wo.frozen? ⟨g, o, none⟩ = false) ∧ (∀ o, wo.frozen? ⟨g + 1, o, none⟩ = false) from hS.out)
      obtain ⟨zg, c0, c1, c2, c3, c4, c5⟩ := E1
      have hc : (min (max y (-80)) 80) = clip 80 y := rfl
      have f1k := f1 5
      have HB := Lib.hid (hB.setCell (p := ⟨g, 5, none⟩) (Nat.le_refl _) (.int .i64 (clip 80 y)))
      have IX := limit5
      have mn := HN.out.1
      have mx := HN.out.2
      clear R1 f1 f2 hS
      go_wp2_with fail
      go_roundg (6 - (5 + 1))
      case measure => omega
      case rel => exact ⟨5 + 1, by omega, rfl, by go_num, HB.out, S2⟩
    · obtain ⟨E1, R1, f1, f2⟩ := (show At6 wo g (clip 20 a) (clip 20 b) (clip 20 c) (clip 20 d) (clip 80 x) (clip 80 y) ∧ At6 wo (g + 1) 0 0 0 0 0 0 ∧ (∀ o, wo.frozen? ⟨g, o, none⟩ = false) ∧ (∀ o, wo.frozen? ⟨g + 1, o, none⟩ = false) from hS.out)
      obtain ⟨zg, c0, c1, c2, c3, c4, c5⟩ := E1
      obtain ⟨zh, r0, r1, r2, r3, r4, r5⟩ := R1
      have R7 := at6_set5 (at6_set4 (at6_set3 (at6_set2 (at6_set1 (at6_set0 (show At6 wo (g + 1) 0 0 0 0 0 0 from ⟨zh, r0, r1, r2, r3, r4, r5⟩) (clip 20 a)) (clip 20 b)) (clip 20 c)) (clip 20 d)) (clip 80 x)) (clip 80 y)
      clear f1 hS
      have B7 := Lib.hid (((((((hB.setCell (p := ⟨g + 1, 0, none⟩) (Nat.le_succ _) (.int .i64 (clip 20 a))).setCell (p := ⟨g + 1, 1, none⟩) (Nat.le_succ _) (.int .i64 (clip 20 b))).setCell (p := ⟨g + 1, 2, none⟩) (Nat.le_succ _) (.int .i64 (clip 20 c))).setCell (p := ⟨g + 1, 3, none⟩) (Nat.le_succ _) (.int .i64 (clip 20 d))).setCell (p := ⟨g + 1, 4, none⟩) (Nat.le_succ _) (.int .i64 (clip 80 x))).setCell (p := ⟨g + 1, 5, none⟩) (Nat.le_succ _) (.int .i64 (clip 80 y))))
      have R8 := Lib.hid R7
      clear R7
      go_wp2_with fail
      have R7 := R8.out
      have B8 := B7.out
      clear R8 B7 r0 r1 r2 r3 r4 r5 c0 c1 c2 c3 c4 c5 hB f2
      revert R7 B8
      generalize ((((((wo.setCell ⟨g + 1, 0, none⟩ (.int .i64 (clip 20 a))).setCell ⟨g + 1, 1, none⟩ (.int .i64 (clip 20 b))).setCell ⟨g + 1, 2, none⟩ (.int .i64 (clip 20 c))).setCell ⟨g + 1, 3, none⟩ (.int .i64 (clip 20 d))).setCell ⟨g + 1, 4, none⟩ (.int .i64 (clip 80 x))).setCell ⟨g + 1, 5, none⟩ (.int .i64 (clip 80 y))) = W9
      intro R7 B8
      obtain ⟨zz, s0, s1, s2, s3, s4, s5⟩ := R7
      rw [HG.out] at B8
      exact bodyPost_ret (v := .agg #[.int .i64 (clip 20 a), .int .i64 (clip 20 b), .int .i64 (clip 20 c), .int .i64 (clip 20 d), .int .i64 (clip 80 x), .int .i64 (clip 80 y)]) (by simp [results, Try.results135, go_sem, s0, s1, s2, s3, s4, s5]) rfl ⟨rfl, B8⟩
end Go.Proofs.Ytheddoinnakneaa
/- moves that are held against each other -/
namespace Go.Proofs.Ytheddoinnakneaa
open Go.ChangeShapes Go.WideShapes Go.ChangeAt Go.RowKit Go.Joins
set_option linter.unusedVariables false
set_option linter.unusedSimpArgs false
set_option maxRecDepth 4000
theorem eq_int (d : Nat) (a b : Int) (W : World) : (Op.equalIn (d + 1) 3 (.int .i64 a) (.int .i64 b)).run Try.prog W = .ok (decide (a = b)) W := by
  simp [Op.equalIn, run_underlying Try.underlying3]
  by_cases h : a = b <;> simp [h]
theorem eq6 (a b c d x y a' b' c' d' x' y' : Int) (W : World) : (Op.equalIn 10000 80 (.agg #[.int .i64 a, .int .i64 b, .int .i64 c, .int .i64 d, .int .i64 x, .int .i64 y]) (.agg #[.int .i64 a', .int .i64 b', .int .i64 c', .int .i64 d', .int .i64 x', .int .i64 y'])).run Try.prog W = .ok (decide (a = a' ∧ b = b' ∧ c = c' ∧ d = d' ∧ x = x' ∧ y = y')) W := by
  obtain ⟨i, hi⟩ : ∃ i, Try.prog.info? 3 = some i := ⟨_, rfl⟩
  rw [show (10000 : Nat) = 9998 + 1 + 1 from rfl, run_equalIn_array W (9998 + 1) _ _ Try.underlying80 hi]
  have hn : Try.prog.cellsOf 3 = 1 := by kernel_rfl
  rw [hn]
  simp only [show List.range 6 = [0, 1, 2, 3, 4, 5] from rfl, Op.eqItems, Sem.run_bind, Nat.mul_one]
  have hk : Try.prog.plainKey 3 = true := by kernel_rfl
  have p0 := run_part_plain (P := Try.prog) W hk (xs := #[.int .i64 a, .int .i64 b, .int .i64 c, .int .i64 d, .int .i64 x, .int .i64 y]) (off := 0) (v := .int .i64 a) rfl
  have r0 := run_part_plain (P := Try.prog) W hk (xs := #[.int .i64 a', .int .i64 b', .int .i64 c', .int .i64 d', .int .i64 x', .int .i64 y']) (off := 0) (v := .int .i64 a') rfl
  have p1 := run_part_plain (P := Try.prog) W hk (xs := #[.int .i64 a, .int .i64 b, .int .i64 c, .int .i64 d, .int .i64 x, .int .i64 y]) (off := 1) (v := .int .i64 b) rfl
  have r1 := run_part_plain (P := Try.prog) W hk (xs := #[.int .i64 a', .int .i64 b', .int .i64 c', .int .i64 d', .int .i64 x', .int .i64 y']) (off := 1) (v := .int .i64 b') rfl
  have p2 := run_part_plain (P := Try.prog) W hk (xs := #[.int .i64 a, .int .i64 b, .int .i64 c, .int .i64 d, .int .i64 x, .int .i64 y]) (off := 2) (v := .int .i64 c) rfl
  have r2 := run_part_plain (P := Try.prog) W hk (xs := #[.int .i64 a', .int .i64 b', .int .i64 c', .int .i64 d', .int .i64 x', .int .i64 y']) (off := 2) (v := .int .i64 c') rfl
  have p3 := run_part_plain (P := Try.prog) W hk (xs := #[.int .i64 a, .int .i64 b, .int .i64 c, .int .i64 d, .int .i64 x, .int .i64 y]) (off := 3) (v := .int .i64 d) rfl
  have r3 := run_part_plain (P := Try.prog) W hk (xs := #[.int .i64 a', .int .i64 b', .int .i64 c', .int .i64 d', .int .i64 x', .int .i64 y']) (off := 3) (v := .int .i64 d') rfl
  have p4 := run_part_plain (P := Try.prog) W hk (xs := #[.int .i64 a, .int .i64 b, .int .i64 c, .int .i64 d, .int .i64 x, .int .i64 y]) (off := 4) (v := .int .i64 x) rfl
  have r4 := run_part_plain (P := Try.prog) W hk (xs := #[.int .i64 a', .int .i64 b', .int .i64 c', .int .i64 d', .int .i64 x', .int .i64 y']) (off := 4) (v := .int .i64 x') rfl
  have p5 := run_part_plain (P := Try.prog) W hk (xs := #[.int .i64 a, .int .i64 b, .int .i64 c, .int .i64 d, .int .i64 x, .int .i64 y]) (off := 5) (v := .int .i64 y) rfl
  have r5 := run_part_plain (P := Try.prog) W hk (xs := #[.int .i64 a', .int .i64 b', .int .i64 c', .int .i64 d', .int .i64 x', .int .i64 y']) (off := 5) (v := .int .i64 y') rfl
  have e := fun a b => eq_int 9998 a b W
  rw [p0, Result.andThen_ok, r0, Result.andThen_ok, e, Result.andThen_ok]
  by_cases h0 : a = a'
  rotate_left
  · simp [h0]
  rw [decide_eq_true h0]
  simp only [Bool.not_true, Bool.false_eq_true, if_false, Sem.run_bind]
  rw [p1, Result.andThen_ok, r1, Result.andThen_ok, e, Result.andThen_ok]
  by_cases h1 : b = b'
  rotate_left
  · simp [h1]
  rw [decide_eq_true h1]
  simp only [Bool.not_true, Bool.false_eq_true, if_false, Sem.run_bind]
  rw [p2, Result.andThen_ok, r2, Result.andThen_ok, e, Result.andThen_ok]
  by_cases h2 : c = c'
  rotate_left
  · simp [h2]
  rw [decide_eq_true h2]
  simp only [Bool.not_true, Bool.false_eq_true, if_false, Sem.run_bind]
  rw [p3, Result.andThen_ok, r3, Result.andThen_ok, e, Result.andThen_ok]
  by_cases h3 : d = d'
  rotate_left
  · simp [h3]
  rw [decide_eq_true h3]
  simp only [Bool.not_true, Bool.false_eq_true, if_false, Sem.run_bind]
  rw [p4, Result.andThen_ok, r4, Result.andThen_ok, e, Result.andThen_ok]
  by_cases h4 : x = x'
  rotate_left
  · simp [h4]
  rw [decide_eq_true h4]
  simp only [Bool.not_true, Bool.false_eq_true, if_false, Sem.run_bind]
  rw [p5, Result.andThen_ok, r5, Result.andThen_ok, e, Result.andThen_ok]
  by_cases h5 : y = y'
  rotate_left
  · simp [h5]
  rw [decide_eq_true h5]
  simp only [Bool.not_true, Bool.false_eq_true, if_false, Sem.run_bind]
  simp [h0, h1, h2, h3, h4, h5]
end Go.Proofs.Ytheddoinnakneaa
/- contracts: IsMove, the program -/
namespace Go.Proofs.Ytheddoinnakneaa
open Go.ChangeShapes Go.WideShapes Go.ChangeAt Go.RowKit Go.Joins
set_option linter.unusedVariables false
set_option linter.unusedSimpArgs false
set_option maxRecDepth 4000
theorem btk {w W W' : World} (h : Below w.heap.size w W) (hb : Below W.heap.size W W') : Below w.heap.size w W' := h.trans (hb.mono h.size)
theorem clip_in {m v : Int} (h : inQ (-m) m v = true) : clip m v = v := by
  unfold inQ at h; unfold clip; simp only [Bool.and_eq_true, decide_eq_true_eq] at h; omega
theorem clip_out {m v : Int} (h : ¬ inQ (-m) m v = true) (hm : 0 ≤ m) : clip m v ≠ v := by
  unfold inQ at h; unfold clip; simp only [Bool.and_eq_true, decide_eq_true_eq] at h; omega
theorem boxM_clip (a b c d x y : Int) : boxM a b c d x y = true ↔ (clip 20 a = a ∧ clip 20 b = b ∧ clip 20 c = c ∧ clip 20 d = d ∧ clip 80 x = x ∧ clip 80 y = y) := by
  unfold boxM
  rw [all4, all2]
  simp only [Bool.and_eq_true]
  constructor
  · rintro ⟨⟨⟨⟨h1, h2⟩, h3⟩, h4⟩, h5, h6⟩
    exact ⟨clip_in h1, clip_in h2, clip_in h3, clip_in h4, clip_in h5, clip_in h6⟩
  · rintro ⟨h1, h2, h3, h4, h5, h6⟩
    refine ⟨⟨⟨⟨?_, ?_⟩, ?_⟩, ?_⟩, ?_, ?_⟩
    · by_cases h : inQ (-20) 20 a = true; exact h; exact absurd h1 (clip_out (m := 20) h (by omega))
    · by_cases h : inQ (-20) 20 b = true; exact h; exact absurd h2 (clip_out (m := 20) h (by omega))
    · by_cases h : inQ (-20) 20 c = true; exact h; exact absurd h3 (clip_out (m := 20) h (by omega))
    · by_cases h : inQ (-20) 20 d = true; exact h; exact absurd h4 (clip_out (m := 20) h (by omega))
    · by_cases h : inQ (-80) 80 x = true; exact h; exact absurd h5 (clip_out (m := 80) h (by omega))
    · by_cases h : inQ (-80) 80 y = true; exact h; exact absurd h6 (clip_out (m := 80) h (by omega))
theorem boxM_all4 {a b c d x y : Int} (h : boxM a b c d x y = true) : allIn (-20) 20 (q4 a b c d) 4 = true := by
  unfold boxM at h; simp only [Bool.and_eq_true] at h; exact h.1
set_option maxHeartbeats 1000000 in
theorem implIsMove_any (a b c d x y : Int) (w : World) :
    Calls Try.prog 104 #[.agg #[.int .i64 a, .int .i64 b, .int .i64 c, .int .i64 d, .int .i64 x, .int .i64 y]] w fun e w' => e = .returned (.bool (goodM a b c d x y)) ∧ Below w.heap.size w w' := by
  have KW := Lib.hid (fun W => whole_any a b c d x y W)
  have KC := Lib.hid (fun W => clipped_any a b c d x y W)
  by_cases hb : boxM a b c d x y = true
  · have KS := Lib.hid (fun W => side_any a b c d x y W (wide4 (boxM_all4 hb)).1 (wide4 (boxM_all4 hb)).2.1 (wide4 (boxM_all4 hb)).2.2.1 (wide4 (boxM_all4 hb)).2.2.2)
    obtain ⟨e1, e2, e3, e4, e5, e6⟩ := (boxM_clip a b c d x y).1 hb
    rw [e1, e2, e3, e4, e5, e6] at KC
    have e : goodM a b c d x y = decide (((a * d - b * c).natAbs : Int) = 1) := by unfold goodM; rw [hb]; rfl
    rw [e]
    clear e e1 e2 e3 e4 e5 e6 hb
    generalize a * d - b * c = s at *
    have EQ := Lib.hid (fun W => (eq6 a b c d x y a b c d x y W).trans (by rw [decide_eq_true ⟨rfl, rfl, rfl, rfl, rfl, rfl⟩] : _ = Result.ok true W))
    by_cases s1 : s = 1
    · have hr : Hid (decide ((s.natAbs : Int) = 1) = true) := Lib.hid (by simp; omega)
      go_enter Try.func104, Try.ntmps104
      go_wp2_with fail
      have B0 := Below.alloc (Below.refl w.heap.size w) (Nat.le_refl _) (.cells #[.int .i64 a, .int .i64 b, .int .i64 c, .int .i64 d, .int .i64 x, .int .i64 y] 41)
      refine (KW.out _).mono ?_; rintro e w2 ⟨rfl, hb2⟩
      have B2 := B0.trans (hb2.mono B0.size)
      clear hb2 B0
      go_wp2_with fail
      obtain ⟨W3, hW3⟩ : ∃ W3, W3 = (w2.alloc (.cells #[.int .i64 a, .int .i64 b, .int .i64 c, .int .i64 d, .int .i64 x, .int .i64 y] 80)) := ⟨_, rfl⟩
      rw [← hW3]
      have yW30_0 : W3.cell? ⟨w2.heap.size, 0, none⟩ = some (.int .i64 a) := by rw [hW3]; go_simp
      have yW30_1 : W3.cell? ⟨w2.heap.size, 1, none⟩ = some (.int .i64 b) := by rw [hW3]; go_simp
      have yW30_2 : W3.cell? ⟨w2.heap.size, 2, none⟩ = some (.int .i64 c) := by rw [hW3]; go_simp
      have yW30_3 : W3.cell? ⟨w2.heap.size, 3, none⟩ = some (.int .i64 d) := by rw [hW3]; go_simp
      have yW30_4 : W3.cell? ⟨w2.heap.size, 4, none⟩ = some (.int .i64 x) := by rw [hW3]; go_simp
      have yW30_5 : W3.cell? ⟨w2.heap.size, 5, none⟩ = some (.int .i64 y) := by rw [hW3]; go_simp
      have fW30 : ∀ o, W3.frozen? ⟨w2.heap.size, o, none⟩ = false := by intro o; rw [hW3]; (repeat rw [frozen?_alloc_cells]); simp [World.frozen?]
      have zW30 : w2.heap.size < W3.heap.size := by rw [hW3]; simp <;> omega
      have BW3 : Below w2.heap.size w2 W3 := by rw [hW3]; exact (Below.alloc (Below.refl _ _) (by simp <;> omega) _)
      have eW3 : Hid (W3.heap.size = w2.heap.size + 1) := Lib.hid (by rw [hW3]; simp)
      clear hW3
      refine wp_region_B (fun W => Below W3.heap.size W3 W) (by kernel_rfl) (by repeat (first | exact Below.refl _ _ | apply Below.drew)) ?_
      first | refine wpB_skip 0 rfl (by kernel_rfl) (by kernel_rfl) (by kernel_rfl) (by rfl) ?_ | (refine wpB_text 0 (v := ?_) rfl (by kernel_rfl) (by kernel_rfl) (by kernel_rfl) (by rfl) (fun W hW => ?_) ?_; rotate_left; (have k1 := hW; obtain ⟨hc1, hf1⟩ := bcell k1; have he := EQ.out W; go_simp; refine comes_v ?_; exact k1))
      (try simp only [Act.put, List.setIfInBounds_toArray, List.set_cons_zero, List.set_cons_succ])
      first | refine wpB_skip 1 rfl (by kernel_rfl) (by kernel_rfl) (by kernel_rfl) (by rfl) ?_ | (refine wpB_text 1 (v := ?_) rfl (by kernel_rfl) (by kernel_rfl) (by kernel_rfl) (by rfl) (fun W hW => ?_) ?_; rotate_left; (have k1 := hW; obtain ⟨hc1, hf1⟩ := bcell k1; have he := EQ.out W; go_simp; refine comes_v ?_; exact k1))
      (try simp only [Act.put, List.setIfInBounds_toArray, List.set_cons_zero, List.set_cons_succ])
      first | refine wpB_skip 2 rfl (by kernel_rfl) (by kernel_rfl) (by kernel_rfl) (by rfl) ?_ | (refine wpB_text 2 (v := .agg #[.int .i64 a, .int .i64 b, .int .i64 c, .int .i64 d, .int .i64 x, .int .i64 y]) rfl (by kernel_rfl) (by kernel_rfl) (by kernel_rfl) (by rfl) (fun W hW => ?_) ?_; (have k1 := hW; obtain ⟨hc1, hf1⟩ := bcell k1; have he := EQ.out W; go_simp; exact comes_c ( KC.out _) (fun wn hbn => btk k1 hbn)))
      (try simp only [Act.put, List.setIfInBounds_toArray, List.set_cons_zero, List.set_cons_succ])
      first | refine wpB_skip 3 rfl (by kernel_rfl) (by kernel_rfl) (by kernel_rfl) (by rfl) ?_ | (refine wpB_text 3 (v := ?_) rfl (by kernel_rfl) (by kernel_rfl) (by kernel_rfl) (by rfl) (fun W hW => ?_) ?_; rotate_left; (have k1 := hW; obtain ⟨hc1, hf1⟩ := bcell k1; have he := EQ.out W; go_simp; refine comes_v ?_; exact k1))
      (try simp only [Act.put, List.setIfInBounds_toArray, List.set_cons_zero, List.set_cons_succ])
      refine wpB_done (by kernel_rfl) ?_ _
      intro W hW; have k1 := hW
      have B4 := B2.trans ((BW3.mono B2.size).trans (k1.mono (by have := BW3.size; have := B2.size; omega)))
      clear B2 BW3
      obtain ⟨z4, c0, c1, c2, c3, c4, c5⟩ := at6_below (B := W3.heap.size) (w := W3) (w' := W) ⟨zW30, yW30_0, yW30_1, yW30_2, yW30_3, yW30_4, yW30_5⟩ k1 zW30
      go_wp2_with fail
      refine (KS.out _).mono ?_; rintro e w5 ⟨rfl, hb5⟩
      have B5 := B4.trans (hb5.mono B4.size)
      go_wp2_with fail
      go_ret
      exact ⟨ret_bool hr.out.symm, B5⟩
    · by_cases s2 : s = -1
      · have hr : Hid (decide ((s.natAbs : Int) = 1) = true) := Lib.hid (by simp; omega)
        go_enter Try.func104, Try.ntmps104
        go_wp2_with fail
        have B0 := Below.alloc (Below.refl w.heap.size w) (Nat.le_refl _) (.cells #[.int .i64 a, .int .i64 b, .int .i64 c, .int .i64 d, .int .i64 x, .int .i64 y] 41)
        refine (KW.out _).mono ?_; rintro e w2 ⟨rfl, hb2⟩
        have B2 := B0.trans (hb2.mono B0.size)
        clear hb2 B0
        go_wp2_with fail
        obtain ⟨W3, hW3⟩ : ∃ W3, W3 = (w2.alloc (.cells #[.int .i64 a, .int .i64 b, .int .i64 c, .int .i64 d, .int .i64 x, .int .i64 y] 80)) := ⟨_, rfl⟩
        rw [← hW3]
        have yW30_0 : W3.cell? ⟨w2.heap.size, 0, none⟩ = some (.int .i64 a) := by rw [hW3]; go_simp
        have yW30_1 : W3.cell? ⟨w2.heap.size, 1, none⟩ = some (.int .i64 b) := by rw [hW3]; go_simp
        have yW30_2 : W3.cell? ⟨w2.heap.size, 2, none⟩ = some (.int .i64 c) := by rw [hW3]; go_simp
        have yW30_3 : W3.cell? ⟨w2.heap.size, 3, none⟩ = some (.int .i64 d) := by rw [hW3]; go_simp
        have yW30_4 : W3.cell? ⟨w2.heap.size, 4, none⟩ = some (.int .i64 x) := by rw [hW3]; go_simp
        have yW30_5 : W3.cell? ⟨w2.heap.size, 5, none⟩ = some (.int .i64 y) := by rw [hW3]; go_simp
        have fW30 : ∀ o, W3.frozen? ⟨w2.heap.size, o, none⟩ = false := by intro o; rw [hW3]; (repeat rw [frozen?_alloc_cells]); simp [World.frozen?]
        have zW30 : w2.heap.size < W3.heap.size := by rw [hW3]; simp <;> omega
        have BW3 : Below w2.heap.size w2 W3 := by rw [hW3]; exact (Below.alloc (Below.refl _ _) (by simp <;> omega) _)
        have eW3 : Hid (W3.heap.size = w2.heap.size + 1) := Lib.hid (by rw [hW3]; simp)
        clear hW3
        refine wp_region_B (fun W => Below W3.heap.size W3 W) (by kernel_rfl) (by repeat (first | exact Below.refl _ _ | apply Below.drew)) ?_
        first | refine wpB_skip 0 rfl (by kernel_rfl) (by kernel_rfl) (by kernel_rfl) (by rfl) ?_ | (refine wpB_text 0 (v := ?_) rfl (by kernel_rfl) (by kernel_rfl) (by kernel_rfl) (by rfl) (fun W hW => ?_) ?_; rotate_left; (have k1 := hW; obtain ⟨hc1, hf1⟩ := bcell k1; have he := EQ.out W; go_simp; refine comes_v ?_; exact k1))
        (try simp only [Act.put, List.setIfInBounds_toArray, List.set_cons_zero, List.set_cons_succ])
        first | refine wpB_skip 1 rfl (by kernel_rfl) (by kernel_rfl) (by kernel_rfl) (by rfl) ?_ | (refine wpB_text 1 (v := ?_) rfl (by kernel_rfl) (by kernel_rfl) (by kernel_rfl) (by rfl) (fun W hW => ?_) ?_; rotate_left; (have k1 := hW; obtain ⟨hc1, hf1⟩ := bcell k1; have he := EQ.out W; go_simp; refine comes_v ?_; exact k1))
        (try simp only [Act.put, List.setIfInBounds_toArray, List.set_cons_zero, List.set_cons_succ])
        first | refine wpB_skip 2 rfl (by kernel_rfl) (by kernel_rfl) (by kernel_rfl) (by rfl) ?_ | (refine wpB_text 2 (v := .agg #[.int .i64 a, .int .i64 b, .int .i64 c, .int .i64 d, .int .i64 x, .int .i64 y]) rfl (by kernel_rfl) (by kernel_rfl) (by kernel_rfl) (by rfl) (fun W hW => ?_) ?_; (have k1 := hW; obtain ⟨hc1, hf1⟩ := bcell k1; have he := EQ.out W; go_simp; exact comes_c ( KC.out _) (fun wn hbn => btk k1 hbn)))
        (try simp only [Act.put, List.setIfInBounds_toArray, List.set_cons_zero, List.set_cons_succ])
        first | refine wpB_skip 3 rfl (by kernel_rfl) (by kernel_rfl) (by kernel_rfl) (by rfl) ?_ | (refine wpB_text 3 (v := ?_) rfl (by kernel_rfl) (by kernel_rfl) (by kernel_rfl) (by rfl) (fun W hW => ?_) ?_; rotate_left; (have k1 := hW; obtain ⟨hc1, hf1⟩ := bcell k1; have he := EQ.out W; go_simp; refine comes_v ?_; exact k1))
        (try simp only [Act.put, List.setIfInBounds_toArray, List.set_cons_zero, List.set_cons_succ])
        refine wpB_done (by kernel_rfl) ?_ _
        intro W hW; have k1 := hW
        have B4 := B2.trans ((BW3.mono B2.size).trans (k1.mono (by have := BW3.size; have := B2.size; omega)))
        clear B2 BW3
        obtain ⟨z4, c0, c1, c2, c3, c4, c5⟩ := at6_below (B := W3.heap.size) (w := W3) (w' := W) ⟨zW30, yW30_0, yW30_1, yW30_2, yW30_3, yW30_4, yW30_5⟩ k1 zW30
        go_wp2_with fail
        refine (KS.out _).mono ?_; rintro e w5 ⟨rfl, hb5⟩
        have B5 := B4.trans (hb5.mono B4.size)
        go_wp2_with fail
        go_ret
        exact ⟨ret_bool hr.out.symm, B5⟩
      · have hr : Hid (decide ((s.natAbs : Int) = 1) = false) := Lib.hid (by simp; omega)
        go_enter Try.func104, Try.ntmps104
        go_wp2_with fail
        have B0 := Below.alloc (Below.refl w.heap.size w) (Nat.le_refl _) (.cells #[.int .i64 a, .int .i64 b, .int .i64 c, .int .i64 d, .int .i64 x, .int .i64 y] 41)
        refine (KW.out _).mono ?_; rintro e w2 ⟨rfl, hb2⟩
        have B2 := B0.trans (hb2.mono B0.size)
        clear hb2 B0
        go_wp2_with fail
        obtain ⟨W3, hW3⟩ : ∃ W3, W3 = (w2.alloc (.cells #[.int .i64 a, .int .i64 b, .int .i64 c, .int .i64 d, .int .i64 x, .int .i64 y] 80)) := ⟨_, rfl⟩
        rw [← hW3]
        have yW30_0 : W3.cell? ⟨w2.heap.size, 0, none⟩ = some (.int .i64 a) := by rw [hW3]; go_simp
        have yW30_1 : W3.cell? ⟨w2.heap.size, 1, none⟩ = some (.int .i64 b) := by rw [hW3]; go_simp
        have yW30_2 : W3.cell? ⟨w2.heap.size, 2, none⟩ = some (.int .i64 c) := by rw [hW3]; go_simp
        have yW30_3 : W3.cell? ⟨w2.heap.size, 3, none⟩ = some (.int .i64 d) := by rw [hW3]; go_simp
        have yW30_4 : W3.cell? ⟨w2.heap.size, 4, none⟩ = some (.int .i64 x) := by rw [hW3]; go_simp
        have yW30_5 : W3.cell? ⟨w2.heap.size, 5, none⟩ = some (.int .i64 y) := by rw [hW3]; go_simp
        have fW30 : ∀ o, W3.frozen? ⟨w2.heap.size, o, none⟩ = false := by intro o; rw [hW3]; (repeat rw [frozen?_alloc_cells]); simp [World.frozen?]
        have zW30 : w2.heap.size < W3.heap.size := by rw [hW3]; simp <;> omega
        have BW3 : Below w2.heap.size w2 W3 := by rw [hW3]; exact (Below.alloc (Below.refl _ _) (by simp <;> omega) _)
        have eW3 : Hid (W3.heap.size = w2.heap.size + 1) := Lib.hid (by rw [hW3]; simp)
        clear hW3
        refine wp_region_B (fun W => Below W3.heap.size W3 W) (by kernel_rfl) (by repeat (first | exact Below.refl _ _ | apply Below.drew)) ?_
        first | refine wpB_skip 0 rfl (by kernel_rfl) (by kernel_rfl) (by kernel_rfl) (by rfl) ?_ | (refine wpB_text 0 (v := ?_) rfl (by kernel_rfl) (by kernel_rfl) (by kernel_rfl) (by rfl) (fun W hW => ?_) ?_; rotate_left; (have k1 := hW; obtain ⟨hc1, hf1⟩ := bcell k1; have he := EQ.out W; go_simp; refine comes_v ?_; exact k1))
        (try simp only [Act.put, List.setIfInBounds_toArray, List.set_cons_zero, List.set_cons_succ])
        first | refine wpB_skip 1 rfl (by kernel_rfl) (by kernel_rfl) (by kernel_rfl) (by rfl) ?_ | (refine wpB_text 1 (v := ?_) rfl (by kernel_rfl) (by kernel_rfl) (by kernel_rfl) (by rfl) (fun W hW => ?_) ?_; rotate_left; (have k1 := hW; obtain ⟨hc1, hf1⟩ := bcell k1; have he := EQ.out W; go_simp; refine comes_v ?_; exact k1))
        (try simp only [Act.put, List.setIfInBounds_toArray, List.set_cons_zero, List.set_cons_succ])
        first | refine wpB_skip 2 rfl (by kernel_rfl) (by kernel_rfl) (by kernel_rfl) (by rfl) ?_ | (refine wpB_text 2 (v := .agg #[.int .i64 a, .int .i64 b, .int .i64 c, .int .i64 d, .int .i64 x, .int .i64 y]) rfl (by kernel_rfl) (by kernel_rfl) (by kernel_rfl) (by rfl) (fun W hW => ?_) ?_; (have k1 := hW; obtain ⟨hc1, hf1⟩ := bcell k1; have he := EQ.out W; go_simp; exact comes_c ( KC.out _) (fun wn hbn => btk k1 hbn)))
        (try simp only [Act.put, List.setIfInBounds_toArray, List.set_cons_zero, List.set_cons_succ])
        first | refine wpB_skip 3 rfl (by kernel_rfl) (by kernel_rfl) (by kernel_rfl) (by rfl) ?_ | (refine wpB_text 3 (v := ?_) rfl (by kernel_rfl) (by kernel_rfl) (by kernel_rfl) (by rfl) (fun W hW => ?_) ?_; rotate_left; (have k1 := hW; obtain ⟨hc1, hf1⟩ := bcell k1; have he := EQ.out W; go_simp; refine comes_v ?_; exact k1))
        (try simp only [Act.put, List.setIfInBounds_toArray, List.set_cons_zero, List.set_cons_succ])
        refine wpB_done (by kernel_rfl) ?_ _
        intro W hW; have k1 := hW
        have B4 := B2.trans ((BW3.mono B2.size).trans (k1.mono (by have := BW3.size; have := B2.size; omega)))
        clear B2 BW3
        obtain ⟨z4, c0, c1, c2, c3, c4, c5⟩ := at6_below (B := W3.heap.size) (w := W3) (w' := W) ⟨zW30, yW30_0, yW30_1, yW30_2, yW30_3, yW30_4, yW30_5⟩ k1 zW30
        go_wp2_with fail
        refine (KS.out _).mono ?_; rintro e w5 ⟨rfl, hb5⟩
        have B5 := B4.trans (hb5.mono B4.size)
        go_wp2_with fail
        go_ret
        exact ⟨ret_bool (by rw [hr.out]; simp [s1, s2]), B5⟩
  · have hn := mt (boxM_clip a b c d x y).2 hb
    have e : goodM a b c d x y = false := by unfold goodM; rw [show boxM a b c d x y = false by simpa using hb]; rfl
    rw [e]
    clear e hb
    generalize clip 20 a = a' at *
    generalize clip 20 b = b' at *
    generalize clip 20 c = c' at *
    generalize clip 20 d = d' at *
    generalize clip 80 x = x' at *
    generalize clip 80 y = y' at *
    have hn2 : ¬ (a = a' ∧ b = b' ∧ c = c' ∧ d = d' ∧ x = x' ∧ y = y') := fun ⟨h1, h2, h3, h4, h5, h6⟩ => hn ⟨h1.symm, h2.symm, h3.symm, h4.symm, h5.symm, h6.symm⟩
    have EQ := Lib.hid (fun W => (eq6 a b c d x y a' b' c' d' x' y' W).trans (by rw [decide_eq_false hn2] : _ = Result.ok false W))
    clear hn hn2
    go_enter Try.func104, Try.ntmps104
    go_wp2_with fail
    have B0 := Below.alloc (Below.refl w.heap.size w) (Nat.le_refl _) (.cells #[.int .i64 a, .int .i64 b, .int .i64 c, .int .i64 d, .int .i64 x, .int .i64 y] 41)
    refine (KW.out _).mono ?_; rintro e w2 ⟨rfl, hb2⟩
    have B2 := B0.trans (hb2.mono B0.size)
    clear hb2 B0
    go_wp2_with fail
    obtain ⟨W3, hW3⟩ : ∃ W3, W3 = (w2.alloc (.cells #[.int .i64 a, .int .i64 b, .int .i64 c, .int .i64 d, .int .i64 x, .int .i64 y] 80)) := ⟨_, rfl⟩
    rw [← hW3]
    have yW30_0 : W3.cell? ⟨w2.heap.size, 0, none⟩ = some (.int .i64 a) := by rw [hW3]; go_simp
    have yW30_1 : W3.cell? ⟨w2.heap.size, 1, none⟩ = some (.int .i64 b) := by rw [hW3]; go_simp
    have yW30_2 : W3.cell? ⟨w2.heap.size, 2, none⟩ = some (.int .i64 c) := by rw [hW3]; go_simp
    have yW30_3 : W3.cell? ⟨w2.heap.size, 3, none⟩ = some (.int .i64 d) := by rw [hW3]; go_simp
    have yW30_4 : W3.cell? ⟨w2.heap.size, 4, none⟩ = some (.int .i64 x) := by rw [hW3]; go_simp
    have yW30_5 : W3.cell? ⟨w2.heap.size, 5, none⟩ = some (.int .i64 y) := by rw [hW3]; go_simp
    have fW30 : ∀ o, W3.frozen? ⟨w2.heap.size, o, none⟩ = false := by intro o; rw [hW3]; (repeat rw [frozen?_alloc_cells]); simp [World.frozen?]
    have zW30 : w2.heap.size < W3.heap.size := by rw [hW3]; simp <;> omega
    have BW3 : Below w2.heap.size w2 W3 := by rw [hW3]; exact (Below.alloc (Below.refl _ _) (by simp <;> omega) _)
    have eW3 : Hid (W3.heap.size = w2.heap.size + 1) := Lib.hid (by rw [hW3]; simp)
    clear hW3
    refine wp_region_B (fun W => Below W3.heap.size W3 W) (by kernel_rfl) (by repeat (first | exact Below.refl _ _ | apply Below.drew)) ?_
    first | refine wpB_skip 0 rfl (by kernel_rfl) (by kernel_rfl) (by kernel_rfl) (by rfl) ?_ | (refine wpB_text 0 (v := ?_) rfl (by kernel_rfl) (by kernel_rfl) (by kernel_rfl) (by rfl) (fun W hW => ?_) ?_; rotate_left; (have k1 := hW; obtain ⟨hc1, hf1⟩ := bcell k1; have he := EQ.out W; go_simp; refine comes_v ?_; exact k1))
    (try simp only [Act.put, List.setIfInBounds_toArray, List.set_cons_zero, List.set_cons_succ])
    first | refine wpB_skip 1 rfl (by kernel_rfl) (by kernel_rfl) (by kernel_rfl) (by rfl) ?_ | (refine wpB_text 1 (v := ?_) rfl (by kernel_rfl) (by kernel_rfl) (by kernel_rfl) (by rfl) (fun W hW => ?_) ?_; rotate_left; (have k1 := hW; obtain ⟨hc1, hf1⟩ := bcell k1; have he := EQ.out W; go_simp; refine comes_v ?_; exact k1))
    (try simp only [Act.put, List.setIfInBounds_toArray, List.set_cons_zero, List.set_cons_succ])
    first | refine wpB_skip 2 rfl (by kernel_rfl) (by kernel_rfl) (by kernel_rfl) (by rfl) ?_ | (refine wpB_text 2 (v := .agg #[.int .i64 a', .int .i64 b', .int .i64 c', .int .i64 d', .int .i64 x', .int .i64 y']) rfl (by kernel_rfl) (by kernel_rfl) (by kernel_rfl) (by rfl) (fun W hW => ?_) ?_; (have k1 := hW; obtain ⟨hc1, hf1⟩ := bcell k1; have he := EQ.out W; go_simp; exact comes_c ( KC.out _) (fun wn hbn => btk k1 hbn)))
    (try simp only [Act.put, List.setIfInBounds_toArray, List.set_cons_zero, List.set_cons_succ])
    first | refine wpB_skip 3 rfl (by kernel_rfl) (by kernel_rfl) (by kernel_rfl) (by rfl) ?_ | (refine wpB_text 3 (v := ?_) rfl (by kernel_rfl) (by kernel_rfl) (by kernel_rfl) (by rfl) (fun W hW => ?_) ?_; rotate_left; (have k1 := hW; obtain ⟨hc1, hf1⟩ := bcell k1; have he := EQ.out W; go_simp; refine comes_v ?_; exact k1))
    (try simp only [Act.put, List.setIfInBounds_toArray, List.set_cons_zero, List.set_cons_succ])
    refine wpB_done (by kernel_rfl) ?_ _
    intro W hW; have k1 := hW
    have B4 := B2.trans ((BW3.mono B2.size).trans (k1.mono (by have := BW3.size; have := B2.size; omega)))
    clear B2 BW3
    go_wp2_with fail
    go_ret
    exact ⟨rfl, B4⟩
end Go.Proofs.Ytheddoinnakneaa
/- contracts: sides, brought pegs, moves of whole numbers, shears, on both sides -/
namespace Go.Proofs.Ytheddoinnakneaa
open Go.ChangeShapes Go.WideShapes Go.ChangeAt Go.RowKit Go.Joins
set_option linter.unusedVariables false
set_option linter.unusedSimpArgs false
set_option maxRecDepth 4000
def Fz (w : World) (g : Nat) : Prop := ∀ o, w.frozen? ⟨g, o, none⟩ = false
theorem fz_below {w w' : World} {g B : Nat} (h : Fz w g) (hb : Below B w w') (hg : g < B) : Fz w' g := fun o => (World.frozen?_of_block (hb.block g hg)).trans (h o)
def Own6 (w : World) (g : Nat) (a b c d x y : Int) : Prop := At6 w g a b c d x y ∧ Fz w g
def Own2 (w : World) (g : Nat) (a b : Int) : Prop := (g < w.heap.size ∧ w.cell? ⟨g, 0, none⟩ = some (.int .i64 a) ∧ w.cell? ⟨g, 1, none⟩ = some (.int .i64 b)) ∧ Fz w g
theorem own6_below {w w' : World} {g : Nat} {a b c d x y : Int} (h : Own6 w g a b c d x y) (hb : Below w.heap.size w w') (hg : g < w.heap.size) : Own6 w' g a b c d x y := ⟨at6_below h.1 hb hg, fz_below h.2 hb hg⟩
theorem own2_below {w w' : World} {g : Nat} {a b : Int} (h : Own2 w g a b) (hb : Below w.heap.size w w') (hg : g < w.heap.size) : Own2 w' g a b := by
  obtain ⟨⟨h0, h1, h2⟩, h3⟩ := h
  have k := fun o => hb.cell (p := ⟨g, o, none⟩) hg
  have := hb.size
  exact ⟨⟨by omega, (k _).trans h1, (k _).trans h2⟩, fz_below h3 hb hg⟩
def bsel (b : Bool) (v : Int) : Int := if b = true then v else 0
theorem bsel_t (v : Int) : bsel true v = v := rfl
theorem bsel_f (v : Int) : bsel false v = 0 := rfl
theorem good_bd {a b c d x y : Int} (h : goodM a b c d x y = true) : ((-20 ≤ a ∧ a ≤ 20) ∧ (-20 ≤ b ∧ b ≤ 20) ∧ (-20 ≤ c ∧ c ≤ 20) ∧ (-20 ≤ d ∧ d ≤ 20)) ∧ ((-80 ≤ x ∧ x ≤ 80) ∧ (-80 ≤ y ∧ y ≤ 80)) := by
  unfold goodM boxM at h
  simp only [Bool.and_eq_true] at h
  exact ⟨all4_bd h.1.1, all2_bd h.1.2⟩
theorem good_all4 {a b c d x y : Int} (h : goodM a b c d x y = true) : allIn (-20) 20 (q4 a b c d) 4 = true := by
  unfold goodM boxM at h
  simp only [Bool.and_eq_true] at h
  exact h.1.1
theorem bring_any (a b c d x y p1 p2 : Int) (w : World) (ha : -100000000 ≤ a ∧ a ≤ 100000000) (hb : -100000000 ≤ b ∧ b ≤ 100000000) (hc : -100000000 ≤ c ∧ c ≤ 100000000) (hd : -100000000 ≤ d ∧ d ≤ 100000000) (hx : -100000000000000000 ≤ x ∧ x ≤ 100000000000000000) (hy : -100000000000000000 ≤ y ∧ y ≤ 100000000000000000) (hp : -2000000000 ≤ p1 ∧ p1 ≤ 2000000000) (hq : -2000000000 ≤ p2 ∧ p2 ≤ 2000000000) :
    Calls Try.prog 108 #[.agg #[.int .i64 a, .int .i64 b, .int .i64 c, .int .i64 d, .int .i64 x, .int .i64 y], .agg #[.int .i64 p1, .int .i64 p2]] w fun e w' => e = .returned (.agg #[.int .i64 (a * p1 + b * p2 + x), .int .i64 (c * p1 + d * p2 + y)]) ∧ Below w.heap.size w w' := by
  obtain ⟨m1, m2⟩ := mul_bd (x := a) (y := p1) (m := 100000000) (n := 2000000000) (by omega) (by omega) (by omega) (by omega)
  obtain ⟨m3, m4⟩ := mul_bd (x := b) (y := p2) (m := 100000000) (n := 2000000000) (by omega) (by omega) (by omega) (by omega)
  obtain ⟨m5, m6⟩ := mul_bd (x := c) (y := p1) (m := 100000000) (n := 2000000000) (by omega) (by omega) (by omega) (by omega)
  obtain ⟨m7, m8⟩ := mul_bd (x := d) (y := p2) (m := 100000000) (n := 2000000000) (by omega) (by omega) (by omega) (by omega)
  have s1 : IntKind.i64.wrap (a * p1) = a * p1 := IntWalk.i64_in _ (by omega)
  have s2 : IntKind.i64.wrap (b * p2) = b * p2 := IntWalk.i64_in _ (by omega)
  have s3 : IntKind.i64.wrap (c * p1) = c * p1 := IntWalk.i64_in _ (by omega)
  have s4 : IntKind.i64.wrap (d * p2) = d * p2 := IntWalk.i64_in _ (by omega)
  have s5 : IntKind.i64.wrap (a * p1 + b * p2) = a * p1 + b * p2 := IntWalk.i64_in _ (by omega)
  have s6 : IntKind.i64.wrap (c * p1 + d * p2) = c * p1 + d * p2 := IntWalk.i64_in _ (by omega)
  have s7 : IntKind.i64.wrap (a * p1 + b * p2 + x) = a * p1 + b * p2 + x := IntWalk.i64_in _ (by omega)
  have s8 : IntKind.i64.wrap (c * p1 + d * p2 + y) = c * p1 + d * p2 + y := IntWalk.i64_in _ (by omega)
  clear m1 m2 m3 m4 m5 m6 m7 m8 ha hb hc hd hx hy hp hq
  go_enter Try.func108, Try.ntmps108
  go_wp2_with fail
  exact bodyPost_ret (v := .agg #[.int .i64 (a * p1 + b * p2 + x), .int .i64 (c * p1 + d * p2 + y)]) (by simp [results, Try.results108, go_sem]) rfl ⟨rfl, (by repeat (first | exact Below.refl _ _ | assumption | apply Below.drew | refine Below.alloc ?_ (by simp <;> omega) _))⟩
end Go.Proofs.Ytheddoinnakneaa
/- contracts: a move if it is one; shears; pegs that are brought, on both sides -/
namespace Go.Proofs.Ytheddoinnakneaa
open Go.ChangeShapes Go.WideShapes Go.ChangeAt Go.RowKit Go.Joins
set_option linter.unusedVariables false
set_option linter.unusedSimpArgs false
set_option maxRecDepth 4000
theorem at2_set0 {w : World} {g : Nat} {a b : Int} (h : g < w.heap.size ∧ w.cell? ⟨g, 0, none⟩ = some (.int .i64 a) ∧ w.cell? ⟨g, 1, none⟩ = some (.int .i64 b)) (v : Int) :
    g < (w.setCell ⟨g, 0, none⟩ (.int .i64 v)).heap.size ∧ (w.setCell ⟨g, 0, none⟩ (.int .i64 v)).cell? ⟨g, 0, none⟩ = some (.int .i64 v) ∧ (w.setCell ⟨g, 0, none⟩ (.int .i64 v)).cell? ⟨g, 1, none⟩ = some (.int .i64 b) := by
  obtain ⟨h0, h1, h2⟩ := h
  exact ⟨by simpa [World.setCell] using h0, World.cell?_setCell_same w _ _ h1, by rw [World.cell?_setCell_other w _ _ _ (fun e => by injection e with e1 e2; cases e2)]; exact h2⟩
theorem at2_set1 {w : World} {g : Nat} {a b : Int} (h : g < w.heap.size ∧ w.cell? ⟨g, 0, none⟩ = some (.int .i64 a) ∧ w.cell? ⟨g, 1, none⟩ = some (.int .i64 b)) (v : Int) :
    g < (w.setCell ⟨g, 1, none⟩ (.int .i64 v)).heap.size ∧ (w.setCell ⟨g, 1, none⟩ (.int .i64 v)).cell? ⟨g, 0, none⟩ = some (.int .i64 a) ∧ (w.setCell ⟨g, 1, none⟩ (.int .i64 v)).cell? ⟨g, 1, none⟩ = some (.int .i64 v) := by
  obtain ⟨h0, h1, h2⟩ := h
  exact ⟨by simpa [World.setCell] using h0, by rw [World.cell?_setCell_other w _ _ _ (fun e => by injection e with e1 e2; cases e2)]; exact h1, World.cell?_setCell_same w _ _ h2⟩
set_option maxHeartbeats 1000000 in
theorem mvIf_any (a b c d x y : Int) (w : World) :
    Calls Try.prog 61 #[.agg #[.int .i64 a, .int .i64 b, .int .i64 c, .int .i64 d, .int .i64 x, .int .i64 y]] w fun e w' => e = .returned (.tuple #[.agg #[.int .i64 (bsel (goodM a b c d x y) a), .int .i64 (bsel (goodM a b c d x y) b), .int .i64 (bsel (goodM a b c d x y) c), .int .i64 (bsel (goodM a b c d x y) d), .int .i64 (bsel (goodM a b c d x y) x), .int .i64 (bsel (goodM a b c d x y) y)], .bool (goodM a b c d x y)]) ∧ Below w.heap.size w w' := by
  have K := Lib.hid (fun W => mvGood_any a b c d x y W)
  by_cases hg : goodM a b c d x y = true
  · rw [hg] at K ⊢
    clear hg
    go_enter Try.func61, Try.ntmps61
    go_wp2_with fail
    obtain ⟨W0, hW0⟩ : ∃ W0, W0 = ((w.alloc (.cells #[.int .i64 a, .int .i64 b, .int .i64 c, .int .i64 d, .int .i64 x, .int .i64 y] 41)).alloc (.cells #[.int .i64 0, .int .i64 0, .int .i64 0, .int .i64 0, .int .i64 0, .int .i64 0] 41)) := ⟨_, rfl⟩
    rw [← hW0]
    have yW00_0 : W0.cell? ⟨w.heap.size, 0, none⟩ = some (.int .i64 a) := by rw [hW0]; go_simp
    have yW00_1 : W0.cell? ⟨w.heap.size, 1, none⟩ = some (.int .i64 b) := by rw [hW0]; go_simp
    have yW00_2 : W0.cell? ⟨w.heap.size, 2, none⟩ = some (.int .i64 c) := by rw [hW0]; go_simp
    have yW00_3 : W0.cell? ⟨w.heap.size, 3, none⟩ = some (.int .i64 d) := by rw [hW0]; go_simp
    have yW00_4 : W0.cell? ⟨w.heap.size, 4, none⟩ = some (.int .i64 x) := by rw [hW0]; go_simp
    have yW00_5 : W0.cell? ⟨w.heap.size, 5, none⟩ = some (.int .i64 y) := by rw [hW0]; go_simp
    have fW00 : ∀ o, W0.frozen? ⟨w.heap.size, o, none⟩ = false := by intro o; rw [hW0]; (repeat rw [frozen?_alloc_cells]); simp [World.frozen?]
    have zW00 : w.heap.size < W0.heap.size := by rw [hW0]; simp <;> omega
    have yW01_0 : W0.cell? ⟨w.heap.size + 1, 0, none⟩ = some (.int .i64 0) := by rw [hW0]; go_simp
    have yW01_1 : W0.cell? ⟨w.heap.size + 1, 1, none⟩ = some (.int .i64 0) := by rw [hW0]; go_simp
    have yW01_2 : W0.cell? ⟨w.heap.size + 1, 2, none⟩ = some (.int .i64 0) := by rw [hW0]; go_simp
    have yW01_3 : W0.cell? ⟨w.heap.size + 1, 3, none⟩ = some (.int .i64 0) := by rw [hW0]; go_simp
    have yW01_4 : W0.cell? ⟨w.heap.size + 1, 4, none⟩ = some (.int .i64 0) := by rw [hW0]; go_simp
    have yW01_5 : W0.cell? ⟨w.heap.size + 1, 5, none⟩ = some (.int .i64 0) := by rw [hW0]; go_simp
    have fW01 : ∀ o, W0.frozen? ⟨w.heap.size + 1, o, none⟩ = false := by intro o; rw [hW0]; (repeat rw [frozen?_alloc_cells]); simp [World.frozen?]
    have zW01 : w.heap.size + 1 < W0.heap.size := by rw [hW0]; simp <;> omega
    have BW0 : Below w.heap.size w W0 := by rw [hW0]; exact (Below.alloc (Below.alloc (Below.refl _ _) (by simp <;> omega) _) (by simp <;> omega) _)
    have eW0 : Hid (W0.heap.size = w.heap.size + 2) := Lib.hid (by rw [hW0]; simp)
    clear hW0
    have E6 := Lib.hid (show Own6 W0 (w.heap.size) a b c d x y from ⟨⟨zW00, yW00_0, yW00_1, yW00_2, yW00_3, yW00_4, yW00_5⟩, fW00⟩)
    have R6 := Lib.hid (show Own6 W0 (w.heap.size + 1) 0 0 0 0 0 0 from ⟨⟨zW01, yW01_0, yW01_1, yW01_2, yW01_3, yW01_4, yW01_5⟩, fW01⟩)
    clear zW00 fW00 yW00_0 yW00_1 yW00_2 yW00_3 yW00_4 yW00_5 zW01 fW01 yW01_0 yW01_1 yW01_2 yW01_3 yW01_4 yW01_5 eW0
    refine (K.out _).mono ?_; rintro e w1 ⟨rfl, hbw1⟩
    have Bw1 := BW0.trans (hbw1.mono BW0.size)
    have E6 := Lib.hid (own6_below E6.out hbw1 E6.out.1.1)
    have R6 := Lib.hid (own6_below R6.out hbw1 R6.out.1.1)
    clear hbw1 BW0
    have R7 := Lib.hid (at6_set5 (at6_set4 (at6_set3 (at6_set2 (at6_set1 (at6_set0 (R6.out.1) a) b) c) d) x) y)
    have B7 := Lib.hid ((((((Bw1.setCell (p := ⟨w.heap.size + 1, 0, none⟩) (Nat.le_add_right _ _) (.int .i64 a)).setCell (p := ⟨w.heap.size + 1, 1, none⟩) (Nat.le_add_right _ _) (.int .i64 b)).setCell (p := ⟨w.heap.size + 1, 2, none⟩) (Nat.le_add_right _ _) (.int .i64 c)).setCell (p := ⟨w.heap.size + 1, 3, none⟩) (Nat.le_add_right _ _) (.int .i64 d)).setCell (p := ⟨w.heap.size + 1, 4, none⟩) (Nat.le_add_right _ _) (.int .i64 x)).setCell (p := ⟨w.heap.size + 1, 5, none⟩) (Nat.le_add_right _ _) (.int .i64 y))
    obtain ⟨⟨zp, cp0, cp1, cp2, cp3, cp4, cp5⟩, fp⟩ := E6.out
    unfold Fz at fp
    obtain ⟨⟨zr, cr0, cr1, cr2, cr3, cr4, cr5⟩, fr⟩ := R6.out
    unfold Fz at fr
    go_wp2_with fail
    have R8 := R7.out
    have B8 := B7.out
    clear R7 B7
    revert R8 B8
    generalize ((((((w1.setCell ⟨w.heap.size + 1, 0, none⟩ (.int .i64 a)).setCell ⟨w.heap.size + 1, 1, none⟩ (.int .i64 b)).setCell ⟨w.heap.size + 1, 2, none⟩ (.int .i64 c)).setCell ⟨w.heap.size + 1, 3, none⟩ (.int .i64 d)).setCell ⟨w.heap.size + 1, 4, none⟩ (.int .i64 x)).setCell ⟨w.heap.size + 1, 5, none⟩ (.int .i64 y)) = W9
    intro R8 B8
    obtain ⟨zz, s0, s1, s2, s3, s4, s5⟩ := R8
    exact bodyPost_ret (v := .tuple #[.agg #[.int .i64 a, .int .i64 b, .int .i64 c, .int .i64 d, .int .i64 x, .int .i64 y], .bool true]) (by simp [results, Try.results61, go_sem, s0, s1, s2, s3, s4, s5]) rfl ⟨rfl, B8⟩
  · have hg : goodM a b c d x y = false := by simpa using hg
    rw [hg] at K ⊢
    clear hg
    go_enter Try.func61, Try.ntmps61
    go_wp2_with fail
    obtain ⟨W0, hW0⟩ : ∃ W0, W0 = ((w.alloc (.cells #[.int .i64 a, .int .i64 b, .int .i64 c, .int .i64 d, .int .i64 x, .int .i64 y] 41)).alloc (.cells #[.int .i64 0, .int .i64 0, .int .i64 0, .int .i64 0, .int .i64 0, .int .i64 0] 41)) := ⟨_, rfl⟩
    rw [← hW0]
    have yW00_0 : W0.cell? ⟨w.heap.size, 0, none⟩ = some (.int .i64 a) := by rw [hW0]; go_simp
    have yW00_1 : W0.cell? ⟨w.heap.size, 1, none⟩ = some (.int .i64 b) := by rw [hW0]; go_simp
    have yW00_2 : W0.cell? ⟨w.heap.size, 2, none⟩ = some (.int .i64 c) := by rw [hW0]; go_simp
    have yW00_3 : W0.cell? ⟨w.heap.size, 3, none⟩ = some (.int .i64 d) := by rw [hW0]; go_simp
    have yW00_4 : W0.cell? ⟨w.heap.size, 4, none⟩ = some (.int .i64 x) := by rw [hW0]; go_simp
    have yW00_5 : W0.cell? ⟨w.heap.size, 5, none⟩ = some (.int .i64 y) := by rw [hW0]; go_simp
    have fW00 : ∀ o, W0.frozen? ⟨w.heap.size, o, none⟩ = false := by intro o; rw [hW0]; (repeat rw [frozen?_alloc_cells]); simp [World.frozen?]
    have zW00 : w.heap.size < W0.heap.size := by rw [hW0]; simp <;> omega
    have yW01_0 : W0.cell? ⟨w.heap.size + 1, 0, none⟩ = some (.int .i64 0) := by rw [hW0]; go_simp
    have yW01_1 : W0.cell? ⟨w.heap.size + 1, 1, none⟩ = some (.int .i64 0) := by rw [hW0]; go_simp
    have yW01_2 : W0.cell? ⟨w.heap.size + 1, 2, none⟩ = some (.int .i64 0) := by rw [hW0]; go_simp
    have yW01_3 : W0.cell? ⟨w.heap.size + 1, 3, none⟩ = some (.int .i64 0) := by rw [hW0]; go_simp
    have yW01_4 : W0.cell? ⟨w.heap.size + 1, 4, none⟩ = some (.int .i64 0) := by rw [hW0]; go_simp
    have yW01_5 : W0.cell? ⟨w.heap.size + 1, 5, none⟩ = some (.int .i64 0) := by rw [hW0]; go_simp
    have fW01 : ∀ o, W0.frozen? ⟨w.heap.size + 1, o, none⟩ = false := by intro o; rw [hW0]; (repeat rw [frozen?_alloc_cells]); simp [World.frozen?]
    have zW01 : w.heap.size + 1 < W0.heap.size := by rw [hW0]; simp <;> omega
    have BW0 : Below w.heap.size w W0 := by rw [hW0]; exact (Below.alloc (Below.alloc (Below.refl _ _) (by simp <;> omega) _) (by simp <;> omega) _)
    have eW0 : Hid (W0.heap.size = w.heap.size + 2) := Lib.hid (by rw [hW0]; simp)
    clear hW0
    have E6 := Lib.hid (show Own6 W0 (w.heap.size) a b c d x y from ⟨⟨zW00, yW00_0, yW00_1, yW00_2, yW00_3, yW00_4, yW00_5⟩, fW00⟩)
    have R6 := Lib.hid (show Own6 W0 (w.heap.size + 1) 0 0 0 0 0 0 from ⟨⟨zW01, yW01_0, yW01_1, yW01_2, yW01_3, yW01_4, yW01_5⟩, fW01⟩)
    clear zW00 fW00 yW00_0 yW00_1 yW00_2 yW00_3 yW00_4 yW00_5 zW01 fW01 yW01_0 yW01_1 yW01_2 yW01_3 yW01_4 yW01_5 eW0
    refine (K.out _).mono ?_; rintro e w1 ⟨rfl, hbw1⟩
    have Bw1 := BW0.trans (hbw1.mono BW0.size)
    have E6 := Lib.hid (own6_below E6.out hbw1 E6.out.1.1)
    have R6 := Lib.hid (own6_below R6.out hbw1 R6.out.1.1)
    clear hbw1 BW0
    have R7 := Lib.hid (at6_set5 (at6_set4 (at6_set3 (at6_set2 (at6_set1 (at6_set0 (R6.out.1) 0) 0) 0) 0) 0) 0)
    have B7 := Lib.hid ((((((Bw1.setCell (p := ⟨w.heap.size + 1, 0, none⟩) (Nat.le_add_right _ _) (.int .i64 0)).setCell (p := ⟨w.heap.size + 1, 1, none⟩) (Nat.le_add_right _ _) (.int .i64 0)).setCell (p := ⟨w.heap.size + 1, 2, none⟩) (Nat.le_add_right _ _) (.int .i64 0)).setCell (p := ⟨w.heap.size + 1, 3, none⟩) (Nat.le_add_right _ _) (.int .i64 0)).setCell (p := ⟨w.heap.size + 1, 4, none⟩) (Nat.le_add_right _ _) (.int .i64 0)).setCell (p := ⟨w.heap.size + 1, 5, none⟩) (Nat.le_add_right _ _) (.int .i64 0))
    obtain ⟨⟨zp, cp0, cp1, cp2, cp3, cp4, cp5⟩, fp⟩ := E6.out
    unfold Fz at fp
    obtain ⟨⟨zr, cr0, cr1, cr2, cr3, cr4, cr5⟩, fr⟩ := R6.out
    unfold Fz at fr
    go_wp2_with fail
    have R8 := R7.out
    have B8 := B7.out
    clear R7 B7
    revert R8 B8
    generalize ((((((w1.setCell ⟨w.heap.size + 1, 0, none⟩ (.int .i64 0)).setCell ⟨w.heap.size + 1, 1, none⟩ (.int .i64 0)).setCell ⟨w.heap.size + 1, 2, none⟩ (.int .i64 0)).setCell ⟨w.heap.size + 1, 3, none⟩ (.int .i64 0)).setCell ⟨w.heap.size + 1, 4, none⟩ (.int .i64 0)).setCell ⟨w.heap.size + 1, 5, none⟩ (.int .i64 0)) = W9
    intro R8 B8
    obtain ⟨zz, s0, s1, s2, s3, s4, s5⟩ := R8
    exact bodyPost_ret (v := .tuple #[.agg #[.int .i64 0, .int .i64 0, .int .i64 0, .int .i64 0, .int .i64 0, .int .i64 0], .bool false]) (by simp [results, Try.results61, go_sem, s0, s1, s2, s3, s4, s5]) rfl ⟨rfl, B8⟩
set_option maxHeartbeats 1000000 in
theorem asMove_any (a b c d x y : Int) (w : World) :
    Calls Try.prog 65 #[.agg #[.int .i64 a, .int .i64 b, .int .i64 c, .int .i64 d, .int .i64 x, .int .i64 y]] w fun e w' => e = .returned (.tuple #[.agg #[.int .i64 (bsel (goodM a b c d x y) a), .int .i64 (bsel (goodM a b c d x y) b), .int .i64 (bsel (goodM a b c d x y) c), .int .i64 (bsel (goodM a b c d x y) d), .int .i64 (bsel (goodM a b c d x y) x), .int .i64 (bsel (goodM a b c d x y) y)], .bool (goodM a b c d x y)]) ∧ Below w.heap.size w w' := by
  have K := Lib.hid (fun W => implIsMove_any a b c d x y W)
  by_cases hg : goodM a b c d x y = true
  · rw [hg] at K ⊢
    clear hg
    go_enter Try.func65, Try.ntmps65
    go_wp2_with fail
    obtain ⟨W0, hW0⟩ : ∃ W0, W0 = (((w.alloc (.cells #[.int .i64 a, .int .i64 b, .int .i64 c, .int .i64 d, .int .i64 x, .int .i64 y] 80)).alloc (.cells #[.int .i64 0, .int .i64 0, .int .i64 0, .int .i64 0, .int .i64 0, .int .i64 0] 41)).alloc (.cells #[.int .i64 a, .int .i64 b, .int .i64 c, .int .i64 d, .int .i64 x, .int .i64 y] 41)) := ⟨_, rfl⟩
    rw [← hW0]
    have yW00_0 : W0.cell? ⟨w.heap.size, 0, none⟩ = some (.int .i64 a) := by rw [hW0]; go_simp
    have yW00_1 : W0.cell? ⟨w.heap.size, 1, none⟩ = some (.int .i64 b) := by rw [hW0]; go_simp
    have yW00_2 : W0.cell? ⟨w.heap.size, 2, none⟩ = some (.int .i64 c) := by rw [hW0]; go_simp
    have yW00_3 : W0.cell? ⟨w.heap.size, 3, none⟩ = some (.int .i64 d) := by rw [hW0]; go_simp
    have yW00_4 : W0.cell? ⟨w.heap.size, 4, none⟩ = some (.int .i64 x) := by rw [hW0]; go_simp
    have yW00_5 : W0.cell? ⟨w.heap.size, 5, none⟩ = some (.int .i64 y) := by rw [hW0]; go_simp
    have fW00 : ∀ o, W0.frozen? ⟨w.heap.size, o, none⟩ = false := by intro o; rw [hW0]; (repeat rw [frozen?_alloc_cells]); simp [World.frozen?]
    have zW00 : w.heap.size < W0.heap.size := by rw [hW0]; simp <;> omega
    have yW01_0 : W0.cell? ⟨w.heap.size + 1, 0, none⟩ = some (.int .i64 0) := by rw [hW0]; go_simp
    have yW01_1 : W0.cell? ⟨w.heap.size + 1, 1, none⟩ = some (.int .i64 0) := by rw [hW0]; go_simp
    have yW01_2 : W0.cell? ⟨w.heap.size + 1, 2, none⟩ = some (.int .i64 0) := by rw [hW0]; go_simp
    have yW01_3 : W0.cell? ⟨w.heap.size + 1, 3, none⟩ = some (.int .i64 0) := by rw [hW0]; go_simp
    have yW01_4 : W0.cell? ⟨w.heap.size + 1, 4, none⟩ = some (.int .i64 0) := by rw [hW0]; go_simp
    have yW01_5 : W0.cell? ⟨w.heap.size + 1, 5, none⟩ = some (.int .i64 0) := by rw [hW0]; go_simp
    have fW01 : ∀ o, W0.frozen? ⟨w.heap.size + 1, o, none⟩ = false := by intro o; rw [hW0]; (repeat rw [frozen?_alloc_cells]); simp [World.frozen?]
    have zW01 : w.heap.size + 1 < W0.heap.size := by rw [hW0]; simp <;> omega
    have yW02_0 : W0.cell? ⟨w.heap.size + 2, 0, none⟩ = some (.int .i64 a) := by rw [hW0]; go_simp
    have yW02_1 : W0.cell? ⟨w.heap.size + 2, 1, none⟩ = some (.int .i64 b) := by rw [hW0]; go_simp
    have yW02_2 : W0.cell? ⟨w.heap.size + 2, 2, none⟩ = some (.int .i64 c) := by rw [hW0]; go_simp
    have yW02_3 : W0.cell? ⟨w.heap.size + 2, 3, none⟩ = some (.int .i64 d) := by rw [hW0]; go_simp
    have yW02_4 : W0.cell? ⟨w.heap.size + 2, 4, none⟩ = some (.int .i64 x) := by rw [hW0]; go_simp
    have yW02_5 : W0.cell? ⟨w.heap.size + 2, 5, none⟩ = some (.int .i64 y) := by rw [hW0]; go_simp
    have fW02 : ∀ o, W0.frozen? ⟨w.heap.size + 2, o, none⟩ = false := by intro o; rw [hW0]; (repeat rw [frozen?_alloc_cells]); simp [World.frozen?]
    have zW02 : w.heap.size + 2 < W0.heap.size := by rw [hW0]; simp <;> omega
    have BW0 : Below w.heap.size w W0 := by rw [hW0]; exact (Below.alloc (Below.alloc (Below.alloc (Below.refl _ _) (by simp <;> omega) _) (by simp <;> omega) _) (by simp <;> omega) _)
    have eW0 : Hid (W0.heap.size = w.heap.size + 3) := Lib.hid (by rw [hW0]; simp)
    clear hW0
    have E6 := Lib.hid (show Own6 W0 (w.heap.size + 2) a b c d x y from ⟨⟨zW02, yW02_0, yW02_1, yW02_2, yW02_3, yW02_4, yW02_5⟩, fW02⟩)
    have R6 := Lib.hid (show Own6 W0 (w.heap.size + 1) 0 0 0 0 0 0 from ⟨⟨zW01, yW01_0, yW01_1, yW01_2, yW01_3, yW01_4, yW01_5⟩, fW01⟩)
    clear zW00 fW00 yW00_0 yW00_1 yW00_2 yW00_3 yW00_4 yW00_5 zW01 fW01 yW01_0 yW01_1 yW01_2 yW01_3 yW01_4 yW01_5 zW02 fW02 yW02_0 yW02_1 yW02_2 yW02_3 yW02_4 yW02_5 eW0
    obtain ⟨⟨zp, cp0, cp1, cp2, cp3, cp4, cp5⟩, fp⟩ := E6.out
    unfold Fz at fp
    go_wp2_with fail
    clear zp fp cp0 cp1 cp2 cp3 cp4 cp5
    refine (K.out _).mono ?_; rintro e w1 ⟨rfl, hbw1⟩
    have Bw1 := BW0.trans (hbw1.mono BW0.size)
    have E6 := Lib.hid (own6_below E6.out hbw1 E6.out.1.1)
    have R6 := Lib.hid (own6_below R6.out hbw1 R6.out.1.1)
    clear hbw1 BW0
    have R7 := Lib.hid (at6_set5 (at6_set4 (at6_set3 (at6_set2 (at6_set1 (at6_set0 (R6.out.1) a) b) c) d) x) y)
    have B7 := Lib.hid ((((((Bw1.setCell (p := ⟨w.heap.size + 1, 0, none⟩) (Nat.le_add_right _ _) (.int .i64 a)).setCell (p := ⟨w.heap.size + 1, 1, none⟩) (Nat.le_add_right _ _) (.int .i64 b)).setCell (p := ⟨w.heap.size + 1, 2, none⟩) (Nat.le_add_right _ _) (.int .i64 c)).setCell (p := ⟨w.heap.size + 1, 3, none⟩) (Nat.le_add_right _ _) (.int .i64 d)).setCell (p := ⟨w.heap.size + 1, 4, none⟩) (Nat.le_add_right _ _) (.int .i64 x)).setCell (p := ⟨w.heap.size + 1, 5, none⟩) (Nat.le_add_right _ _) (.int .i64 y))
    obtain ⟨⟨zp, cp0, cp1, cp2, cp3, cp4, cp5⟩, fp⟩ := E6.out
    unfold Fz at fp
    obtain ⟨⟨zr, cr0, cr1, cr2, cr3, cr4, cr5⟩, fr⟩ := R6.out
    unfold Fz at fr
    go_wp2_with fail
    have R8 := R7.out
    have B8 := B7.out
    clear R7 B7
    revert R8 B8
    generalize ((((((w1.setCell ⟨w.heap.size + 1, 0, none⟩ (.int .i64 a)).setCell ⟨w.heap.size + 1, 1, none⟩ (.int .i64 b)).setCell ⟨w.heap.size + 1, 2, none⟩ (.int .i64 c)).setCell ⟨w.heap.size + 1, 3, none⟩ (.int .i64 d)).setCell ⟨w.heap.size + 1, 4, none⟩ (.int .i64 x)).setCell ⟨w.heap.size + 1, 5, none⟩ (.int .i64 y)) = W9
    intro R8 B8
    obtain ⟨zz, s0, s1, s2, s3, s4, s5⟩ := R8
    exact bodyPost_ret (v := .tuple #[.agg #[.int .i64 a, .int .i64 b, .int .i64 c, .int .i64 d, .int .i64 x, .int .i64 y], .bool true]) (by simp [results, Try.results65, go_sem, s0, s1, s2, s3, s4, s5]) rfl ⟨rfl, B8⟩
  · have hg : goodM a b c d x y = false := by simpa using hg
    rw [hg] at K ⊢
    clear hg
    go_enter Try.func65, Try.ntmps65
    go_wp2_with fail
    obtain ⟨W0, hW0⟩ : ∃ W0, W0 = (((w.alloc (.cells #[.int .i64 a, .int .i64 b, .int .i64 c, .int .i64 d, .int .i64 x, .int .i64 y] 80)).alloc (.cells #[.int .i64 0, .int .i64 0, .int .i64 0, .int .i64 0, .int .i64 0, .int .i64 0] 41)).alloc (.cells #[.int .i64 a, .int .i64 b, .int .i64 c, .int .i64 d, .int .i64 x, .int .i64 y] 41)) := ⟨_, rfl⟩
    rw [← hW0]
    have yW00_0 : W0.cell? ⟨w.heap.size, 0, none⟩ = some (.int .i64 a) := by rw [hW0]; go_simp
    have yW00_1 : W0.cell? ⟨w.heap.size, 1, none⟩ = some (.int .i64 b) := by rw [hW0]; go_simp
    have yW00_2 : W0.cell? ⟨w.heap.size, 2, none⟩ = some (.int .i64 c) := by rw [hW0]; go_simp
    have yW00_3 : W0.cell? ⟨w.heap.size, 3, none⟩ = some (.int .i64 d) := by rw [hW0]; go_simp
    have yW00_4 : W0.cell? ⟨w.heap.size, 4, none⟩ = some (.int .i64 x) := by rw [hW0]; go_simp
    have yW00_5 : W0.cell? ⟨w.heap.size, 5, none⟩ = some (.int .i64 y) := by rw [hW0]; go_simp
    have fW00 : ∀ o, W0.frozen? ⟨w.heap.size, o, none⟩ = false := by intro o; rw [hW0]; (repeat rw [frozen?_alloc_cells]); simp [World.frozen?]
    have zW00 : w.heap.size < W0.heap.size := by rw [hW0]; simp <;> omega
    have yW01_0 : W0.cell? ⟨w.heap.size + 1, 0, none⟩ = some (.int .i64 0) := by rw [hW0]; go_simp
    have yW01_1 : W0.cell? ⟨w.heap.size + 1, 1, none⟩ = some (.int .i64 0) := by rw [hW0]; go_simp
    have yW01_2 : W0.cell? ⟨w.heap.size + 1, 2, none⟩ = some (.int .i64 0) := by rw [hW0]; go_simp
    have yW01_3 : W0.cell? ⟨w.heap.size + 1, 3, none⟩ = some (.int .i64 0) := by rw [hW0]; go_simp
    have yW01_4 : W0.cell? ⟨w.heap.size + 1, 4, none⟩ = some (.int .i64 0) := by rw [hW0]; go_simp
    have yW01_5 : W0.cell? ⟨w.heap.size + 1, 5, none⟩ = some (.int .i64 0) := by rw [hW0]; go_simp
    have fW01 : ∀ o, W0.frozen? ⟨w.heap.size + 1, o, none⟩ = false := by intro o; rw [hW0]; (repeat rw [frozen?_alloc_cells]); simp [World.frozen?]
    have zW01 : w.heap.size + 1 < W0.heap.size := by rw [hW0]; simp <;> omega
    have yW02_0 : W0.cell? ⟨w.heap.size + 2, 0, none⟩ = some (.int .i64 a) := by rw [hW0]; go_simp
    have yW02_1 : W0.cell? ⟨w.heap.size + 2, 1, none⟩ = some (.int .i64 b) := by rw [hW0]; go_simp
    have yW02_2 : W0.cell? ⟨w.heap.size + 2, 2, none⟩ = some (.int .i64 c) := by rw [hW0]; go_simp
    have yW02_3 : W0.cell? ⟨w.heap.size + 2, 3, none⟩ = some (.int .i64 d) := by rw [hW0]; go_simp
    have yW02_4 : W0.cell? ⟨w.heap.size + 2, 4, none⟩ = some (.int .i64 x) := by rw [hW0]; go_simp
    have yW02_5 : W0.cell? ⟨w.heap.size + 2, 5, none⟩ = some (.int .i64 y) := by rw [hW0]; go_simp
    have fW02 : ∀ o, W0.frozen? ⟨w.heap.size + 2, o, none⟩ = false := by intro o; rw [hW0]; (repeat rw [frozen?_alloc_cells]); simp [World.frozen?]
    have zW02 : w.heap.size + 2 < W0.heap.size := by rw [hW0]; simp <;> omega
    have BW0 : Below w.heap.size w W0 := by rw [hW0]; exact (Below.alloc (Below.alloc (Below.alloc (Below.refl _ _) (by simp <;> omega) _) (by simp <;> omega) _) (by simp <;> omega) _)
    have eW0 : Hid (W0.heap.size = w.heap.size + 3) := Lib.hid (by rw [hW0]; simp)
    clear hW0
    have E6 := Lib.hid (show Own6 W0 (w.heap.size + 2) a b c d x y from ⟨⟨zW02, yW02_0, yW02_1, yW02_2, yW02_3, yW02_4, yW02_5⟩, fW02⟩)
    have R6 := Lib.hid (show Own6 W0 (w.heap.size + 1) 0 0 0 0 0 0 from ⟨⟨zW01, yW01_0, yW01_1, yW01_2, yW01_3, yW01_4, yW01_5⟩, fW01⟩)
    clear zW00 fW00 yW00_0 yW00_1 yW00_2 yW00_3 yW00_4 yW00_5 zW01 fW01 yW01_0 yW01_1 yW01_2 yW01_3 yW01_4 yW01_5 zW02 fW02 yW02_0 yW02_1 yW02_2 yW02_3 yW02_4 yW02_5 eW0
    obtain ⟨⟨zp, cp0, cp1, cp2, cp3, cp4, cp5⟩, fp⟩ := E6.out
    unfold Fz at fp
    go_wp2_with fail
    clear zp fp cp0 cp1 cp2 cp3 cp4 cp5
    refine (K.out _).mono ?_; rintro e w1 ⟨rfl, hbw1⟩
    have Bw1 := BW0.trans (hbw1.mono BW0.size)
    have E6 := Lib.hid (own6_below E6.out hbw1 E6.out.1.1)
    have R6 := Lib.hid (own6_below R6.out hbw1 R6.out.1.1)
    clear hbw1 BW0
    have R7 := Lib.hid (at6_set5 (at6_set4 (at6_set3 (at6_set2 (at6_set1 (at6_set0 (R6.out.1) 0) 0) 0) 0) 0) 0)
    have B7 := Lib.hid ((((((Bw1.setCell (p := ⟨w.heap.size + 1, 0, none⟩) (Nat.le_add_right _ _) (.int .i64 0)).setCell (p := ⟨w.heap.size + 1, 1, none⟩) (Nat.le_add_right _ _) (.int .i64 0)).setCell (p := ⟨w.heap.size + 1, 2, none⟩) (Nat.le_add_right _ _) (.int .i64 0)).setCell (p := ⟨w.heap.size + 1, 3, none⟩) (Nat.le_add_right _ _) (.int .i64 0)).setCell (p := ⟨w.heap.size + 1, 4, none⟩) (Nat.le_add_right _ _) (.int .i64 0)).setCell (p := ⟨w.heap.size + 1, 5, none⟩) (Nat.le_add_right _ _) (.int .i64 0))
    obtain ⟨⟨zp, cp0, cp1, cp2, cp3, cp4, cp5⟩, fp⟩ := E6.out
    unfold Fz at fp
    obtain ⟨⟨zr, cr0, cr1, cr2, cr3, cr4, cr5⟩, fr⟩ := R6.out
    unfold Fz at fr
    go_wp2_with fail
    have R8 := R7.out
    have B8 := B7.out
    clear R7 B7
    revert R8 B8
    generalize ((((((w1.setCell ⟨w.heap.size + 1, 0, none⟩ (.int .i64 0)).setCell ⟨w.heap.size + 1, 1, none⟩ (.int .i64 0)).setCell ⟨w.heap.size + 1, 2, none⟩ (.int .i64 0)).setCell ⟨w.heap.size + 1, 3, none⟩ (.int .i64 0)).setCell ⟨w.heap.size + 1, 4, none⟩ (.int .i64 0)).setCell ⟨w.heap.size + 1, 5, none⟩ (.int .i64 0)) = W9
    intro R8 B8
    obtain ⟨zz, s0, s1, s2, s3, s4, s5⟩ := R8
    exact bodyPost_ret (v := .tuple #[.agg #[.int .i64 0, .int .i64 0, .int .i64 0, .int .i64 0, .int .i64 0, .int .i64 0], .bool false]) (by simp [results, Try.results65, go_sem, s0, s1, s2, s3, s4, s5]) rfl ⟨rfl, B8⟩
theorem goodM_shear (k : Int) : goodM 1 k 0 1 0 0 = (decide (-20 ≤ k) && decide (k ≤ 20)) := by
  unfold goodM boxM
  rw [all4, all2]
  simp [inQ]
end Go.Proofs.Ytheddoinnakneaa
/- a new block and what is stored in it -/
namespace Go.Proofs.Ytheddoinnakneaa
open Go.ChangeShapes Go.WideShapes Go.ChangeAt Go.RowKit Go.Joins
set_option linter.unusedVariables false
set_option linter.unusedSimpArgs false
set_option maxRecDepth 4000
theorem own2_new (w : World) (t : TypeId) : Own2 (w.alloc (.cells #[.int .i64 0, .int .i64 0] t)) w.heap.size 0 0 :=
  ⟨⟨by simp, by go_simp, by go_simp⟩, fun o => by rw [frozen?_alloc_cells]; simp [World.frozen?]⟩
theorem own6_new (w : World) (t : TypeId) : Own6 (w.alloc (.cells #[.int .i64 0, .int .i64 0, .int .i64 0, .int .i64 0, .int .i64 0, .int .i64 0] t)) w.heap.size 0 0 0 0 0 0 :=
  ⟨⟨by simp, by go_simp, by go_simp, by go_simp, by go_simp, by go_simp, by go_simp⟩, fun o => by rw [frozen?_alloc_cells]; simp [World.frozen?]⟩
theorem al_below {W0 W1 W : World} {obj : Obj} (k1 : Below W0.heap.size W0 W1) (k2 : Below (W1.alloc obj).heap.size (W1.alloc obj) W) : Below W0.heap.size W0 W ∧ W0.heap.size ≤ W1.heap.size ∧ W1.heap.size < W.heap.size := by
  have h1 := k1.size
  have hA := Below.alloc k1 h1 obj
  refine ⟨hA.trans (k2.mono hA.size), h1, ?_⟩
  have := k2.size
  simp at this
  omega
theorem own2_sets {w : World} {g : Nat} {a b : Int} (h : Own2 w g a b) (x y : Int) : Own2 ((w.setCell ⟨g, 0, none⟩ (.int .i64 x)).setCell ⟨g, 1, none⟩ (.int .i64 y)) g x y :=
  ⟨at2_set1 (at2_set0 h.1 x) y, fun o => by rw [World.frozen?_setCell, World.frozen?_setCell]; exact h.2 o⟩
theorem own6_sets {w : World} {g : Nat} {a b c d e f : Int} (h : Own6 w g a b c d e f) (x0 x1 x2 x3 x4 x5 : Int) : Own6 ((((((w.setCell ⟨g, 0, none⟩ (.int .i64 x0)).setCell ⟨g, 1, none⟩ (.int .i64 x1)).setCell ⟨g, 2, none⟩ (.int .i64 x2)).setCell ⟨g, 3, none⟩ (.int .i64 x3)).setCell ⟨g, 4, none⟩ (.int .i64 x4)).setCell ⟨g, 5, none⟩ (.int .i64 x5)) g x0 x1 x2 x3 x4 x5 :=
  ⟨at6_set5 (at6_set4 (at6_set3 (at6_set2 (at6_set1 (at6_set0 h.1 x0) x1) x2) x3) x4) x5, fun o => by simp only [World.frozen?_setCell]; exact h.2 o⟩
theorem al2 {W0 W1 W : World} {t : TypeId} (k1 : Below W0.heap.size W0 W1) (k2 : Below (W1.alloc (.cells #[.int .i64 0, .int .i64 0] t)).heap.size (W1.alloc (.cells #[.int .i64 0, .int .i64 0] t)) W) (x y : Int) :
    Own2 ((W.setCell ⟨W1.heap.size, 0, none⟩ (.int .i64 x)).setCell ⟨W1.heap.size, 1, none⟩ (.int .i64 y)) W1.heap.size x y ∧ Below W0.heap.size W0 ((W.setCell ⟨W1.heap.size, 0, none⟩ (.int .i64 x)).setCell ⟨W1.heap.size, 1, none⟩ (.int .i64 y)) :=
  ⟨own2_sets (own2_below (own2_new W1 t) k2 (own2_new W1 t).1.1) x y, ((al_below k1 k2).1.setCell (p := ⟨W1.heap.size, 0, none⟩) k1.size _).setCell (p := ⟨W1.heap.size, 1, none⟩) k1.size _⟩
theorem al6 {W0 W1 W : World} {t : TypeId} (k1 : Below W0.heap.size W0 W1) (k2 : Below (W1.alloc (.cells #[.int .i64 0, .int .i64 0, .int .i64 0, .int .i64 0, .int .i64 0, .int .i64 0] t)).heap.size (W1.alloc (.cells #[.int .i64 0, .int .i64 0, .int .i64 0, .int .i64 0, .int .i64 0, .int .i64 0] t)) W) (x0 x1 x2 x3 x4 x5 : Int) :
    Own6 ((((((W.setCell ⟨W1.heap.size, 0, none⟩ (.int .i64 x0)).setCell ⟨W1.heap.size, 1, none⟩ (.int .i64 x1)).setCell ⟨W1.heap.size, 2, none⟩ (.int .i64 x2)).setCell ⟨W1.heap.size, 3, none⟩ (.int .i64 x3)).setCell ⟨W1.heap.size, 4, none⟩ (.int .i64 x4)).setCell ⟨W1.heap.size, 5, none⟩ (.int .i64 x5)) W1.heap.size x0 x1 x2 x3 x4 x5 ∧
      Below W0.heap.size W0 ((((((W.setCell ⟨W1.heap.size, 0, none⟩ (.int .i64 x0)).setCell ⟨W1.heap.size, 1, none⟩ (.int .i64 x1)).setCell ⟨W1.heap.size, 2, none⟩ (.int .i64 x2)).setCell ⟨W1.heap.size, 3, none⟩ (.int .i64 x3)).setCell ⟨W1.heap.size, 4, none⟩ (.int .i64 x4)).setCell ⟨W1.heap.size, 5, none⟩ (.int .i64 x5)) :=
  ⟨own6_sets (own6_below (own6_new W1 t) k2 (own6_new W1 t).1.1) x0 x1 x2 x3 x4 x5, ((((((al_below k1 k2).1.setCell (p := ⟨W1.heap.size, 0, none⟩) k1.size _).setCell (p := ⟨W1.heap.size, 1, none⟩) k1.size _).setCell (p := ⟨W1.heap.size, 2, none⟩) k1.size _).setCell (p := ⟨W1.heap.size, 3, none⟩) k1.size _).setCell (p := ⟨W1.heap.size, 4, none⟩) k1.size _).setCell (p := ⟨W1.heap.size, 5, none⟩) k1.size _⟩
end Go.Proofs.Ytheddoinnakneaa
/- contract: the move that lays a polygon flat, the model -/
namespace Go.Proofs.Ytheddoinnakneaa
open Go.ChangeShapes Go.WideShapes Go.ChangeAt Go.RowKit Go.Joins
set_option linter.unusedVariables false
set_option linter.unusedSimpArgs false
set_option maxRecDepth 4000
theorem own6_t2 {w : World} {g : Nat} {a b c d x y : Int} (h : Own6 w g a b c d x y) (v : Int) : Own6 (w.setCell ⟨g, 2, none⟩ (.int .i64 v)) g a b v d x y := ⟨at6_set2 h.1 v, fun q => by rw [World.frozen?_setCell]; exact h.2 q⟩
theorem own6_t3 {w : World} {g : Nat} {a b c d x y : Int} (h : Own6 w g a b c d x y) (v : Int) : Own6 (w.setCell ⟨g, 3, none⟩ (.int .i64 v)) g a b c v x y := ⟨at6_set3 h.1 v, fun q => by rw [World.frozen?_setCell]; exact h.2 q⟩
theorem own6_oth' {w : World} {g k : Nat} {a b c d x y : Int} (h : Own6 w g a b c d x y) (hn : g ≠ k) (o : Nat) (v : Value) : Own6 (w.setCell ⟨k, o, none⟩ v) g a b c d x y := by
  obtain ⟨⟨z, h0, h1, h2, h3, h4, h5⟩, hf⟩ := h
  have hc : ∀ p, (w.setCell ⟨k, o, none⟩ v).cell? ⟨g, p, none⟩ = w.cell? ⟨g, p, none⟩ := fun p => World.cell?_setCell_other _ _ _ _ (fun e => hn (by injection e with e1 e2; exact e1.symm))
  exact ⟨⟨by simpa [World.setCell] using z, (hc 0).trans h0, (hc 1).trans h1, (hc 2).trans h2, (hc 3).trans h3, (hc 4).trans h4, (hc 5).trans h5⟩, fun q => by rw [World.frozen?_setCell]; exact hf q⟩
set_option maxRecDepth 100000 in
set_option maxHeartbeats 8000000 in
theorem wiFlat_any (A : Option Addr) (c : Nat) (l : List (Int × Int)) (w : World) (hg : Good l) (hR : Rd w w.heap.size A l) :
    Calls Try.prog 62 #[.slice A l.length c] w fun e w' => e = .returned (.agg #[.int .i64 (bsA (fdU l) (fdV l)), .int .i64 (bsB (fdU l) (fdV l)), .int .i64 (fdU l), .int .i64 (fdV l), .int .i64 (-loW l (bsA (fdU l) (fdV l)) (bsB (fdU l) (fdV l)) l.length), .int .i64 (-loW l (fdU l) (fdV l) l.length)]) ∧ Below w.heap.size w w' := by
  have hf := hg.few
  have hw := wlG_facts hg
  obtain ⟨hu0, hu, hv, hgc⟩ := fd_facts hg
  have KL := Lib.hid (fun W (hb : Below w.heap.size w W) => wiLeast_any A c l (wlG l) W hw.1 hw.2.1 hw.2.2.1 hw.2.2.2 hg (rd_more (rd_below hR hb (Nat.le_refl _)) hb.size))
  have KF := Lib.hid (fun W => mvFull_any (fdV l) (-fdU l) W (by omega) (by omega))
  have hab := eu_bnd (a := fdV l) (b := -fdU l) (by omega) (by omega)
  have hbb := bsB_bd hu0 hu.2 hv hgc
  have KR := Lib.hid (fun W a b (ha : -20000 ≤ a ∧ a ≤ 20000) (hb' : -20000 ≤ b ∧ b ≤ 20000) (hb : Below w.heap.size w W) => wiRange_any A c l a b W ha.1 ha.2 hb'.1 hb'.2 hg (rd_more (rd_below hR hb (Nat.le_refl _)) hb.size))
  have hl1 := (lohi_bd (u := fdU l) (v := fdV l) (by omega) (by omega) (by omega) (by omega) hg.pegs (by omega) l.length (Nat.le_refl _)).1
  have hl2 := (lohi_bd (u := bsA (fdU l) (fdV l)) (v := bsB (fdU l) (fdV l)) (by omega) (by omega) (by omega) (by omega) hg.pegs (by omega) l.length (Nat.le_refl _)).1
  have KR1 := Lib.hid (fun W hb => KR.out W (fdU l) (fdV l) (by omega) (by omega) hb)
  have KR2 := Lib.hid (fun W hb => KR.out W (bsA (fdU l) (fdV l)) (bsB (fdU l) (fdV l)) (by omega) (by omega) hb)
  have hfl := flat_is hu0 hgc
  have HFU : Hid ((pt (dirG l (wlG l)) 0).1 = fdU l ∧ (pt (dirG l (wlG l)) 0).2 = fdV l ∧ 0 < (dirG l (wlG l)).length) := Lib.hid ⟨rfl, rfl, hw.2.2.1⟩
  generalize dirG l (wlG l) = DG at *
  generalize fdU l = u at *
  generalize fdV l = v at *
  generalize euU v (-u) = a at *
  generalize euV v (-u) = b at *
  obtain ⟨K, hK⟩ : ∃ K : Nat, K = a.natAbs + b.natAbs + 1 := ⟨_, rfl⟩
  rw [← hK] at hfl
  have hK2 : K ≤ 40001 := by omega
  have KA := Lib.hid (fun W => l1Abs_any a W (by omega) (by omega))
  have KB := Lib.hid (fun W => l1Abs_any b W (by omega) (by omega))
  have hKi : (a.natAbs : Int) + (b.natAbs : Int) + 1 = (K : Int) := by omega
  have hKn : -(a.natAbs : Int) - (b.natAbs : Int) - 1 = -(K : Int) := by omega
  have wa1 : IntKind.i64.wrap (-(a.natAbs : Int)) = -(a.natAbs : Int) := IntWalk.i64_in _ (by omega)
  have wa2 : IntKind.i64.wrap (-(a.natAbs : Int) - (b.natAbs : Int)) = -(a.natAbs : Int) - (b.natAbs : Int) := IntWalk.i64_in _ (by omega)
  have wa3 : IntKind.i64.wrap (-(a.natAbs : Int) - (b.natAbs : Int) - 1) = -(a.natAbs : Int) - (b.natAbs : Int) - 1 := IntWalk.i64_in _ (by omega)
  have wa4 : IntKind.i64.wrap ((a.natAbs : Int) + (b.natAbs : Int)) = (a.natAbs : Int) + (b.natAbs : Int) := IntWalk.i64_in _ (by omega)
  have wa5 : IntKind.i64.wrap ((a.natAbs : Int) + (b.natAbs : Int) + 1) = (a.natAbs : Int) + (b.natAbs : Int) + 1 := IntWalk.i64_in _ (by omega)
  have wn : IntKind.i64.wrap (-u) = -u := IntWalk.i64_in _ (by omega)
  have HSTEP : Hid (∀ i, flB u v a b K (i + 1) = if btP (flE u v a b K i) (flB u v a b K i) then flE u v a b K i else flB u v a b K i) := Lib.hid (fun i => rfl)
  have HE : Hid (∀ i, flE u v a b K i = (a + ((i : Int) - K) * u, b + ((i : Int) - K) * v)) := Lib.hid (fun i => rfl)
  have HF0 : Hid (flB u v a b K 0 = (a, b)) := Lib.hid rfl
  have HFL := Lib.hid hfl
  have HBD : Hid (∀ i : Nat, i ≤ 2 * K + 1 → (-1000000000 ≤ (flB u v a b K i).1 ∧ (flB u v a b K i).1 ≤ 1000000000) ∧ (-1000000000 ≤ (flB u v a b K i).2 ∧ (flB u v a b K i).2 ≤ 1000000000)) := Lib.hid (fun i hi => by
    have hE : ∀ j : Nat, j ≤ 2 * K + 1 → (-1000000000 ≤ (flE u v a b K j).1 ∧ (flE u v a b K j).1 ≤ 1000000000) ∧ (-1000000000 ≤ (flE u v a b K j).2 ∧ (flE u v a b K j).2 ≤ 1000000000) := fun j hj => by
      have m1 := mul_bd (x := (j : Int) - K) (y := u) (m := 40002) (n := 12800) (by omega) (by omega) (by omega) (by omega)
      have m2 := mul_bd (x := (j : Int) - K) (y := v) (m := 40002) (n := 12800) (by omega) (by omega) (by omega) (by omega)
      unfold flE
      simp only
      omega
    rcases (flB_min u v a b K i).2 with h | ⟨j, hj, h⟩
    · rw [h]; simp only; omega
    · rw [h]; exact hE j (by omega))
  generalize flB u v a b K = FB at *
  generalize bsA u v = rA at *
  generalize bsB u v = rB at *
  generalize loW l rA rB l.length = lo1 at *
  generalize loW l u v l.length = lo2 at *
  have wx : IntKind.i64.wrap (-lo1) = -lo1 := IntWalk.i64_in _ (by omega)
  have wy : IntKind.i64.wrap (-lo2) = -lo2 := IntWalk.i64_in _ (by omega)
  have HKI := Lib.hid (And.intro hKi hKn)
  clear hfl hR hg hw KR hgc hu0 hf hl1 hl2 hbb hKi hKn hK
  generalize (a.natAbs : Int) = na at *
  generalize (b.natAbs : Int) = nb at *
  go_enter Try.func62, Try.ntmps62
  go_wp2_with fail
  obtain ⟨W0, hW0⟩ : ∃ W0, W0 = (w.alloc (.cells #[.int .i64 0, .int .i64 0, .int .i64 0, .int .i64 0, .int .i64 0, .int .i64 0] 41)) := ⟨_, rfl⟩
  rw [← hW0]
  have yW00_0 : W0.cell? ⟨w.heap.size, 0, none⟩ = some (.int .i64 0) := by rw [hW0]; go_simp
  have yW00_1 : W0.cell? ⟨w.heap.size, 1, none⟩ = some (.int .i64 0) := by rw [hW0]; go_simp
  have yW00_2 : W0.cell? ⟨w.heap.size, 2, none⟩ = some (.int .i64 0) := by rw [hW0]; go_simp
  have yW00_3 : W0.cell? ⟨w.heap.size, 3, none⟩ = some (.int .i64 0) := by rw [hW0]; go_simp
  have yW00_4 : W0.cell? ⟨w.heap.size, 4, none⟩ = some (.int .i64 0) := by rw [hW0]; go_simp
  have yW00_5 : W0.cell? ⟨w.heap.size, 5, none⟩ = some (.int .i64 0) := by rw [hW0]; go_simp
  have fW00 : ∀ o, W0.frozen? ⟨w.heap.size, o, none⟩ = false := by intro o; rw [hW0]; (repeat rw [frozen?_alloc_cells]); simp [World.frozen?]
  have zW00 : w.heap.size < W0.heap.size := by rw [hW0]; simp <;> omega
  have BW0 : Below w.heap.size w W0 := by rw [hW0]; exact (Below.alloc (Below.refl _ _) (by simp <;> omega) _)
  have eW0 : Hid (W0.heap.size = w.heap.size + 1) := Lib.hid (by rw [hW0]; simp)
  clear hW0
  have E0 := Lib.hid (show Own6 W0 w.heap.size 0 0 0 0 0 0 from ⟨⟨zW00, yW00_0, yW00_1, yW00_2, yW00_3, yW00_4, yW00_5⟩, fW00⟩)
  clear zW00 fW00 yW00_0 yW00_1 yW00_2 yW00_3 yW00_4 yW00_5 eW0
  refine (KL.out _ BW0).mono ?_; rintro e w1 ⟨⟨vr, rfl, hrow⟩, hb1⟩
  obtain ⟨g, cap, b0, rfl, hgz, hbz, r0, r1, r2⟩ := rowM_first hrow HFU.out.2.2
  rw [HFU.out.1] at r1
  rw [HFU.out.2.1] at r2
  have hn1 : (0 : Int) < (DG.length : Int) := by have := HFU.out.2.2; omega
  have hn2 : 0 < DG.length := HFU.out.2.2
  clear hrow
  go_wp2_with fail
  refine wp_region_B (fun W => Below w1.heap.size w1 W) (by kernel_rfl) (by repeat (first | exact Below.refl _ _ | apply Below.drew)) ?_
  first | refine wpB_skip 0 rfl (by kernel_rfl) (by kernel_rfl) (by kernel_rfl) (by rfl) ?_ | (refine wpB_text 0 (v := ?_) rfl (by kernel_rfl) (by kernel_rfl) (by kernel_rfl) (by rfl) (fun W hW => ?_) ?_; rotate_left; (have k1 := hW; obtain ⟨hc1, hf1⟩ := bcell k1; go_simp; refine comes_v ?_; exact k1))
  (try simp only [Act.put, List.setIfInBounds_toArray, List.set_cons_zero, List.set_cons_succ])
  first | refine wpB_skip 1 rfl (by kernel_rfl) (by kernel_rfl) (by kernel_rfl) (by rfl) ?_ | (refine wpB_text 1 (v := ?_) rfl (by kernel_rfl) (by kernel_rfl) (by kernel_rfl) (by rfl) (fun W hW => ?_) ?_; rotate_left; (have k1 := hW; obtain ⟨hc1, hf1⟩ := bcell k1; go_simp; refine comes_v ?_; exact k1))
  (try simp only [Act.put, List.setIfInBounds_toArray, List.set_cons_zero, List.set_cons_succ])
  first | refine wpB_skip 2 rfl (by kernel_rfl) (by kernel_rfl) (by kernel_rfl) (by rfl) ?_ | (refine wpB_text 2 (v := ?_) rfl (by kernel_rfl) (by kernel_rfl) (by kernel_rfl) (by rfl) (fun W hW => ?_) ?_; rotate_left; (have k1 := hW; obtain ⟨hc1, hf1⟩ := bcell k1; go_simp; refine comes_v ?_; exact k1))
  (try simp only [Act.put, List.setIfInBounds_toArray, List.set_cons_zero, List.set_cons_succ])
  first | refine wpB_skip 3 rfl (by kernel_rfl) (by kernel_rfl) (by kernel_rfl) (by rfl) ?_ | (refine wpB_text 3 (v := ?_) rfl (by kernel_rfl) (by kernel_rfl) (by kernel_rfl) (by rfl) (fun W hW => ?_) ?_; rotate_left; (have k1 := hW; obtain ⟨hc1, hf1⟩ := bcell k1; go_simp; refine comes_v ?_; exact k1))
  (try simp only [Act.put, List.setIfInBounds_toArray, List.set_cons_zero, List.set_cons_succ])
  first | refine wpB_skip 4 rfl (by kernel_rfl) (by kernel_rfl) (by kernel_rfl) (by rfl) ?_ | (refine wpB_text 4 (v := ?_) rfl (by kernel_rfl) (by kernel_rfl) (by kernel_rfl) (by rfl) (fun W hW => ?_) ?_; rotate_left; (have k1 := hW; obtain ⟨hc1, hf1⟩ := bcell k1; go_simp; refine comes_v ?_; exact k1))
  (try simp only [Act.put, List.setIfInBounds_toArray, List.set_cons_zero, List.set_cons_succ])
  first | refine wpB_skip 5 rfl (by kernel_rfl) (by kernel_rfl) (by kernel_rfl) (by rfl) ?_ | (refine wpB_text 5 (v := ?_) rfl (by kernel_rfl) (by kernel_rfl) (by kernel_rfl) (by rfl) (fun W hW => ?_) ?_; rotate_left; (have k1 := hW; obtain ⟨hc1, hf1⟩ := bcell k1; go_simp; refine comes_v ?_; exact k1))
  (try simp only [Act.put, List.setIfInBounds_toArray, List.set_cons_zero, List.set_cons_succ])
  first | refine wpB_skip 6 rfl (by kernel_rfl) (by kernel_rfl) (by kernel_rfl) (by rfl) ?_ | (refine wpB_text 6 (v := ?_) rfl (by kernel_rfl) (by kernel_rfl) (by kernel_rfl) (by rfl) (fun W hW => ?_) ?_; rotate_left; (have k1 := hW; obtain ⟨hc1, hf1⟩ := bcell k1; go_simp; refine comes_v ?_; exact k1))
  (try simp only [Act.put, List.setIfInBounds_toArray, List.set_cons_zero, List.set_cons_succ])
  first | refine wpB_skip 7 rfl (by kernel_rfl) (by kernel_rfl) (by kernel_rfl) (by rfl) ?_ | (refine wpB_text 7 (v := ?_) rfl (by kernel_rfl) (by kernel_rfl) (by kernel_rfl) (by rfl) (fun W hW => ?_) ?_; rotate_left; (have k1 := hW; obtain ⟨hc1, hf1⟩ := bcell k1; go_simp; refine comes_v ?_; exact k1))
  (try simp only [Act.put, List.setIfInBounds_toArray, List.set_cons_zero, List.set_cons_succ])
  first | refine wpB_skip 8 rfl (by kernel_rfl) (by kernel_rfl) (by kernel_rfl) (by rfl) ?_ | (refine wpB_text 8 (v := ?_) rfl (by kernel_rfl) (by kernel_rfl) (by kernel_rfl) (by rfl) (fun W hW => ?_) ?_; rotate_left; (have k1 := hW; obtain ⟨hc1, hf1⟩ := bcell k1; go_simp; refine comes_v ?_; exact k1))
  (try simp only [Act.put, List.setIfInBounds_toArray, List.set_cons_zero, List.set_cons_succ])
  first | refine wpB_skip 9 rfl (by kernel_rfl) (by kernel_rfl) (by kernel_rfl) (by rfl) ?_ | (refine wpB_text 9 (v := ?_) rfl (by kernel_rfl) (by kernel_rfl) (by kernel_rfl) (by rfl) (fun W hW => ?_) ?_; rotate_left; (have k1 := hW; obtain ⟨hc1, hf1⟩ := bcell k1; go_simp; refine comes_v ?_; exact k1))
  (try simp only [Act.put, List.setIfInBounds_toArray, List.set_cons_zero, List.set_cons_succ])
  first | refine wpB_skip 10 rfl (by kernel_rfl) (by kernel_rfl) (by kernel_rfl) (by rfl) ?_ | (refine wpB_text 10 (v := ?_) rfl (by kernel_rfl) (by kernel_rfl) (by kernel_rfl) (by rfl) (fun W hW => ?_) ?_; rotate_left; (have k1 := hW; obtain ⟨hc1, hf1⟩ := bcell k1; go_simp; refine comes_v ?_; exact k1))
  (try simp only [Act.put, List.setIfInBounds_toArray, List.set_cons_zero, List.set_cons_succ])
  first | refine wpB_skip 11 rfl (by kernel_rfl) (by kernel_rfl) (by kernel_rfl) (by rfl) ?_ | (refine wpB_text 11 (v := ?_) rfl (by kernel_rfl) (by kernel_rfl) (by kernel_rfl) (by rfl) (fun W hW => ?_) ?_; rotate_left; (have k1 := hW; obtain ⟨hc1, hf1⟩ := bcell k1; go_simp; refine comes_v ?_; exact k1))
  (try simp only [Act.put, List.setIfInBounds_toArray, List.set_cons_zero, List.set_cons_succ])
  refine wpB_done (by kernel_rfl) ?_ _
  intro W hW; have k1 := hW
  have hbW := hb1.trans (k1.mono hb1.size)
  clear r0 r1 r2 hgz hbz hn1 hn2 hb1 k1
  rename World => W2
  go_wp2_with fail
  refine (KF.out _).mono ?_; rintro e w3 ⟨rfl, hb3⟩
  have B3 := hbW.trans (hb3.mono hbW.size)
  go_wp2_with fail
  obtain ⟨W4, hW4⟩ : ∃ W4, W4 = (w3.alloc (.cells #[.int .i64 a, .int .i64 b, .int .i64 0, .int .i64 0, .int .i64 0, .int .i64 0] 41)) := ⟨_, rfl⟩
  rw [← hW4]
  have yW40_0 : W4.cell? ⟨w3.heap.size, 0, none⟩ = some (.int .i64 a) := by rw [hW4]; go_simp
  have yW40_1 : W4.cell? ⟨w3.heap.size, 1, none⟩ = some (.int .i64 b) := by rw [hW4]; go_simp
  have yW40_2 : W4.cell? ⟨w3.heap.size, 2, none⟩ = some (.int .i64 0) := by rw [hW4]; go_simp
  have yW40_3 : W4.cell? ⟨w3.heap.size, 3, none⟩ = some (.int .i64 0) := by rw [hW4]; go_simp
  have yW40_4 : W4.cell? ⟨w3.heap.size, 4, none⟩ = some (.int .i64 0) := by rw [hW4]; go_simp
  have yW40_5 : W4.cell? ⟨w3.heap.size, 5, none⟩ = some (.int .i64 0) := by rw [hW4]; go_simp
  have fW40 : ∀ o, W4.frozen? ⟨w3.heap.size, o, none⟩ = false := by intro o; rw [hW4]; (repeat rw [frozen?_alloc_cells]); simp [World.frozen?]
  have zW40 : w3.heap.size < W4.heap.size := by rw [hW4]; simp <;> omega
  have BW4 : Below w3.heap.size w3 W4 := by rw [hW4]; exact (Below.alloc (Below.refl _ _) (by simp <;> omega) _)
  have eW4 : Hid (W4.heap.size = w3.heap.size + 1) := Lib.hid (by rw [hW4]; simp)
  clear hW4
  have B4 := B3.trans (BW4.mono B3.size)
  have hgb0 : W0.heap.size ≤ w3.heap.size := B3.size
  obtain ⟨gb, hgb⟩ : ∃ x, x = w3.heap.size := ⟨_, rfl⟩
  rw [← hgb] at zW40 yW40_0 yW40_1 yW40_2 yW40_3 yW40_4 yW40_5 fW40 hgb0 ⊢
  have E4 := Lib.hid (show Own6 W4 gb a b 0 0 0 0 from ⟨⟨zW40, yW40_0, yW40_1, yW40_2, yW40_3, yW40_4, yW40_5⟩, fW40⟩)
  clear zW40 fW40 yW40_0 yW40_1 yW40_2 yW40_3 yW40_4 yW40_5 eW4 BW4 hgb B3 hbW
  refine (KA.out _).mono ?_; rintro e _ ⟨rfl, rfl⟩
  go_wp2_with fail
  refine (KB.out _).mono ?_; rintro e _ ⟨rfl, rfl⟩
  go_wp2_with fail
  clear wa1 wa2 wa3
  go_loopg [10] (2 * K + 1) (fun gg kk wr => ∃ i : Nat, i ≤ 2 * K + 1 ∧ gg = 2 * K + 1 - i ∧ kk = .int .i64 ((i : Int) - (K : Int)) ∧ Below W0.heap.size W0 wr ∧ Hid (Own6 wr gb (FB i).1 (FB i).2 0 0 0 0))
  case atStart => exact ⟨0, Nat.zero_le _, rfl, by have := HKI.out; congr 1; omega, B4, Lib.hid (by rw [HF0.out]; exact E4.out)⟩
  case round =>
    clear E4 B4
    obtain ⟨i, hi, hgg, rfl, hB, HO⟩ := hrel
    rename World => wo
    have HGI := Lib.hid hgg
    clear hgg
    by_cases hlt : i < 2 * K + 1
    · have d1 : (i : Int) - (K : Int) ≤ na + nb + 1 := by have := HKI.out; omega
      have m1 := mul_bd (x := (i : Int) - K) (y := u) (m := 40002) (n := 12800) (by omega) (by omega) (by omega) (by omega)
      have m2 := mul_bd (x := (i : Int) - K) (y := v) (m := 40002) (n := 12800) (by omega) (by omega) (by omega) (by omega)
      have q1 : IntKind.i64.wrap (((i : Int) - (K : Int)) * u) = ((i : Int) - (K : Int)) * u := IntWalk.i64_in _ (by omega)
      have q2 : IntKind.i64.wrap (((i : Int) - (K : Int)) * v) = ((i : Int) - (K : Int)) * v := IntWalk.i64_in _ (by omega)
      have q3 : IntKind.i64.wrap (a + ((i : Int) - (K : Int)) * u) = a + ((i : Int) - (K : Int)) * u := IntWalk.i64_in _ (by omega)
      have q4 : IntKind.i64.wrap (b + ((i : Int) - (K : Int)) * v) = b + ((i : Int) - (K : Int)) * v := IntWalk.i64_in _ (by omega)
      have hbx : -1000000000 ≤ a + ((i : Int) - (K : Int)) * u ∧ a + ((i : Int) - (K : Int)) * u ≤ 1000000000 := by omega
      have hby : -1000000000 ≤ b + ((i : Int) - (K : Int)) * v ∧ b + ((i : Int) - (K : Int)) * v ≤ 1000000000 := by omega
      have HS1 := HSTEP.out i
      have HE1 := HE.out i
      have hfb := HBD.out i (by omega)
      obtain ⟨⟨zp, cp0, cp1, cp2, cp3, cp4, cp5⟩, fp⟩ := HO.out
      unfold Fz at fp
      generalize FB i = fb at *
      obtain ⟨fA, fB⟩ := fb
      try simp only at cp0 cp1 hfb
      have HFB := Lib.hid HS1
      clear m1 m2 HS1
      go_wp2_with fail
      refine (KA.out _).mono ?_; rintro e _ ⟨rfl, rfl⟩
      go_wp2_with fail
      refine (KB.out _).mono ?_; rintro e _ ⟨rfl, rfl⟩
      go_wp2_with fail
      have HX1 := HE1
      clear HE1
      generalize a + ((i : Int) - (K : Int)) * u = x at *
      generalize b + ((i : Int) - (K : Int)) * v = y at *
      have HFB2 : Hid (FB (i + 1) = if btP (x, y) (fA, fB) then (x, y) else (fA, fB)) := Lib.hid (by rw [HFB.out, HX1])
      clear HFB HX1 q1 q2 q3 q4 d1
      have KN1 := Lib.hid (fun W => wiNearer_any x fA W hbx hfb.1)
      have KN2 := Lib.hid (fun W => wiNearer_any y fB W hby hfb.2)
      obtain ⟨W5, hW5⟩ : ∃ W5, W5 = (wo.alloc (.cells #[.int .i64 x, .int .i64 y, .int .i64 0, .int .i64 0, .int .i64 0, .int .i64 0] 41)) := ⟨_, rfl⟩
      rw [← hW5]
      have yW50_0 : W5.cell? ⟨wo.heap.size, 0, none⟩ = some (.int .i64 x) := by rw [hW5]; go_simp
      have yW50_1 : W5.cell? ⟨wo.heap.size, 1, none⟩ = some (.int .i64 y) := by rw [hW5]; go_simp
      have yW50_2 : W5.cell? ⟨wo.heap.size, 2, none⟩ = some (.int .i64 0) := by rw [hW5]; go_simp
      have yW50_3 : W5.cell? ⟨wo.heap.size, 3, none⟩ = some (.int .i64 0) := by rw [hW5]; go_simp
      have yW50_4 : W5.cell? ⟨wo.heap.size, 4, none⟩ = some (.int .i64 0) := by rw [hW5]; go_simp
      have yW50_5 : W5.cell? ⟨wo.heap.size, 5, none⟩ = some (.int .i64 0) := by rw [hW5]; go_simp
      have fW50 : ∀ o, W5.frozen? ⟨wo.heap.size, o, none⟩ = false := by intro o; rw [hW5]; (repeat rw [frozen?_alloc_cells]); simp [World.frozen?]
      have zW50 : wo.heap.size < W5.heap.size := by rw [hW5]; simp <;> omega
      have BW5 : Below wo.heap.size wo W5 := by rw [hW5]; exact (Below.alloc (Below.refl _ _) (by simp <;> omega) _)
      have eW5 : Hid (W5.heap.size = wo.heap.size + 1) := Lib.hid (by rw [hW5]; simp)
      clear hW5
      have O5 := Lib.hid (own6_below HO.out BW5 zp)
      have B5 := hB.trans (BW5.mono hB.size)
      clear cp0 cp1 cp2 cp3 cp4 cp5 fp HO hB BW5 eW5 fW50
      obtain ⟨⟨zq, cq0, cq1, cq2, cq3, cq4, cq5⟩, fq⟩ := O5.out
      unfold Fz at fq
      clear zp
      by_cases h1 : nrP x fA
      · have HNX : Hid (FB (i + 1) = (x, y)) := Lib.hid (by rw [HFB2.out, if_pos (show btP (x, y) (fA, fB) from Or.inl h1)])
        rw [decide_eq_true h1] at KN1
        clear h1 HFB2
        refine (KN1.out _).mono ?_; rintro e _ ⟨rfl, rfl⟩
        go_wp2_with fail
        obtain ⟨W6, hW6⟩ : ∃ W6, W6 = (((((W5.setCell ⟨gb, 0, none⟩ (.int .i64 x)).setCell ⟨gb, 1, none⟩ (.int .i64 y)).setCell ⟨gb, 2, none⟩ (.int .i64 0)).setCell ⟨gb, 3, none⟩ (.int .i64 0)).setCell ⟨gb, 4, none⟩ (.int .i64 0)).setCell ⟨gb, 5, none⟩ (.int .i64 0) := ⟨_, rfl⟩
        rw [← hW6]
        have B6 : Below W0.heap.size W0 W6 := by rw [hW6]; exact (((((B5.setCell (p := ⟨gb, 0, none⟩) hgb0 _).setCell (p := ⟨gb, 1, none⟩) hgb0 _).setCell (p := ⟨gb, 2, none⟩) hgb0 _).setCell (p := ⟨gb, 3, none⟩) hgb0 _).setCell (p := ⟨gb, 4, none⟩) hgb0 _).setCell (p := ⟨gb, 5, none⟩) hgb0 _
        have E6 : Hid (Own6 W6 gb x y 0 0 0 0) := Lib.hid (by rw [hW6]; exact own6_sets O5.out x y 0 0 0 0)
        go_roundg (2 * K + 1 - (i + 1))
        case measure => have := HGI.out; omega
        case rel => exact ⟨i + 1, by omega, rfl, by first | go_num | (congr 1; omega), B6, Lib.hid (by rw [HNX.out]; exact E6.out)⟩
      rw [decide_eq_false h1] at KN1
      by_cases h2 : x = fA
      · by_cases h3 : nrP y fB
        · have HNX : Hid (FB (i + 1) = (x, y)) := Lib.hid (by rw [HFB2.out, if_pos (show btP (x, y) (fA, fB) from Or.inr ⟨h2, h3⟩)])
          rw [decide_eq_true h3] at KN2
          subst h2
          clear h1 h3 HFB2
          refine (KN1.out _).mono ?_; rintro e _ ⟨rfl, rfl⟩
          go_wp2_with fail
          refine (KN2.out _).mono ?_; rintro e _ ⟨rfl, rfl⟩
          go_wp2_with fail
          obtain ⟨W6, hW6⟩ : ∃ W6, W6 = (((((W5.setCell ⟨gb, 0, none⟩ (.int .i64 x)).setCell ⟨gb, 1, none⟩ (.int .i64 y)).setCell ⟨gb, 2, none⟩ (.int .i64 0)).setCell ⟨gb, 3, none⟩ (.int .i64 0)).setCell ⟨gb, 4, none⟩ (.int .i64 0)).setCell ⟨gb, 5, none⟩ (.int .i64 0) := ⟨_, rfl⟩
          rw [← hW6]
          have B6 : Below W0.heap.size W0 W6 := by rw [hW6]; exact (((((B5.setCell (p := ⟨gb, 0, none⟩) hgb0 _).setCell (p := ⟨gb, 1, none⟩) hgb0 _).setCell (p := ⟨gb, 2, none⟩) hgb0 _).setCell (p := ⟨gb, 3, none⟩) hgb0 _).setCell (p := ⟨gb, 4, none⟩) hgb0 _).setCell (p := ⟨gb, 5, none⟩) hgb0 _
          have E6 : Hid (Own6 W6 gb x y 0 0 0 0) := Lib.hid (by rw [hW6]; exact own6_sets O5.out x y 0 0 0 0)
          go_roundg (2 * K + 1 - (i + 1))
          case measure => have := HGI.out; omega
          case rel => exact ⟨i + 1, by omega, rfl, by first | go_num | (congr 1; omega), B6, Lib.hid (by rw [HNX.out]; exact E6.out)⟩
        · have HNX : Hid (FB (i + 1) = (fA, fB)) := Lib.hid (by
            rw [HFB2.out, if_neg (show ¬ btP (x, y) (fA, fB) from fun h => by unfold btP at h; rcases h with h | h; exact h1 h; exact h3 h.2)])
          rw [decide_eq_false h3] at KN2
          subst h2
          clear h1 h3 HFB2
          refine (KN1.out _).mono ?_; rintro e _ ⟨rfl, rfl⟩
          go_wp2_with fail
          refine (KN2.out _).mono ?_; rintro e _ ⟨rfl, rfl⟩
          go_wp2_with fail
          go_roundg (2 * K + 1 - (i + 1))
          case measure => have := HGI.out; omega
          case rel => exact ⟨i + 1, by omega, rfl, by first | go_num | (congr 1; omega), B5, Lib.hid (by rw [HNX.out]; exact O5.out)⟩
      · have HNX : Hid (FB (i + 1) = (fA, fB)) := Lib.hid (by
          rw [HFB2.out, if_neg (show ¬ btP (x, y) (fA, fB) from fun h => by unfold btP at h; rcases h with h | h; exact h1 h; exact h2 h.1)])
        clear h1 HFB2
        refine (KN1.out _).mono ?_; rintro e _ ⟨rfl, rfl⟩
        go_wp2_with fail
        go_roundg (2 * K + 1 - (i + 1))
        case measure => have := HGI.out; omega
        case rel => exact ⟨i + 1, by omega, rfl, by first | go_num | (congr 1; omega), B5, Lib.hid (by rw [HNX.out]; exact O5.out)⟩
    · obtain rfl : i = 2 * K + 1 := by omega
      have d1 : ¬ ((2 * K + 1 : Nat) : Int) - (K : Int) ≤ na + nb + 1 := by have := HKI.out; omega
      have E7 : Hid (Own6 wo gb rA rB 0 0 0 0) := Lib.hid (by have := HO.out; rw [HFL.out] at this; exact this)
      obtain ⟨⟨zp, cp0, cp1, cp2, cp3, cp4, cp5⟩, fp⟩ := E7.out
      unfold Fz at fp
      have hBw := BW0.trans (hB.mono BW0.size)
      clear HO
      go_wp2_with fail
      refine (KA.out _).mono ?_; rintro e _ ⟨rfl, rfl⟩
      go_wp2_with fail
      refine (KB.out _).mono ?_; rintro e _ ⟨rfl, rfl⟩
      go_wp2_with fail
      obtain ⟨W6, hW6⟩ : ∃ W6, W6 = (wo.setCell ⟨gb, 2, none⟩ (.int .i64 u)).setCell ⟨gb, 3, none⟩ (.int .i64 v) := ⟨_, rfl⟩
      rw [← hW6]
      have B6 : Below W0.heap.size W0 W6 := by rw [hW6]; exact (hB.setCell (p := ⟨gb, 2, none⟩) hgb0 _).setCell (p := ⟨gb, 3, none⟩) hgb0 _
      have E6 : Hid (Own6 W6 gb rA rB u v 0 0) := Lib.hid (by rw [hW6]; exact own6_t3 (own6_t2 E7.out u) v)
      clear hW6 zp cp0 cp1 cp2 cp3 cp4 cp5 fp E7 hBw hB
      refine (KR2.out _ (BW0.trans (B6.mono BW0.size))).mono ?_; rintro e w7 ⟨rfl, hb7⟩
      have E7 := Lib.hid (own6_below E6.out hb7 E6.out.1.1)
      have B7 := B6.trans (hb7.mono B6.size)
      clear hb7 B6 E6
      go_wp2_with fail
      refine (KR1.out _ (BW0.trans (B7.mono BW0.size))).mono ?_; rintro e w8 ⟨rfl, hb8⟩
      have E8 := Lib.hid (own6_below E7.out hb8 E7.out.1.1)
      have B8 := B7.trans (hb8.mono B7.size)
      have F8 := Lib.hid (own6_below E0.out (show Below W0.heap.size W0 w8 from B8) E0.out.1.1)
      clear hb8 B7 E7
      obtain ⟨⟨zp, cp0, cp1, cp2, cp3, cp4, cp5⟩, fp⟩ := E8.out
      unfold Fz at fp
      obtain ⟨⟨zr, cr0, cr1, cr2, cr3, cr4, cr5⟩, fr⟩ := F8.out
      unfold Fz at fr
      have ne1 : gb ≠ w.heap.size := by have := E0.out.1.1; omega
      have ne2 := Ne.symm ne1
      have HNE := Lib.hid ne1
      go_wp2_with fail
      obtain ⟨W9, hW9⟩ : ∃ W9, W9 = (((((((w8.setCell ⟨gb, 4, none⟩ (.int .i64 (-lo1))).setCell ⟨gb, 5, none⟩ (.int .i64 (-lo2))).setCell ⟨w.heap.size, 0, none⟩ (.int .i64 rA)).setCell ⟨w.heap.size, 1, none⟩ (.int .i64 rB)).setCell ⟨w.heap.size, 2, none⟩ (.int .i64 u)).setCell ⟨w.heap.size, 3, none⟩ (.int .i64 v)).setCell ⟨w.heap.size, 4, none⟩ (.int .i64 (-lo1))).setCell ⟨w.heap.size, 5, none⟩ (.int .i64 (-lo2)) := ⟨_, rfl⟩
      rw [← hW9]
      have F9 : Own6 W9 w.heap.size rA rB u v (-lo1) (-lo2) := by rw [hW9]; exact own6_sets (own6_oth' (own6_oth' F8.out (Ne.symm HNE.out) _ _) (Ne.symm HNE.out) _ _) _ _ _ _ _ _
      have B9 : Below w.heap.size w W9 := by
        have hb := BW0.trans (B8.mono BW0.size)
        have hgw : w.heap.size ≤ gb := by have := BW0.size; omega
        rw [hW9]
        exact (((((((hb.setCell (p := ⟨gb, 4, none⟩) hgw _).setCell (p := ⟨gb, 5, none⟩) hgw _).setCell (p := ⟨w.heap.size, 0, none⟩) (Nat.le_refl _) _).setCell (p := ⟨w.heap.size, 1, none⟩) (Nat.le_refl _) _).setCell (p := ⟨w.heap.size, 2, none⟩) (Nat.le_refl _) _).setCell (p := ⟨w.heap.size, 3, none⟩) (Nat.le_refl _) _).setCell (p := ⟨w.heap.size, 4, none⟩) (Nat.le_refl _) _).setCell (p := ⟨w.heap.size, 5, none⟩) (Nat.le_refl _) _
      obtain ⟨⟨s0, s1, s2, s3, s4, s5, s6⟩, _⟩ := F9
      exact bodyPost_ret (v := .agg #[.int .i64 rA, .int .i64 rB, .int .i64 u, .int .i64 v, .int .i64 (-lo1), .int .i64 (-lo2)]) (by simp [results, Try.results62, go_sem, s0, s1, s2, s3, s4, s5, s6]) rfl ⟨rfl, B9⟩
end Go.Proofs.Ytheddoinnakneaa
/- contracts: FlatMove, both sides -/
namespace Go.Proofs.Ytheddoinnakneaa
open Go.ChangeShapes Go.WideShapes Go.ChangeAt Go.RowKit Go.Joins
set_option linter.unusedVariables false
set_option linter.unusedSimpArgs false
set_option maxRecDepth 4000
/-- the six numbers of the move that lays a polygon flat -/
noncomputable def fm (l : List (Int × Int)) (i : Nat) : Int :=
  if i = 0 then bsA (fdU l) (fdV l) else if i = 1 then bsB (fdU l) (fdV l) else if i = 2 then fdU l else if i = 3 then fdV l else if i = 4 then -loW l (bsA (fdU l) (fdV l)) (bsB (fdU l) (fdV l)) l.length else -loW l (fdU l) (fdV l) l.length
theorem fm_0 (l : List (Int × Int)) : fm l 0 = bsA (fdU l) (fdV l) := by unfold fm; rw [if_pos rfl]
theorem fm_1 (l : List (Int × Int)) : fm l 1 = bsB (fdU l) (fdV l) := by unfold fm; rw [if_neg (by decide), if_pos rfl]
theorem fm_2 (l : List (Int × Int)) : fm l 2 = fdU l := by unfold fm; rw [if_neg (by decide), if_neg (by decide), if_pos rfl]
theorem fm_3 (l : List (Int × Int)) : fm l 3 = fdV l := by unfold fm; rw [if_neg (by decide), if_neg (by decide), if_neg (by decide), if_pos rfl]
theorem fm_4 (l : List (Int × Int)) : fm l 4 = -loW l (bsA (fdU l) (fdV l)) (bsB (fdU l) (fdV l)) l.length := by unfold fm; rw [if_neg (by decide), if_neg (by decide), if_neg (by decide), if_neg (by decide), if_pos rfl]
theorem fm_5 (l : List (Int × Int)) : fm l 5 = -loW l (fdU l) (fdV l) l.length := by unfold fm; rw [if_neg (by decide), if_neg (by decide), if_neg (by decide), if_neg (by decide), if_neg (by decide)]
noncomputable def okF (l : List (Int × Int)) : Bool := goodB l && goodM (fm l 0) (fm l 1) (fm l 2) (fm l 3) (fm l 4) (fm l 5)
noncomputable def fmS (l : List (Int × Int)) (i : Nat) : Int := bsel (okF l) (fm l i)
theorem fmS_t {l : List (Int × Int)} (h : goodB l = true) (i : Nat) : fmS l i = bsel (goodM (fm l 0) (fm l 1) (fm l 2) (fm l 3) (fm l 4) (fm l 5)) (fm l i) := by unfold fmS okF; rw [h, Bool.true_and]
theorem okF_t {l : List (Int × Int)} (h : goodB l = true) : okF l = goodM (fm l 0) (fm l 1) (fm l 2) (fm l 3) (fm l 4) (fm l 5) := by unfold okF; rw [h, Bool.true_and]
theorem okF_f {l : List (Int × Int)} (h : goodB l = false) : okF l = false := by unfold okF; rw [h, Bool.false_and]
theorem fmS_f {l : List (Int × Int)} (h : goodB l = false) (i : Nat) : fmS l i = 0 := by unfold fmS; rw [okF_f h]; rfl
set_option maxHeartbeats 4000000 in
theorem specFlatMove_any (A : Option Addr) (c : Nat) (l : List (Int × Int)) (w : World) (hn : l.length ≤ 1048576) (hcap : l.length ≤ c) (hc2 : c ≤ 9223372036854775807) (hR : Rd w w.heap.size A l) :
    Calls Try.prog 30 #[.slice A l.length c] w fun e w' => e = .returned (.tuple #[.agg #[.int .i64 (fmS l 0), .int .i64 (fmS l 1), .int .i64 (fmS l 2), .int .i64 (fmS l 3), .int .i64 (fmS l 4), .int .i64 (fmS l 5)], .bool (okF l)]) ∧ Below w.heap.size w w' := by
  have K := Lib.hid (fun W (hb : Below w.heap.size w W) => pgGood_any A c l W hn hcap hc2 (rd_more (rd_below hR hb (Nat.le_refl _)) hb.size))
  by_cases hg : goodB l = true
  · have hgg : Good l := by unfold goodB at hg; simpa using hg
    have KF := Lib.hid (fun W (hb : Below w.heap.size w W) => wiFlat_any A c l W hgg (rd_more (rd_below hR hb (Nat.le_refl _)) hb.size))
    rw [← fm_5, ← fm_4, ← fm_0, ← fm_1, ← fm_2, ← fm_3] at KF
    rw [fmS_t hg, fmS_t hg, fmS_t hg, fmS_t hg, fmS_t hg, fmS_t hg, okF_t hg]
    rw [hg] at K
    generalize fm l 0 = m0 at *
    generalize fm l 1 = m1 at *
    generalize fm l 2 = m2 at *
    generalize fm l 3 = m3 at *
    generalize fm l 4 = m4 at *
    generalize fm l 5 = m5 at *
    have KI := Lib.hid (fun W => mvIf_any m0 m1 m2 m3 m4 m5 W)
    generalize bsel (goodM m0 m1 m2 m3 m4 m5) m0 = v0 at *
    generalize bsel (goodM m0 m1 m2 m3 m4 m5) m1 = v1 at *
    generalize bsel (goodM m0 m1 m2 m3 m4 m5) m2 = v2 at *
    generalize bsel (goodM m0 m1 m2 m3 m4 m5) m3 = v3 at *
    generalize bsel (goodM m0 m1 m2 m3 m4 m5) m4 = v4 at *
    generalize bsel (goodM m0 m1 m2 m3 m4 m5) m5 = v5 at *
    generalize goodM m0 m1 m2 m3 m4 m5 = gm at *
    clear hg hgg hR
    go_enter Try.func30, Try.ntmps30
    go_wp2_with fail
    obtain ⟨W0, hW0⟩ : ∃ W0, W0 = (w.alloc (.cells #[.int .i64 0, .int .i64 0, .int .i64 0, .int .i64 0, .int .i64 0, .int .i64 0] 41)) := ⟨_, rfl⟩
    rw [← hW0]
    have yW00_0 : W0.cell? ⟨w.heap.size, 0, none⟩ = some (.int .i64 0) := by rw [hW0]; go_simp
    have yW00_1 : W0.cell? ⟨w.heap.size, 1, none⟩ = some (.int .i64 0) := by rw [hW0]; go_simp
    have yW00_2 : W0.cell? ⟨w.heap.size, 2, none⟩ = some (.int .i64 0) := by rw [hW0]; go_simp
    have yW00_3 : W0.cell? ⟨w.heap.size, 3, none⟩ = some (.int .i64 0) := by rw [hW0]; go_simp
    have yW00_4 : W0.cell? ⟨w.heap.size, 4, none⟩ = some (.int .i64 0) := by rw [hW0]; go_simp
    have yW00_5 : W0.cell? ⟨w.heap.size, 5, none⟩ = some (.int .i64 0) := by rw [hW0]; go_simp
    have fW00 : ∀ o, W0.frozen? ⟨w.heap.size, o, none⟩ = false := by intro o; rw [hW0]; (repeat rw [frozen?_alloc_cells]); simp [World.frozen?]
    have zW00 : w.heap.size < W0.heap.size := by rw [hW0]; simp <;> omega
    have BW0 : Below w.heap.size w W0 := by rw [hW0]; exact (Below.alloc (Below.refl _ _) (by simp <;> omega) _)
    have eW0 : Hid (W0.heap.size = w.heap.size + 1) := Lib.hid (by rw [hW0]; simp)
    clear hW0
    have E0 := Lib.hid (show Own6 W0 w.heap.size 0 0 0 0 0 0 from ⟨⟨zW00, yW00_0, yW00_1, yW00_2, yW00_3, yW00_4, yW00_5⟩, fW00⟩)
    clear zW00 fW00 yW00_0 yW00_1 yW00_2 yW00_3 yW00_4 yW00_5 eW0
    refine (K.out _ BW0).mono ?_; rintro e w1 ⟨rfl, hb1⟩
    have E1 := Lib.hid (own6_below E0.out hb1 E0.out.1.1)
    have B1 := BW0.trans (hb1.mono BW0.size)
    clear hb1 E0 BW0
    go_wp2_with fail
    refine (KF.out _ B1).mono ?_; rintro e w2 ⟨rfl, hb2⟩
    have E2 := Lib.hid (own6_below E1.out hb2 E1.out.1.1)
    have B2 := B1.trans (hb2.mono B1.size)
    clear hb2 E1 B1
    go_wp2_with fail
    refine (KI.out _).mono ?_; rintro e w3 ⟨rfl, hb3⟩
    have E3 := Lib.hid (own6_below E2.out hb3 E2.out.1.1)
    have B3 := B2.trans (hb3.mono B2.size)
    clear hb3 E2 B2
    obtain ⟨⟨zr, cr0, cr1, cr2, cr3, cr4, cr5⟩, fr⟩ := E3.out
    unfold Fz at fr
    go_wp2_with fail
    obtain ⟨W9, hW9⟩ : ∃ W9, W9 = (((((w3.setCell ⟨w.heap.size, 0, none⟩ (.int .i64 v0)).setCell ⟨w.heap.size, 1, none⟩ (.int .i64 v1)).setCell ⟨w.heap.size, 2, none⟩ (.int .i64 v2)).setCell ⟨w.heap.size, 3, none⟩ (.int .i64 v3)).setCell ⟨w.heap.size, 4, none⟩ (.int .i64 v4)).setCell ⟨w.heap.size, 5, none⟩ (.int .i64 v5) := ⟨_, rfl⟩
    rw [← hW9]
    have F9 : Own6 W9 w.heap.size v0 v1 v2 v3 v4 v5 := by rw [hW9]; exact own6_sets E3.out _ _ _ _ _ _
    have B9 : Below w.heap.size w W9 := by
      rw [hW9]
      exact (((((B3.setCell (p := ⟨w.heap.size, 0, none⟩) (Nat.le_refl _) _).setCell (p := ⟨w.heap.size, 1, none⟩) (Nat.le_refl _) _).setCell (p := ⟨w.heap.size, 2, none⟩) (Nat.le_refl _) _).setCell (p := ⟨w.heap.size, 3, none⟩) (Nat.le_refl _) _).setCell (p := ⟨w.heap.size, 4, none⟩) (Nat.le_refl _) _).setCell (p := ⟨w.heap.size, 5, none⟩) (Nat.le_refl _) _
    obtain ⟨⟨s0, s1, s2, s3, s4, s5, s6⟩, _⟩ := F9
    exact bodyPost_ret (v := .tuple #[.agg #[.int .i64 v0, .int .i64 v1, .int .i64 v2, .int .i64 v3, .int .i64 v4, .int .i64 v5], .bool gm]) (by simp [results, Try.results30, go_sem, s0, s1, s2, s3, s4, s5, s6]) rfl ⟨rfl, B9⟩
  · have hgf : goodB l = false := by simpa using hg
    rw [fmS_f hgf, fmS_f hgf, fmS_f hgf, fmS_f hgf, fmS_f hgf, fmS_f hgf, okF_f hgf]
    rw [hgf] at K
    clear hg hgf hR
    go_enter Try.func30, Try.ntmps30
    go_wp2_with fail
    obtain ⟨W0, hW0⟩ : ∃ W0, W0 = (w.alloc (.cells #[.int .i64 0, .int .i64 0, .int .i64 0, .int .i64 0, .int .i64 0, .int .i64 0] 41)) := ⟨_, rfl⟩
    rw [← hW0]
    have yW00_0 : W0.cell? ⟨w.heap.size, 0, none⟩ = some (.int .i64 0) := by rw [hW0]; go_simp
    have yW00_1 : W0.cell? ⟨w.heap.size, 1, none⟩ = some (.int .i64 0) := by rw [hW0]; go_simp
    have yW00_2 : W0.cell? ⟨w.heap.size, 2, none⟩ = some (.int .i64 0) := by rw [hW0]; go_simp
    have yW00_3 : W0.cell? ⟨w.heap.size, 3, none⟩ = some (.int .i64 0) := by rw [hW0]; go_simp
    have yW00_4 : W0.cell? ⟨w.heap.size, 4, none⟩ = some (.int .i64 0) := by rw [hW0]; go_simp
    have yW00_5 : W0.cell? ⟨w.heap.size, 5, none⟩ = some (.int .i64 0) := by rw [hW0]; go_simp
    have fW00 : ∀ o, W0.frozen? ⟨w.heap.size, o, none⟩ = false := by intro o; rw [hW0]; (repeat rw [frozen?_alloc_cells]); simp [World.frozen?]
    have zW00 : w.heap.size < W0.heap.size := by rw [hW0]; simp <;> omega
    have BW0 : Below w.heap.size w W0 := by rw [hW0]; exact (Below.alloc (Below.refl _ _) (by simp <;> omega) _)
    have eW0 : Hid (W0.heap.size = w.heap.size + 1) := Lib.hid (by rw [hW0]; simp)
    clear hW0
    have E0 := Lib.hid (show Own6 W0 w.heap.size 0 0 0 0 0 0 from ⟨⟨zW00, yW00_0, yW00_1, yW00_2, yW00_3, yW00_4, yW00_5⟩, fW00⟩)
    clear zW00 fW00 yW00_0 yW00_1 yW00_2 yW00_3 yW00_4 yW00_5 eW0
    refine (K.out _ BW0).mono ?_; rintro e w1 ⟨rfl, hb1⟩
    have E1 := Lib.hid (own6_below E0.out hb1 E0.out.1.1)
    have B1 := BW0.trans (hb1.mono BW0.size)
    clear hb1 E0 BW0
    obtain ⟨⟨zr, cr0, cr1, cr2, cr3, cr4, cr5⟩, fr⟩ := E1.out
    unfold Fz at fr
    go_wp2_with fail
    obtain ⟨W9, hW9⟩ : ∃ W9, W9 = (((((w1.setCell ⟨w.heap.size, 0, none⟩ (.int .i64 0)).setCell ⟨w.heap.size, 1, none⟩ (.int .i64 0)).setCell ⟨w.heap.size, 2, none⟩ (.int .i64 0)).setCell ⟨w.heap.size, 3, none⟩ (.int .i64 0)).setCell ⟨w.heap.size, 4, none⟩ (.int .i64 0)).setCell ⟨w.heap.size, 5, none⟩ (.int .i64 0) := ⟨_, rfl⟩
    rw [← hW9]
    have F9 : Own6 W9 w.heap.size 0 0 0 0 0 0 := by rw [hW9]; exact own6_sets E1.out _ _ _ _ _ _
    have B9 : Below w.heap.size w W9 := by
      rw [hW9]
      exact (((((B1.setCell (p := ⟨w.heap.size, 0, none⟩) (Nat.le_refl _) _).setCell (p := ⟨w.heap.size, 1, none⟩) (Nat.le_refl _) _).setCell (p := ⟨w.heap.size, 2, none⟩) (Nat.le_refl _) _).setCell (p := ⟨w.heap.size, 3, none⟩) (Nat.le_refl _) _).setCell (p := ⟨w.heap.size, 4, none⟩) (Nat.le_refl _) _).setCell (p := ⟨w.heap.size, 5, none⟩) (Nat.le_refl _) _
    obtain ⟨⟨s0, s1, s2, s3, s4, s5, s6⟩, _⟩ := F9
    exact bodyPost_ret (v := .tuple #[.agg #[.int .i64 0, .int .i64 0, .int .i64 0, .int .i64 0, .int .i64 0, .int .i64 0], .bool false]) (by simp [results, Try.results30, go_sem, s0, s1, s2, s3, s4, s5, s6]) rfl ⟨rfl, B9⟩
set_option maxHeartbeats 4000000 in
theorem implFlatMove_any (A : Option Addr) (c : Nat) (l : List (Int × Int)) (w : World) (hn : l.length ≤ 1048576) (hR : Rd w w.heap.size A l) :
    Calls Try.prog 31 #[.slice A l.length c] w fun e w' => e = .returned (.tuple #[.agg #[.int .i64 (fmS l 0), .int .i64 (fmS l 1), .int .i64 (fmS l 2), .int .i64 (fmS l 3), .int .i64 (fmS l 4), .int .i64 (fmS l 5)], .bool (okF l)]) ∧ Below w.heap.size w w' := by
  have K := Lib.hid (fun W (hb : Below w.heap.size w W) => implIsPolygon_any A c l W hn (rd_more (rd_below hR hb (Nat.le_refl _)) hb.size))
  by_cases hg : goodB l = true
  · have hgg : Good l := by unfold goodB at hg; simpa using hg
    obtain ⟨hu0, hu, hv, hgc⟩ := fd_facts hgg
    have hbb := bsB_bd hu0 hu.2 hv hgc
    have hf := hgg.few
    have KL := Lib.hid (fun W (hb : Below w.heap.size w W) => leastSpans_any A c l W hgg (rd_more (rd_below hR hb (Nat.le_refl _)) hb.size))
    have KB := Lib.hid (fun W => beside_any (fdU l) (fdV l) W hu hv)
    have KS := Lib.hid (fun W (hb : Below w.heap.size w W) => spanOf_any A c l (bsA (fdU l) (fdV l)) (bsB (fdU l) (fdV l)) W (by omega) (by omega) (by omega) (by omega) hgg (rd_more (rd_below hR hb (Nat.le_refl _)) hb.size))
    have hl1 := (lohi_bd (u := fdU l) (v := fdV l) (by omega) (by omega) (by omega) (by omega) hgg.pegs (by omega) l.length (Nat.le_refl _)).1
    have hl2 := (lohi_bd (u := bsA (fdU l) (fdV l)) (v := bsB (fdU l) (fdV l)) (by omega) (by omega) (by omega) (by omega) hgg.pegs (by omega) l.length (Nat.le_refl _)).1
    have HP : Hid ((pt (dirG l (wlG l)) 0).1 = fdU l ∧ (pt (dirG l (wlG l)) 0).2 = fdV l ∧ 0 < (dirG l (wlG l)).length) := Lib.hid ⟨rfl, rfl, (wlG_facts hgg).2.2.1⟩
    have HM : Hid (bsA (fdU l) (fdV l) = fm l 0 ∧ bsB (fdU l) (fdV l) = fm l 1 ∧ fdU l = fm l 2 ∧ fdV l = fm l 3 ∧ -loW l (bsA (fdU l) (fdV l)) (bsB (fdU l) (fdV l)) l.length = fm l 4 ∧ -loW l (fdU l) (fdV l) l.length = fm l 5) := Lib.hid ⟨(fm_0 l).symm, (fm_1 l).symm, (fm_2 l).symm, (fm_3 l).symm, (fm_4 l).symm, (fm_5 l).symm⟩
    generalize bsA (fdU l) (fdV l) = rA at *
    generalize bsB (fdU l) (fdV l) = rB at *
    generalize dirG l (wlG l) = s at *
    rw [fmS_t hg, fmS_t hg, fmS_t hg, fmS_t hg, fmS_t hg, fmS_t hg, okF_t hg]
    rw [hg] at K
    generalize fm l 0 = m0 at *
    generalize fm l 1 = m1 at *
    generalize fm l 2 = m2 at *
    generalize fm l 3 = m3 at *
    generalize fm l 4 = m4 at *
    generalize fm l 5 = m5 at *
    have KI := Lib.hid (fun W => asMove_any m0 m1 m2 m3 m4 m5 W)
    generalize bsel (goodM m0 m1 m2 m3 m4 m5) m0 = v0 at *
    generalize bsel (goodM m0 m1 m2 m3 m4 m5) m1 = v1 at *
    generalize bsel (goodM m0 m1 m2 m3 m4 m5) m2 = v2 at *
    generalize bsel (goodM m0 m1 m2 m3 m4 m5) m3 = v3 at *
    generalize bsel (goodM m0 m1 m2 m3 m4 m5) m4 = v4 at *
    generalize bsel (goodM m0 m1 m2 m3 m4 m5) m5 = v5 at *
    generalize goodM m0 m1 m2 m3 m4 m5 = gm at *
    generalize fdU l = u at *
    generalize fdV l = v at *
    have HX : Hid (loW l u v l.length = loW l u v l.length) := Lib.hid rfl
    clear hg hgg hR hu0 hgc
    go_enter Try.func31, Try.ntmps31
    go_wp2_with fail
    obtain ⟨W0, hW0⟩ : ∃ W0, W0 = (w.alloc (.cells #[.int .i64 0, .int .i64 0, .int .i64 0, .int .i64 0, .int .i64 0, .int .i64 0] 41)) := ⟨_, rfl⟩
    rw [← hW0]
    have yW00_0 : W0.cell? ⟨w.heap.size, 0, none⟩ = some (.int .i64 0) := by rw [hW0]; go_simp
    have yW00_1 : W0.cell? ⟨w.heap.size, 1, none⟩ = some (.int .i64 0) := by rw [hW0]; go_simp
    have yW00_2 : W0.cell? ⟨w.heap.size, 2, none⟩ = some (.int .i64 0) := by rw [hW0]; go_simp
    have yW00_3 : W0.cell? ⟨w.heap.size, 3, none⟩ = some (.int .i64 0) := by rw [hW0]; go_simp
    have yW00_4 : W0.cell? ⟨w.heap.size, 4, none⟩ = some (.int .i64 0) := by rw [hW0]; go_simp
    have yW00_5 : W0.cell? ⟨w.heap.size, 5, none⟩ = some (.int .i64 0) := by rw [hW0]; go_simp
    have fW00 : ∀ o, W0.frozen? ⟨w.heap.size, o, none⟩ = false := by intro o; rw [hW0]; (repeat rw [frozen?_alloc_cells]); simp [World.frozen?]
    have zW00 : w.heap.size < W0.heap.size := by rw [hW0]; simp <;> omega
    have BW0 : Below w.heap.size w W0 := by rw [hW0]; exact (Below.alloc (Below.refl _ _) (by simp <;> omega) _)
    have eW0 : Hid (W0.heap.size = w.heap.size + 1) := Lib.hid (by rw [hW0]; simp)
    clear hW0
    have E0 := Lib.hid (show Own6 W0 w.heap.size 0 0 0 0 0 0 from ⟨⟨zW00, yW00_0, yW00_1, yW00_2, yW00_3, yW00_4, yW00_5⟩, fW00⟩)
    clear zW00 fW00 yW00_0 yW00_1 yW00_2 yW00_3 yW00_4 yW00_5 eW0
    refine (K.out _ BW0).mono ?_; rintro e w1 ⟨rfl, hb1⟩
    have E1 := Lib.hid (own6_below E0.out hb1 E0.out.1.1)
    have B1 := BW0.trans (hb1.mono BW0.size)
    clear hb1 E0 BW0
    go_wp2_with fail
    refine (KL.out _ B1).mono ?_; rintro e w2 ⟨⟨vr, rfl, hrow⟩, hb2⟩
    rcases own_val hrow with ⟨rfl, hx⟩ | ⟨g, cap, rfl, _, _, hgb, hgz⟩
    · exact absurd hx (by have := HP.out.2.2; omega)
    obtain ⟨c0, c1, c2, c3⟩ := rowP_at hrow (i := 0) HP.out.2.2
    simp only [Nat.zero_mul, Nat.zero_add] at c0 c1 c2 c3
    rw [HP.out.1] at c0 c2 c3
    rw [HP.out.2.1] at c1 c2 c3
    have hn1 : (0 : Int) < (s.length : Int) := by have := HP.out.2.2; omega
    have hn2 := HP.out.2.2
    have E2 := Lib.hid (own6_below E1.out hb2 E1.out.1.1)
    have B2 := B1.trans (hb2.mono B1.size)
    clear hb2 E1 B1 hrow
    generalize loW l u v l.length = lo2 at *
    generalize hiW l u v l.length = hi2 at *
    generalize loW l rA rB l.length = lo1 at *
    generalize hiW l rA rB l.length = hi1 at *
    have wx : IntKind.i64.wrap (-lo1) = -lo1 := IntWalk.i64_in _ (by omega)
    have wy : IntKind.i64.wrap (-lo2) = -lo2 := IntWalk.i64_in _ (by omega)
    clear hl1 hl2 hbb hu hv hf
    go_wp2_with fail
    obtain ⟨W3, hW3⟩ : ∃ W3, W3 = (w2.alloc (.cells #[.int .i64 u, .int .i64 v, .int .i64 lo2, .int .i64 hi2] 68)) := ⟨_, rfl⟩
    rw [← hW3]
    have yW30_0 : W3.cell? ⟨w2.heap.size, 0, none⟩ = some (.int .i64 u) := by rw [hW3]; go_simp
    have yW30_1 : W3.cell? ⟨w2.heap.size, 1, none⟩ = some (.int .i64 v) := by rw [hW3]; go_simp
    have yW30_2 : W3.cell? ⟨w2.heap.size, 2, none⟩ = some (.int .i64 lo2) := by rw [hW3]; go_simp
    have yW30_3 : W3.cell? ⟨w2.heap.size, 3, none⟩ = some (.int .i64 hi2) := by rw [hW3]; go_simp
    have fW30 : ∀ o, W3.frozen? ⟨w2.heap.size, o, none⟩ = false := by intro o; rw [hW3]; (repeat rw [frozen?_alloc_cells]); simp [World.frozen?]
    have zW30 : w2.heap.size < W3.heap.size := by rw [hW3]; simp <;> omega
    have BW3 : Below w2.heap.size w2 W3 := by rw [hW3]; exact (Below.alloc (Below.refl _ _) (by simp <;> omega) _)
    have eW3 : Hid (W3.heap.size = w2.heap.size + 1) := Lib.hid (by rw [hW3]; simp)
    clear hW3
    have E3 := Lib.hid (own6_below E2.out BW3 E2.out.1.1)
    have B3 := B2.trans (BW3.mono B2.size)
    have hb3 := BW3.size
    clear BW3 E2 B2 c0 c1 c2 c3 eW3 fW30 hgz hgb
    refine (KB.out _).mono ?_; rintro e w4 ⟨rfl, hb4⟩
    have E4 := Lib.hid (own6_below E3.out hb4 E3.out.1.1)
    have B4 := B3.trans (hb4.mono B3.size)
    have y0 := ((bcell hb4).1 _ 0 zW30).trans yW30_0
    have y1 := ((bcell hb4).1 _ 1 zW30).trans yW30_1
    have y2 := ((bcell hb4).1 _ 2 zW30).trans yW30_2
    have y3 := ((bcell hb4).1 _ 3 zW30).trans yW30_3
    have yz := Nat.lt_of_lt_of_le zW30 hb4.size
    clear hb4 E3 B3 yW30_0 yW30_1 yW30_2 yW30_3 zW30
    go_wp2_with fail
    refine (KS.out _ B4).mono ?_; rintro e w5 ⟨rfl, hb5⟩
    have E5 := Lib.hid (own6_below E4.out hb5 E4.out.1.1)
    have B5 := B4.trans (hb5.mono B4.size)
    have y0 := ((bcell hb5).1 _ 0 yz).trans y0
    have y1 := ((bcell hb5).1 _ 1 yz).trans y1
    have y2 := ((bcell hb5).1 _ 2 yz).trans y2
    have y3 := ((bcell hb5).1 _ 3 yz).trans y3
    have yz := Nat.lt_of_lt_of_le yz hb5.size
    clear hb5 E4 B4
    obtain ⟨n0, n1, n2, n3, n4, n5⟩ := HM.out
    rw [← n0, ← n1, ← n2, ← n3, ← n4, ← n5] at KI
    clear n0 n1 n2 n3 n4 n5
    go_upto_region 5 with fail
    obtain ⟨W6, hW6⟩ : ∃ W6, W6 = (w5.alloc (.cells #[.int .i64 rA, .int .i64 rB, .int .i64 lo1, .int .i64 hi1] 68)) := ⟨_, rfl⟩
    rw [← hW6]
    have yW60_0 : W6.cell? ⟨w5.heap.size, 0, none⟩ = some (.int .i64 rA) := by rw [hW6]; go_simp
    have yW60_1 : W6.cell? ⟨w5.heap.size, 1, none⟩ = some (.int .i64 rB) := by rw [hW6]; go_simp
    have yW60_2 : W6.cell? ⟨w5.heap.size, 2, none⟩ = some (.int .i64 lo1) := by rw [hW6]; go_simp
    have yW60_3 : W6.cell? ⟨w5.heap.size, 3, none⟩ = some (.int .i64 hi1) := by rw [hW6]; go_simp
    have fW60 : ∀ o, W6.frozen? ⟨w5.heap.size, o, none⟩ = false := by intro o; rw [hW6]; (repeat rw [frozen?_alloc_cells]); simp [World.frozen?]
    have zW60 : w5.heap.size < W6.heap.size := by rw [hW6]; simp <;> omega
    have BW6 : Below w5.heap.size w5 W6 := by rw [hW6]; exact (Below.alloc (Below.refl _ _) (by simp <;> omega) _)
    have eW6 : Hid (W6.heap.size = w5.heap.size + 1) := Lib.hid (by rw [hW6]; simp)
    clear hW6
    have E6 := Lib.hid (own6_below E5.out BW6 E5.out.1.1)
    have B6 := B5.trans (BW6.mono B5.size)
    have y0 := ((bcell BW6).1 _ 0 yz).trans y0
    have y1 := ((bcell BW6).1 _ 1 yz).trans y1
    have y2 := ((bcell BW6).1 _ 2 yz).trans y2
    have y3 := ((bcell BW6).1 _ 3 yz).trans y3
    have yz := Nat.lt_of_lt_of_le yz BW6.size
    clear BW6 E5 B5 eW6 fW60
    go_wp2_with fail
    refine (KI.out _).mono ?_; rintro e w3 ⟨rfl, hb3⟩
    have E3 := Lib.hid (own6_below E6.out hb3 E6.out.1.1)
    have B3 := B6.trans (hb3.mono B6.size)
    clear hb3 E6 B6 y0 y1 y2 y3 yz
    obtain ⟨⟨zr, cr0, cr1, cr2, cr3, cr4, cr5⟩, fr⟩ := E3.out
    unfold Fz at fr
    go_wp2_with fail
    obtain ⟨W9, hW9⟩ : ∃ W9, W9 = (((((w3.setCell ⟨w.heap.size, 0, none⟩ (.int .i64 v0)).setCell ⟨w.heap.size, 1, none⟩ (.int .i64 v1)).setCell ⟨w.heap.size, 2, none⟩ (.int .i64 v2)).setCell ⟨w.heap.size, 3, none⟩ (.int .i64 v3)).setCell ⟨w.heap.size, 4, none⟩ (.int .i64 v4)).setCell ⟨w.heap.size, 5, none⟩ (.int .i64 v5) := ⟨_, rfl⟩
    rw [← hW9]
    have F9 : Own6 W9 w.heap.size v0 v1 v2 v3 v4 v5 := by rw [hW9]; exact own6_sets E3.out _ _ _ _ _ _
    have B9 : Below w.heap.size w W9 := by
      rw [hW9]
      exact (((((B3.setCell (p := ⟨w.heap.size, 0, none⟩) (Nat.le_refl _) _).setCell (p := ⟨w.heap.size, 1, none⟩) (Nat.le_refl _) _).setCell (p := ⟨w.heap.size, 2, none⟩) (Nat.le_refl _) _).setCell (p := ⟨w.heap.size, 3, none⟩) (Nat.le_refl _) _).setCell (p := ⟨w.heap.size, 4, none⟩) (Nat.le_refl _) _).setCell (p := ⟨w.heap.size, 5, none⟩) (Nat.le_refl _) _
    obtain ⟨⟨s0, s1, s2, s3, s4, s5, s6⟩, _⟩ := F9
    exact bodyPost_ret (v := .tuple #[.agg #[.int .i64 v0, .int .i64 v1, .int .i64 v2, .int .i64 v3, .int .i64 v4, .int .i64 v5], .bool gm]) (by simp [results, Try.results31, go_sem, s0, s1, s2, s3, s4, s5, s6]) rfl ⟨rfl, B9⟩
  · have hgf : goodB l = false := by simpa using hg
    rw [fmS_f hgf, fmS_f hgf, fmS_f hgf, fmS_f hgf, fmS_f hgf, fmS_f hgf, okF_f hgf]
    rw [hgf] at K
    clear hg hgf hR
    go_enter Try.func31, Try.ntmps31
    go_wp2_with fail
    obtain ⟨W0, hW0⟩ : ∃ W0, W0 = (w.alloc (.cells #[.int .i64 0, .int .i64 0, .int .i64 0, .int .i64 0, .int .i64 0, .int .i64 0] 41)) := ⟨_, rfl⟩
    rw [← hW0]
    have yW00_0 : W0.cell? ⟨w.heap.size, 0, none⟩ = some (.int .i64 0) := by rw [hW0]; go_simp
    have yW00_1 : W0.cell? ⟨w.heap.size, 1, none⟩ = some (.int .i64 0) := by rw [hW0]; go_simp
    have yW00_2 : W0.cell? ⟨w.heap.size, 2, none⟩ = some (.int .i64 0) := by rw [hW0]; go_simp
    have yW00_3 : W0.cell? ⟨w.heap.size, 3, none⟩ = some (.int .i64 0) := by rw [hW0]; go_simp
    have yW00_4 : W0.cell? ⟨w.heap.size, 4, none⟩ = some (.int .i64 0) := by rw [hW0]; go_simp
    have yW00_5 : W0.cell? ⟨w.heap.size, 5, none⟩ = some (.int .i64 0) := by rw [hW0]; go_simp
    have fW00 : ∀ o, W0.frozen? ⟨w.heap.size, o, none⟩ = false := by intro o; rw [hW0]; (repeat rw [frozen?_alloc_cells]); simp [World.frozen?]
    have zW00 : w.heap.size < W0.heap.size := by rw [hW0]; simp <;> omega
    have BW0 : Below w.heap.size w W0 := by rw [hW0]; exact (Below.alloc (Below.refl _ _) (by simp <;> omega) _)
    have eW0 : Hid (W0.heap.size = w.heap.size + 1) := Lib.hid (by rw [hW0]; simp)
    clear hW0
    have E0 := Lib.hid (show Own6 W0 w.heap.size 0 0 0 0 0 0 from ⟨⟨zW00, yW00_0, yW00_1, yW00_2, yW00_3, yW00_4, yW00_5⟩, fW00⟩)
    clear zW00 fW00 yW00_0 yW00_1 yW00_2 yW00_3 yW00_4 yW00_5 eW0
    refine (K.out _ BW0).mono ?_; rintro e w1 ⟨rfl, hb1⟩
    have E1 := Lib.hid (own6_below E0.out hb1 E0.out.1.1)
    have B1 := BW0.trans (hb1.mono BW0.size)
    clear hb1 E0 BW0
    obtain ⟨⟨zr, cr0, cr1, cr2, cr3, cr4, cr5⟩, fr⟩ := E1.out
    unfold Fz at fr
    go_wp2_with fail
    obtain ⟨W9, hW9⟩ : ∃ W9, W9 = (((((w1.setCell ⟨w.heap.size, 0, none⟩ (.int .i64 0)).setCell ⟨w.heap.size, 1, none⟩ (.int .i64 0)).setCell ⟨w.heap.size, 2, none⟩ (.int .i64 0)).setCell ⟨w.heap.size, 3, none⟩ (.int .i64 0)).setCell ⟨w.heap.size, 4, none⟩ (.int .i64 0)).setCell ⟨w.heap.size, 5, none⟩ (.int .i64 0) := ⟨_, rfl⟩
    rw [← hW9]
    have F9 : Own6 W9 w.heap.size 0 0 0 0 0 0 := by rw [hW9]; exact own6_sets E1.out _ _ _ _ _ _
    have B9 : Below w.heap.size w W9 := by
      rw [hW9]
      exact (((((B1.setCell (p := ⟨w.heap.size, 0, none⟩) (Nat.le_refl _) _).setCell (p := ⟨w.heap.size, 1, none⟩) (Nat.le_refl _) _).setCell (p := ⟨w.heap.size, 2, none⟩) (Nat.le_refl _) _).setCell (p := ⟨w.heap.size, 3, none⟩) (Nat.le_refl _) _).setCell (p := ⟨w.heap.size, 4, none⟩) (Nat.le_refl _) _).setCell (p := ⟨w.heap.size, 5, none⟩) (Nat.le_refl _) _
    obtain ⟨⟨s0, s1, s2, s3, s4, s5, s6⟩, _⟩ := F9
    exact bodyPost_ret (v := .tuple #[.agg #[.int .i64 0, .int .i64 0, .int .i64 0, .int .i64 0, .int .i64 0, .int .i64 0], .bool false]) (by simp [results, Try.results31, go_sem, s0, s1, s2, s3, s4, s5, s6]) rfl ⟨rfl, B9⟩
end Go.Proofs.Ytheddoinnakneaa
/- contracts: points brought elsewhere, on both sides -/
namespace Go.Proofs.Ytheddoinnakneaa
open Go.ChangeShapes Go.WideShapes Go.ChangeAt Go.RowKit Go.Joins
set_option linter.unusedVariables false
set_option linter.unusedSimpArgs false
set_option maxRecDepth 4000
/-- where a matrix and a shift bring a point -/
def mapF (a b c d x y : Int) (l : List (Int × Int)) (i : Nat) : Int × Int := (a * (vx l i).1 + b * (vx l i).2 + x, c * (vx l i).1 + d * (vx l i).2 + y)
/-- are the first n of these points pegs? -/
def allB (g : Nat → Int × Int) (n : Nat) : Bool := pegsB (firsts g n)
theorem allB_iff (g : Nat → Int × Int) (n : Nat) : allB g n = true ↔ ∀ i, i < n → isPg (g i) = true := by
  unfold allB
  rw [pegsB_iff, firsts_len]
  constructor
  · intro h i hi
    have := h i hi
    have e := vx_get (l := firsts g n) (i := i) (by rw [firsts_len]; exact hi)
    rw [firsts_get g n i hi] at e
    injection e with e
    rw [e]; exact this
  · intro h i hi
    have e := vx_get (l := firsts g n) (i := i) (by rw [firsts_len]; exact hi)
    rw [firsts_get g n i hi] at e
    injection e with e
    rw [← e]; exact h i hi
theorem retL_of_row {w w' : World} {v : Value} {f : Nat → Int × Int} {k : Nat} (h : Row w' w.heap.size v f k) (hb : Below w.heap.size w w') : RetL w (firsts f k) true (.returned (.tuple #[v, .bool true])) w' := by
  obtain ⟨A, c, rfl, h1, h2, h3⟩ := row_out h
  refine ⟨A, c, by rw [firsts_len], by rw [firsts_len]; exact h1, h2, hb, ?_⟩
  rw [firsts_len]
  exact rw_same h3 fun i hi => (firsts_pt f k i hi).symm
set_option maxHeartbeats 4000000 in
theorem pgMap_any (A : Option Addr) (cp : Nat) (l : List (Int × Int)) (a b c d x y : Int) (w : World) (h1 : 1 ≤ l.length) (hn : l.length ≤ 10) (hp : ∀ i, i < l.length → isPg (vx l i) = true) (hR : Rd w w.heap.size A l)
    (ha : -20 ≤ a ∧ a ≤ 20) (hb : -20 ≤ b ∧ b ≤ 20) (hc : -20 ≤ c ∧ c ≤ 20) (hd : -20 ≤ d ∧ d ≤ 20) (hx : -2000 ≤ x ∧ x ≤ 2000) (hy : -2000 ≤ y ∧ y ≤ 2000) :
    Calls Try.prog 105 #[.slice A l.length cp, .int .i64 a, .int .i64 b, .int .i64 c, .int .i64 d, .int .i64 x, .int .i64 y] w
      (RetL w (sel (allB (mapF a b c d x y l) l.length) (firsts (mapF a b c d x y l) l.length)) (allB (mapF a b c d x y l) l.length)) := by
  obtain ⟨b0, off, rfl, hb0, HC⟩ := pts_of (by omega) hR
  obtain ⟨i0, hi0, hz0, hz1, hz2⟩ := info_parts peg_info
  have HI := Lib.hid (And.intro hi0 (And.intro hz0 (And.intro hz1 hz2)))
  have HP := Lib.hid (fun i hi => (show (-40 ≤ (vx l i).1 ∧ (vx l i).1 ≤ 40) ∧ (-40 ≤ (vx l i).2 ∧ (vx l i).2 ≤ 40) from by
    have := hp i hi
    unfold isPg isPegB at this
    simp only [Bool.and_eq_true, decide_eq_true_eq] at this
    exact this))
  have HM := Lib.hid (fun i => (show mapF a b c d x y l i = (a * (vx l i).1 + b * (vx l i).2 + x, c * (vx l i).1 + d * (vx l i).2 + y) from rfl))
  have HA := Lib.hid (allB_iff (mapF a b c d x y l) l.length)
  have HBD := Lib.hid (And.intro ha (And.intro hb (And.intro hc hd)))
  obtain ⟨x1, x2⟩ := hx
  obtain ⟨y1, y2⟩ := hy
  clear hi0 hz0 hz1 hz2 hR hp ha hb hc hd
  generalize mapF a b c d x y l = f at *
  generalize hN : l.length = n at *
  have HN := Lib.hid hN
  clear hN
  go_enter Try.func105, Try.ntmps105
  go_wp2_with fail
  go_loopg [16, 22] n (fun g s i wr => ∃ (k : Nat) (v : Value), s = v ∧ k ≤ n ∧ g = n - k ∧ i = .int .i64 k ∧ Below w.heap.size w wr ∧ Hid (Row wr w.heap.size v f k) ∧ Hid (∀ i, i < k → isPg (f i) = true))
  case atStart => exact ⟨0, _, rfl, Nat.zero_le _, rfl, rfl, Below.refl _ _, Lib.hid (row_nil w w.heap.size f), Lib.hid (fun i h => absurd h (Nat.not_lt_zero _))⟩
  case round =>
    obtain ⟨k, v, rfl, hk, hg, rfl, hB, hr, hF⟩ := hrel
    rename World => wo
    have HGK := Lib.hid hg
    clear hg
    by_cases hlt : k < n
    · have hq := HC.out wo hB k hlt
      have hfk := HM.out k
      obtain ⟨⟨p1, p2⟩, ⟨p3, p4⟩⟩ := HP.out k hlt
      obtain ⟨⟨a1, a2⟩, ⟨b1, b2⟩, ⟨c1, c2⟩, ⟨d1, d2⟩⟩ := HBD.out
      have m1 := mul_bd (x := a) (y := (vx l k).1) (m := 20) (n := 40) (by omega) (by omega) (by omega) (by omega)
      have m2 := mul_bd (x := b) (y := (vx l k).2) (m := 20) (n := 40) (by omega) (by omega) (by omega) (by omega)
      have m3 := mul_bd (x := c) (y := (vx l k).1) (m := 20) (n := 40) (by omega) (by omega) (by omega) (by omega)
      have m4 := mul_bd (x := d) (y := (vx l k).2) (m := 20) (n := 40) (by omega) (by omega) (by omega) (by omega)
      obtain ⟨m11, m12⟩ := m1
      obtain ⟨m21, m22⟩ := m2
      obtain ⟨m31, m32⟩ := m3
      obtain ⟨m41, m42⟩ := m4
      have hzB := hB.size
      obtain ⟨q1, hq1⟩ : ∃ q, q = a * (vx l k).1 + b * (vx l k).2 + x := ⟨_, rfl⟩
      obtain ⟨q2, hq2⟩ : ∃ q, q = c * (vx l k).1 + d * (vx l k).2 + y := ⟨_, rfl⟩
      have HQ := Lib.hid (And.intro hq1 hq2)
      have K1 := Lib.hid (fun W => pgIs_any (a * (vx l k).1 + b * (vx l k).2 + x) (c * (vx l k).1 + d * (vx l k).2 + y) W)
      have hpe : isPg (f k) = isPegB (a * (vx l k).1 + b * (vx l k).2 + x) (c * (vx l k).1 + d * (vx l k).2 + y) := by rw [hfk]; rfl
      have HFK := Lib.hid hfk
      have B1 := Lib.hid (Below.alloc (Below.alloc hB hzB (.cells #[.int .i64 (vx l k).1, .int .i64 (vx l k).2] 56)) (by simp; omega) (.cells #[.int .i64 (a * (vx l k).1 + b * (vx l k).2 + x), .int .i64 (c * (vx l k).1 + d * (vx l k).2 + y)] 56))
      have R1 := Lib.hid (row_alloc (row_alloc hr.out (.cells #[.int .i64 (vx l k).1, .int .i64 (vx l k).2] 56)) (.cells #[.int .i64 (a * (vx l k).1 + b * (vx l k).2 + x), .int .i64 (c * (vx l k).1 + d * (vx l k).2 + y)] 56))
      clear hfk hq1 hq2
      by_cases hpg : isPg (f k) = true
      · have hF2 : Hid (∀ i, i < k + 1 → isPg (f i) = true) := Lib.hid (fun i hi => by
          by_cases hik : i = k
          · subst hik; exact hpg
          · exact hF.out i (by omega))
        rw [hpe] at hpg
        rw [hpg] at K1
        clear hpe hpg hF
        go_wp2_with fail
        refine (K1.out _).mono ?_; rintro e w1 ⟨rfl, hb1⟩
        have B2 := B1.out.trans (hb1.mono (B1.out.size))
        have R2 := row_below R1.out hb1 (Nat.le_refl _)
        have z2 : wo.heap.size + 1 < w1.heap.size := by (have := hb1.size; simp at this; omega)
        have c0 : w1.cell? ⟨wo.heap.size + 1, 0, none⟩ = some (.int .i64 (a * (vx l k).1 + b * (vx l k).2 + x)) := ((bcell hb1).1 _ _ (by simp)).trans (by go_simp)
        have c1 : w1.cell? ⟨wo.heap.size + 1, 1, none⟩ = some (.int .i64 (c * (vx l k).1 + d * (vx l k).2 + y)) := ((bcell hb1).1 _ _ (by simp)).trans (by go_simp)
        have RA := Lib.hid (row_alloc R2 (.cells #[.int .i64 (a * (vx l k).1 + b * (vx l k).2 + x), .int .i64 (c * (vx l k).1 + d * (vx l k).2 + y)] 56))
        have BA := Lib.hid (Below.alloc B2 B2.size (.cells #[.int .i64 (a * (vx l k).1 + b * (vx l k).2 + x), .int .i64 (c * (vx l k).1 + d * (vx l k).2 + y)] 56))
        have hz1 := B2.size
        clear R2 hb1 B2 K1 B1 R1 hr
        go_wp2_with (at_builtin; refine wpList_append_own _ rfl (.tmp 52) (.tmp 54) 26 rfl w.heap.size 56 i0 (.agg #[.int .i64 0, .int .i64 0]) 2 16 Try.underlying26 HI.out.1 HI.out.2.1 HI.out.2.2.1 HI.out.2.2.2 rfl (by decide) _ k (flat (firsts f k)) rfl RA.out ⟨w1.heap.size, 0, none⟩ 1 1 [.int .i64 (a * (vx l k).1 + b * (vx l k).2 + x), .int .i64 (c * (vx l k).1 + d * (vx l k).2 + y)] rfl rfl (two_cells (by go_simp) (by go_simp)) (two_one _ _) (by unfold maxLen; omega) (by omega) (by simp; omega) ?_)
        intro v' w2 hown hgr _
        have RB := row_push (f := f) (k := k) BA.out RA.out (by rw [HFK.out]; exact hown) hgr
        have R3 := Lib.hid RB.1
        have B3 := RB.2
        clear RB hown hgr hq c0 c1 m11 m12 m21 m22 m31 m32 m41 m42
        go_wp2_with fail
        go_roundg (n - (k + 1))
        case measure => have := HGK.out; omega
        case rel => exact ⟨k + 1, _, rfl, by omega, rfl, by go_num, B3, R3, hF2⟩
      · have hpf : isPg (f k) = false := by simpa using hpg
        have hng : Hid (allB f n = false) := Lib.hid (by
          have h := HA.out
          cases h2 : allB f n
          · rfl
          · exact absurd (h.1 h2 k hlt) hpg)
        rw [hpe] at hpf
        rw [hpf] at K1
        clear hpe hpf hpg hF hr
        go_wp2_with fail
        refine (K1.out _).mono ?_; rintro e w1 ⟨rfl, hb1⟩
        have B2 := B1.out.trans (hb1.mono (B1.out.size))
        go_wp2_with fail
        go_ret2
        rw [hng.out]
        exact retL_nil B2
    · have hkn : n = k := by omega
      subst hkn
      have hy : Hid (allB f n = true) := Lib.hid (HA.out.2 hF.out)
      go_wp2_with fail
      go_ret2
      rw [hy.out]
      exact retL_of_row hr.out hB
end Go.Proofs.Ytheddoinnakneaa
/- contract: the program's corners brought elsewhere by a function value -/
namespace Go.Proofs.Ytheddoinnakneaa
open Go.ChangeShapes Go.WideShapes Go.ChangeAt Go.RowKit Go.Joins
set_option linter.unusedVariables false
set_option linter.unusedSimpArgs false
set_option maxRecDepth 4000
theorem retL_of_set {w w' W : World} {n g : Nat} {f : Nat → Int × Int} (h : Set w' g n n (firsts f n)) (hb : Below w.heap.size w w') (hn : n ≤ 1048576) (hg : w.heap.size ≤ g) :
    RetL w (firsts f n) true (.returned (.tuple #[.slice (some ⟨g, 0, none⟩) n n, .bool true])) w' := by
  refine ⟨some ⟨g, 0, none⟩, n, by rw [firsts_len], by rw [firsts_len]; exact Nat.le_refl _, by unfold maxLen; omega, hb, ?_⟩
  have h' : Set w' g (firsts f n).length (firsts f n).length (firsts f n) := by rw [firsts_len]; exact h
  exact rw_more (rw_of_set h') hg (by have := h.1; omega)
set_option maxHeartbeats 4000000 in
theorem bringCorners_any (A : Option Addr) (c : Nat) (l : List (Int × Int)) (fid : Nat) (cap : Array Value) (f : Nat → Int × Int) (w : World) (hn : l.length ≤ 1048576) (hR : Rd w w.heap.size A l)
    (hcf : ∀ args W, (callFunc fid args).run Try.prog W = .ok (Next.enter fid args) W)
    (hK : Good l → ∀ i, i < l.length → ∀ W, Below w.heap.size w W → Calls Try.prog fid (#[.agg #[.int .i64 (vx l i).1, .int .i64 (vx l i).2]] ++ cap) W fun e w' => e = .returned (.agg #[.int .i64 (f i).1, .int .i64 (f i).2]) ∧ Below W.heap.size W w') :
    Calls Try.prog 106 #[.slice A l.length c, .func (.func fid) #[] cap] w (RetL w (sel (goodB l && allB f l.length) (firsts f l.length)) (goodB l && allB f l.length)) := by
  have K := Lib.hid (implIsPolygon_any A c l w hn hR)
  by_cases hgd : Good l
  · have hgt := goodB_true hgd
    rw [hgt] at K ⊢
    rw [Bool.true_and]
    obtain ⟨i0, hi0, hz0, hz1, hz2⟩ := info_parts peg_info
    have h10 := hgd.few
    have hmk := fun W => run_make (P := Try.prog) W 26 56 i0 _ Try.underlying26 hi0 hz0 .i64 .i64 (l.length : Int) (l.length : Int) (by omega) (by omega) (by rw [hz2]; omega) (by omega)
    obtain ⟨b, off, rfl, hb, HC⟩ := pts_of (by omega) hR
    have HF := Lib.hid (hK hgd)
    have KA := Lib.hid (fun W g (h : Set W g l.length l.length (firsts f l.length)) => (show Calls Try.prog 86 #[.slice (some ⟨g, 0, none⟩) l.length l.length] W fun e w' => e = .returned (.bool (allB f l.length)) ∧ Below W.heap.size W w' from by
      have := arePegs_any (some ⟨g, 0, none⟩) l.length (firsts f l.length) W (by rw [firsts_len]; exact hn) (rd_of_set (by rw [firsts_len]; exact h))
      rw [firsts_len] at this
      exact this))
    obtain ⟨n3, n10⟩ := h10
    clear hgd hgt hR hK hn
    generalize hN : l.length = n at *
    have HN := Lib.hid hN
    clear hN
    go_enter Try.func106, Try.ntmps106
    go_wp2_with fail
    refine K.out.mono ?_; rintro e w1 ⟨rfl, hb1⟩
    have HS := Lib.hid (set_new w1 56 n (firsts f n))
    have hw1 := hb1.size
    have hB0 := Below.alloc hb1 hw1 (.cells (madeCells #[.int .i64 0, .int .i64 0] (n * 2)) 56)
    go_wp2_with fail
    clear hmk
    go_loopg [17] n (fun g i wr => ∃ k : Nat, k ≤ n ∧ g = n - k ∧ i = .int .i64 k ∧ Below w.heap.size w wr ∧ Hid (Set wr w1.heap.size n k (firsts f n)))
    case atStart => exact ⟨0, Nat.zero_le _, rfl, rfl, hB0, HS⟩
    case round =>
      clear hB0 HS hb1
      obtain ⟨k, hk, hg, rfl, hB, hS⟩ := hrel
      rename World => wo
      have HGK := Lib.hid hg
      clear hg
      by_cases hlt : k < n
      · have hq := HC.out wo hB k hlt
        have hzB := hB.size
        have S0 := set_below hS.out (Below.alloc (Below.refl _ _) (Nat.le_refl _) (.cells #[.int .i64 (vx l k).1, .int .i64 (vx l k).2] 56))
        have B0 := Below.alloc hB hzB (.cells #[.int .i64 (vx l k).1, .int .i64 (vx l k).2] 56)
        have KF := Lib.hid (HF.out k hlt _ B0)
        have S0H := Lib.hid S0
        clear S0 hS
        go_wp2_with fail
        refine KF.out.mono ?_; rintro e w2 ⟨rfl, hb2⟩
        have B2 := B0.trans (hb2.mono B0.size)
        have S2 := set_below S0H.out hb2
        obtain ⟨g1, g2, g3⟩ := S2
        obtain ⟨⟨u1, d1⟩, ⟨u2, d2⟩, d3, d4⟩ := g2 k hlt
        have S3 := Lib.hid (set_store (show Set w2 w1.heap.size n k (firsts f n) from ⟨g1, g2, g3⟩) hlt (firsts_get f n k hlt))
        have B3 := Lib.hid ((B2.setCell (p := ⟨w1.heap.size, k * 2, none⟩) hw1 (.int .i64 (f k).1)).setCell (p := ⟨w1.heap.size, k * 2 + 1, none⟩) hw1 (.int .i64 (f k).2))
        clear g2 g3 S0H KF B0 B2 hq hb2
        go_wp2_with fail
        go_roundg (n - (k + 1))
        case measure => have := HGK.out; omega
        case rel => exact ⟨k + 1, by omega, rfl, by go_num, B3.out, S3⟩
      · have hkn : n = k := by omega
        subst hkn
        have KB := Lib.hid (KA.out _ _ hS.out)
        have hzB := hB.size
        cases hab : allB f n
        · rw [hab] at KB
          have HAB := Lib.hid hab
          clear hab
          go_wp2_with fail
          refine KB.out.mono ?_; rintro e w2 ⟨rfl, hb2⟩
          have B2 := hB.trans (hb2.mono hzB)
          go_wp2_with fail
          go_ret2
          rw [HAB.out]
          exact retL_nil B2
        · rw [hab] at KB
          have HAB := Lib.hid hab
          clear hab
          go_wp2_with fail
          refine KB.out.mono ?_; rintro e w2 ⟨rfl, hb2⟩
          have B2 := hB.trans (hb2.mono hzB)
          have S2 := Lib.hid (set_below hS.out hb2)
          go_wp2_with fail
          go_ret2
          rw [HAB.out]
          exact retL_of_set (W := w) S2.out B2 (by omega) hw1
  · have hgf := goodB_false hgd
    rw [hgf] at K ⊢
    rw [Bool.false_and]
    clear hgf hgd hR hK
    go_enter Try.func106, Try.ntmps106
    go_wp2_with fail
    refine K.out.mono ?_; rintro e w1 ⟨rfl, hb1⟩
    go_wp2_with fail
    go_ret2
    exact retL_nil hb1
end Go.Proofs.Ytheddoinnakneaa

