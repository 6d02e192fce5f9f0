/- joined: Ch Ro Rp Wn2 MS -/
import Derived.Test.YtheddoinnakneaaZFlatPolygon6
import Derived.BigRegion
import Derived.Test.YtheddoinnakneaaRows
import Derived.Deep.Draws
import Derived.Shelf.SlicesE.Clone
import Derived.Shelf.SlSortCmp.NoneTotal
/- contract: a point divided by a number that is not 0 -/
namespace Go.Proofs.Ytheddoinnakneaa
open Go.ChangeShapes Go.WideShapes Go.ChangeAt Go.RowKit Go.Joins
set_option linter.unusedVariables false
set_option linter.unusedSimpArgs false
set_option maxRecDepth 4000
theorem tdivN_back (p n : Int) : (p.tmod n = 0 ↔ p.tdiv n * n = p) := by
  have := Int.tdiv_mul_add_tmod p n
  constructor <;> intro h <;> omega
theorem tdivN_bd (p n : Int) (h : Mid p) : Mid (p.tdiv n) ∧ Mid (p.tdiv n * n) := by
  have h2 : (p.tdiv n).natAbs ≤ p.natAbs := by rw [Int.natAbs_tdiv]; exact Nat.div_le_self _ _
  have h4 : (p.tdiv n * n).natAbs ≤ p.natAbs := by rw [Int.natAbs_mul, Int.natAbs_tdiv]; exact Nat.div_mul_le_self _ _
  unfold Mid at *
  omega
set_option maxHeartbeats 2000000 in
theorem dividedByN_any (p1 p2 n : Int) (w : World) (h1 : Mid p1) (h2 : Mid p2) (hn : n ≠ 0 ∧ -1000000 ≤ n ∧ n ≤ 1000000) :
    Calls Try.prog 129 #[.agg #[.int .i64 p1, .int .i64 p2], .int .i64 n] w fun e w' => e = .returned (.tuple #[.agg #[.int .i64 (p1.tdiv n), .int .i64 (p2.tdiv n)], .bool (decide (p1.tmod n = 0) && decide (p2.tmod n = 0))]) ∧ Below w.heap.size w w' := by
  obtain ⟨g1, g2⟩ := tdivN_bd p1 n h1
  obtain ⟨g3, g4⟩ := tdivN_bd p2 n h2
  have K := Lib.hid (fun W => times_any (p1.tdiv n) (p2.tdiv n) n W (by unfold Mid at g2; omega) (by unfold Mid at g4; omega))
  have e1 : decide (p1.tmod n = 0) = decide (p1.tdiv n * n = p1) := decide_eq_decide.2 (tdivN_back p1 n)
  have e2 : decide (p2.tmod n = 0) = decide (p2.tdiv n * n = p2) := decide_eq_decide.2 (tdivN_back p2 n)
  rw [e1, e2]
  generalize p1.tdiv n * n = m1 at *
  generalize p2.tdiv n * n = m2 at *
  obtain ⟨x1, x2⟩ := h1
  obtain ⟨x3, x4⟩ := h2
  obtain ⟨n0, n1, n2⟩ := hn
  have n3 : ¬ n = 0 := n0
  obtain ⟨x5, x6⟩ := g1
  obtain ⟨x7, x8⟩ := g3
  clear g2 g4 e1 e2
  by_cases c1 : m1 = p1
  · by_cases c2 : m2 = p2
    · subst c1 c2
      go_enter Try.func129, Try.ntmps129
      go_wp2_with fail
      obtain ⟨W0, hW0⟩ : ∃ W0, W0 = ((w.alloc (.cells #[.int .i64 m1, .int .i64 m2] 56)).alloc (.cells #[.int .i64 0, .int .i64 0] 56)) := ⟨_, rfl⟩
      rw [← hW0]
      have yW00_0 : W0.cell? ⟨w.heap.size, 0, none⟩ = some (.int .i64 m1) := by rw [hW0]; go_simp
      have yW00_1 : W0.cell? ⟨w.heap.size, 1, none⟩ = some (.int .i64 m2) := by rw [hW0]; go_simp
      have fW00 : ∀ o, W0.frozen? ⟨w.heap.size, o, none⟩ = false := by intro o; rw [hW0]; (repeat rw [frozen?_alloc_cells]); simp [World.frozen?]
      have zW00 : w.heap.size < W0.heap.size := by rw [hW0]; simp <;> omega
      have yW01_0 : W0.cell? ⟨w.heap.size + 1, 0, none⟩ = some (.int .i64 0) := by rw [hW0]; go_simp
      have yW01_1 : W0.cell? ⟨w.heap.size + 1, 1, none⟩ = some (.int .i64 0) := by rw [hW0]; go_simp
      have fW01 : ∀ o, W0.frozen? ⟨w.heap.size + 1, o, none⟩ = false := by intro o; rw [hW0]; (repeat rw [frozen?_alloc_cells]); simp [World.frozen?]
      have zW01 : w.heap.size + 1 < W0.heap.size := by rw [hW0]; simp <;> omega
      have BW0 : Below w.heap.size w W0 := by rw [hW0]; exact (Below.alloc (Below.alloc (Below.refl _ _) (by simp <;> omega) _) (by simp <;> omega) _)
      have eW0 : Hid (W0.heap.size = w.heap.size + 2) := Lib.hid (by rw [hW0]; simp)
      clear hW0
      go_region
      obtain ⟨W1, hW1⟩ : ∃ W1, W1 = (W0.alloc (.cells #[.int .i64 (m1.tdiv n), .int .i64 (m2.tdiv n)] 56)) := ⟨_, rfl⟩
      rw [← hW1]
      have yW10_0 : W1.cell? ⟨W0.heap.size, 0, none⟩ = some (.int .i64 (m1.tdiv n)) := by rw [hW1]; go_simp
      have yW10_1 : W1.cell? ⟨W0.heap.size, 1, none⟩ = some (.int .i64 (m2.tdiv n)) := by rw [hW1]; go_simp
      have fW10 : ∀ o, W1.frozen? ⟨W0.heap.size, o, none⟩ = false := by intro o; rw [hW1]; (repeat rw [frozen?_alloc_cells]); simp [World.frozen?]
      have zW10 : W0.heap.size < W1.heap.size := by rw [hW1]; simp <;> omega
      have BW1 : Below W0.heap.size W0 W1 := by rw [hW1]; exact (Below.alloc (Below.refl _ _) (by simp <;> omega) _)
      have eW1 : Hid (W1.heap.size = W0.heap.size + 1) := Lib.hid (by rw [hW1]; simp)
      clear hW1
      obtain ⟨hcA, hfA⟩ := bcell BW1
      have zA : w.heap.size < W1.heap.size := by omega
      have zB : w.heap.size + 1 < W1.heap.size := by omega
      have r0 := (hcA _ _ zW00).trans yW00_0
      have r1 := (hcA _ _ zW00).trans yW00_1
      have r2 := (hcA _ _ zW01).trans yW01_0
      have r3 := (hcA _ _ zW01).trans yW01_1
      have r4 : ∀ o, W1.frozen? ⟨w.heap.size + 1, o, none⟩ = false := fun o => (hfA _ _ zW01).trans (fW01 o)
      clear hcA hfA
      obtain ⟨W2, hW2⟩ : ∃ W2, W2 = (W1.setCell ⟨w.heap.size + 1, 0, none⟩ (.int .i64 (m1.tdiv n))).setCell ⟨w.heap.size + 1, 1, none⟩ (.int .i64 (m2.tdiv n)) := ⟨_, rfl⟩
      have ne : w.heap.size ≠ w.heap.size + 1 := by omega
      have ne2 : W0.heap.size ≠ w.heap.size + 1 := by omega
      have FX : Hid (∀ X, (X = W1 ∨ X = W2) → W1.heap.size ≤ X.heap.size ∧ X.cell? ⟨w.heap.size, 0, none⟩ = some (.int .i64 m1) ∧ X.cell? ⟨w.heap.size, 1, none⟩ = some (.int .i64 m2) ∧ X.cell? ⟨W0.heap.size, 0, none⟩ = some (.int .i64 (m1.tdiv n)) ∧ X.cell? ⟨W0.heap.size, 1, none⟩ = some (.int .i64 (m2.tdiv n))) := Lib.hid (fun X hX => by
        rcases hX with rfl | rfl
        · exact ⟨Nat.le_refl _, r0, r1, yW10_0, yW10_1⟩
        · rw [hW2]
          have o : ∀ (bb oo : Nat), bb ≠ w.heap.size + 1 → ((W1.setCell ⟨w.heap.size + 1, 0, none⟩ (.int .i64 (m1.tdiv n))).setCell ⟨w.heap.size + 1, 1, none⟩ (.int .i64 (m2.tdiv n))).cell? ⟨bb, oo, none⟩ = W1.cell? ⟨bb, oo, none⟩ := fun bb oo hh => by
            rw [World.cell?_setCell_other _ _ _ _ (fun e => hh (by injection e with e1 e2; exact e1.symm)), World.cell?_setCell_other _ _ _ _ (fun e => hh (by injection e with e1 e2; exact e1.symm))]
          exact ⟨by simp [World.setCell], (o _ _ ne).trans r0, (o _ _ ne).trans r1, (o _ _ ne2).trans yW10_0, (o _ _ ne2).trans yW10_1⟩)
      have HW2 := Lib.hid hW2
      have BW2 : Below w.heap.size w W2 := by
        rw [hW2]
        exact Below.setCell (Below.setCell (BW0.trans (BW1.mono BW0.size)) (by simp) _) (by simp) _
      have s0 : W2.cell? ⟨w.heap.size + 1, 0, none⟩ = some (.int .i64 (m1.tdiv n)) := by
        rw [hW2, World.cell?_setCell_other _ _ _ _ (fun e => by injection e with e1 e2; cases e2), World.cell?_setCell_same _ _ _ r2]
      have s1 : W2.cell? ⟨w.heap.size + 1, 1, none⟩ = some (.int .i64 (m2.tdiv n)) := by
        rw [hW2]
        exact World.cell?_setCell_same _ _ _ (show (W1.setCell ⟨w.heap.size + 1, 0, none⟩ (.int .i64 (m1.tdiv n))).cell? ⟨w.heap.size + 1, 1, none⟩ = some (.int .i64 0) by rw [World.cell?_setCell_other _ _ _ _ (fun e => by injection e with e1 e2; cases e2)]; exact r3)
      clear hW2
      go_wp2_with fail
      refine wp_region_Z 6 W1.heap.size W1 W2 (by kernel_rfl) (by repeat (first | exact Below.refl _ _ | apply Below.drew)) ?_
      first | refine wpZ_skip 0 rfl (by kernel_rfl) (by kernel_rfl) (by kernel_rfl) (by rfl) (by decide) ?_ | (refine wpZ_text 0 (v := ?_) rfl (by kernel_rfl) (by kernel_rfl) (by kernel_rfl) (by rfl) (by decide) (fun X hX W k1 => ?_) ?_; rotate_left; (obtain ⟨hX0, x0, x1, x2, x3⟩ := FX.out X hX; obtain ⟨hc1, hf1⟩ := bcellN k1; go_simp; refine comes_v ?_; exact k1))
      (try simp only [Act.put, List.setIfInBounds_toArray, List.set_cons_zero, List.set_cons_succ])
      first | refine wpZ_skip 1 rfl (by kernel_rfl) (by kernel_rfl) (by kernel_rfl) (by rfl) (by decide) ?_ | (refine wpZ_text 1 (v := ?_) rfl (by kernel_rfl) (by kernel_rfl) (by kernel_rfl) (by rfl) (by decide) (fun X hX W k1 => ?_) ?_; rotate_left; (obtain ⟨hX0, x0, x1, x2, x3⟩ := FX.out X hX; obtain ⟨hc1, hf1⟩ := bcellN k1; go_simp; refine comes_v ?_; exact k1))
      (try simp only [Act.put, List.setIfInBounds_toArray, List.set_cons_zero, List.set_cons_succ])
      first | refine wpZ_skip 2 rfl (by kernel_rfl) (by kernel_rfl) (by kernel_rfl) (by rfl) (by decide) ?_ | (refine wpZ_text 2 (v := ?_) rfl (by kernel_rfl) (by kernel_rfl) (by kernel_rfl) (by rfl) (by decide) (fun X hX W k1 => ?_) ?_; rotate_left; (obtain ⟨hX0, x0, x1, x2, x3⟩ := FX.out X hX; obtain ⟨hc1, hf1⟩ := bcellN k1; go_simp; refine comes_v ?_; exact k1))
      (try simp only [Act.put, List.setIfInBounds_toArray, List.set_cons_zero, List.set_cons_succ])
      first | refine wpZ_skip 3 rfl (by kernel_rfl) (by kernel_rfl) (by kernel_rfl) (by rfl) (by decide) ?_ | (refine wpZ_text 3 (v := .agg #[.int .i64 m1, .int .i64 m2]) rfl (by kernel_rfl) (by kernel_rfl) (by kernel_rfl) (by rfl) (by decide) (fun X hX W k1 => ?_) ?_; (obtain ⟨hX0, x0, x1, x2, x3⟩ := FX.out X hX; obtain ⟨hc1, hf1⟩ := bcellN k1; go_simp; exact comes_c ( K.out _) (fun wn hbn => k1.trans (hbn.mono (Nat.le_trans hX0 k1.size)))))
      (try simp only [Act.put, List.setIfInBounds_toArray, List.set_cons_zero, List.set_cons_succ])
      first | refine wpZ_skip 4 rfl (by kernel_rfl) (by kernel_rfl) (by kernel_rfl) (by rfl) (by decide) ?_ | (refine wpZ_text 4 (v := ?_) rfl (by kernel_rfl) (by kernel_rfl) (by kernel_rfl) (by rfl) (by decide) (fun X hX W k1 => ?_) ?_; rotate_left; (obtain ⟨hX0, x0, x1, x2, x3⟩ := FX.out X hX; obtain ⟨hc1, hf1⟩ := bcellN k1; go_simp; refine comes_v ?_; exact k1))
      (try simp only [Act.put, List.setIfInBounds_toArray, List.set_cons_zero, List.set_cons_succ])
      first | refine wpZ_skip 5 rfl (by kernel_rfl) (by kernel_rfl) (by kernel_rfl) (by rfl) (by decide) ?_ | (refine wpZ_text 5 (v := ?_) rfl (by kernel_rfl) (by kernel_rfl) (by kernel_rfl) (by rfl) (by decide) (fun X hX W k1 => ?_) ?_; rotate_left; (obtain ⟨hX0, x0, x1, x2, x3⟩ := FX.out X hX; obtain ⟨hc1, hf1⟩ := bcellN k1; go_simp; refine comes_v ?_; exact k1))
      (try simp only [Act.put, List.setIfInBounds_toArray, List.set_cons_zero, List.set_cons_succ])
      (refine wpZ_store (v := undef) rfl (by kernel_rfl) (by kernel_rfl) (by kernel_rfl) (by rfl) (fun W k1 => ?_) ?_; (obtain ⟨hc1, hf1⟩ := bcellN k1; go_simp; refine ⟨rfl, ?_⟩; rw [HW2.out]; exact below_set2 (below_set2 k1 _ _ zB) _ _ zB))
      (try simp only [Act.put, List.setIfInBounds_toArray, List.set_cons_zero, List.set_cons_succ])
      first | refine wpZ_skip 7 rfl (by kernel_rfl) (by kernel_rfl) (by kernel_rfl) (by rfl) (by decide) ?_ | (refine wpZ_text 7 (v := ?_) rfl (by kernel_rfl) (by kernel_rfl) (by kernel_rfl) (by rfl) (by decide) (fun X hX W k1 => ?_) ?_; rotate_left; (obtain ⟨hX0, x0, x1, x2, x3⟩ := FX.out X hX; obtain ⟨hc1, hf1⟩ := bcellN k1; go_simp; refine comes_v ?_; exact k1))
      (try simp only [Act.put, List.setIfInBounds_toArray, List.set_cons_zero, List.set_cons_succ])
      refine wpZ_done (by kernel_rfl) (by kernel_rfl) ?_ _
      intro W k1; obtain ⟨hc1, hf1⟩ := bcellN k1
      have B1 : Below w.heap.size w W := BW2.trans (k1.mono (by omega))
      go_wp2_with fail
      refine bodyPost_ret (v := .tuple #[.agg #[.int .i64 (m1.tdiv n), .int .i64 (m2.tdiv n)], .bool true]) (by simp [results, Try.results129, go_sem, hc1, zB, s0, s1]) rfl ⟨by simp , ?_⟩
      repeat (first | with_reducible assumption | with_reducible exact Below.refl _ _ | with_reducible apply Below.drew | ((with_reducible refine Below.setCell ?_ ?_ _); rotate_left; (first | exact Nat.le_refl _ | omega | (simp <;> omega))) | ((with_reducible refine Below.alloc ?_ ?_ _); rotate_left; (first | omega | (simp <;> omega))))
    · subst c1
      go_enter Try.func129, Try.ntmps129
      go_wp2_with fail
      obtain ⟨W0, hW0⟩ : ∃ W0, W0 = ((w.alloc (.cells #[.int .i64 m1, .int .i64 p2] 56)).alloc (.cells #[.int .i64 0, .int .i64 0] 56)) := ⟨_, rfl⟩
      rw [← hW0]
      have yW00_0 : W0.cell? ⟨w.heap.size, 0, none⟩ = some (.int .i64 m1) := by rw [hW0]; go_simp
      have yW00_1 : W0.cell? ⟨w.heap.size, 1, none⟩ = some (.int .i64 p2) := by rw [hW0]; go_simp
      have fW00 : ∀ o, W0.frozen? ⟨w.heap.size, o, none⟩ = false := by intro o; rw [hW0]; (repeat rw [frozen?_alloc_cells]); simp [World.frozen?]
      have zW00 : w.heap.size < W0.heap.size := by rw [hW0]; simp <;> omega
      have yW01_0 : W0.cell? ⟨w.heap.size + 1, 0, none⟩ = some (.int .i64 0) := by rw [hW0]; go_simp
      have yW01_1 : W0.cell? ⟨w.heap.size + 1, 1, none⟩ = some (.int .i64 0) := by rw [hW0]; go_simp
      have fW01 : ∀ o, W0.frozen? ⟨w.heap.size + 1, o, none⟩ = false := by intro o; rw [hW0]; (repeat rw [frozen?_alloc_cells]); simp [World.frozen?]
      have zW01 : w.heap.size + 1 < W0.heap.size := by rw [hW0]; simp <;> omega
      have BW0 : Below w.heap.size w W0 := by rw [hW0]; exact (Below.alloc (Below.alloc (Below.refl _ _) (by simp <;> omega) _) (by simp <;> omega) _)
      have eW0 : Hid (W0.heap.size = w.heap.size + 2) := Lib.hid (by rw [hW0]; simp)
      clear hW0
      go_region
      obtain ⟨W1, hW1⟩ : ∃ W1, W1 = (W0.alloc (.cells #[.int .i64 (m1.tdiv n), .int .i64 (p2.tdiv n)] 56)) := ⟨_, rfl⟩
      rw [← hW1]
      have yW10_0 : W1.cell? ⟨W0.heap.size, 0, none⟩ = some (.int .i64 (m1.tdiv n)) := by rw [hW1]; go_simp
      have yW10_1 : W1.cell? ⟨W0.heap.size, 1, none⟩ = some (.int .i64 (p2.tdiv n)) := by rw [hW1]; go_simp
      have fW10 : ∀ o, W1.frozen? ⟨W0.heap.size, o, none⟩ = false := by intro o; rw [hW1]; (repeat rw [frozen?_alloc_cells]); simp [World.frozen?]
      have zW10 : W0.heap.size < W1.heap.size := by rw [hW1]; simp <;> omega
      have BW1 : Below W0.heap.size W0 W1 := by rw [hW1]; exact (Below.alloc (Below.refl _ _) (by simp <;> omega) _)
      have eW1 : Hid (W1.heap.size = W0.heap.size + 1) := Lib.hid (by rw [hW1]; simp)
      clear hW1
      obtain ⟨hcA, hfA⟩ := bcell BW1
      have zA : w.heap.size < W1.heap.size := by omega
      have zB : w.heap.size + 1 < W1.heap.size := by omega
      have r0 := (hcA _ _ zW00).trans yW00_0
      have r1 := (hcA _ _ zW00).trans yW00_1
      have r2 := (hcA _ _ zW01).trans yW01_0
      have r3 := (hcA _ _ zW01).trans yW01_1
      have r4 : ∀ o, W1.frozen? ⟨w.heap.size + 1, o, none⟩ = false := fun o => (hfA _ _ zW01).trans (fW01 o)
      clear hcA hfA
      obtain ⟨W2, hW2⟩ : ∃ W2, W2 = (W1.setCell ⟨w.heap.size + 1, 0, none⟩ (.int .i64 (m1.tdiv n))).setCell ⟨w.heap.size + 1, 1, none⟩ (.int .i64 (p2.tdiv n)) := ⟨_, rfl⟩
      have ne : w.heap.size ≠ w.heap.size + 1 := by omega
      have ne2 : W0.heap.size ≠ w.heap.size + 1 := by omega
      have FX : Hid (∀ X, (X = W1 ∨ X = W2) → W1.heap.size ≤ X.heap.size ∧ X.cell? ⟨w.heap.size, 0, none⟩ = some (.int .i64 m1) ∧ X.cell? ⟨w.heap.size, 1, none⟩ = some (.int .i64 p2) ∧ X.cell? ⟨W0.heap.size, 0, none⟩ = some (.int .i64 (m1.tdiv n)) ∧ X.cell? ⟨W0.heap.size, 1, none⟩ = some (.int .i64 (p2.tdiv n))) := Lib.hid (fun X hX => by
        rcases hX with rfl | rfl
        · exact ⟨Nat.le_refl _, r0, r1, yW10_0, yW10_1⟩
        · rw [hW2]
          have o : ∀ (bb oo : Nat), bb ≠ w.heap.size + 1 → ((W1.setCell ⟨w.heap.size + 1, 0, none⟩ (.int .i64 (m1.tdiv n))).setCell ⟨w.heap.size + 1, 1, none⟩ (.int .i64 (p2.tdiv n))).cell? ⟨bb, oo, none⟩ = W1.cell? ⟨bb, oo, none⟩ := fun bb oo hh => by
            rw [World.cell?_setCell_other _ _ _ _ (fun e => hh (by injection e with e1 e2; exact e1.symm)), World.cell?_setCell_other _ _ _ _ (fun e => hh (by injection e with e1 e2; exact e1.symm))]
          exact ⟨by simp [World.setCell], (o _ _ ne).trans r0, (o _ _ ne).trans r1, (o _ _ ne2).trans yW10_0, (o _ _ ne2).trans yW10_1⟩)
      have HW2 := Lib.hid hW2
      have BW2 : Below w.heap.size w W2 := by
        rw [hW2]
        exact Below.setCell (Below.setCell (BW0.trans (BW1.mono BW0.size)) (by simp) _) (by simp) _
      have s0 : W2.cell? ⟨w.heap.size + 1, 0, none⟩ = some (.int .i64 (m1.tdiv n)) := by
        rw [hW2, World.cell?_setCell_other _ _ _ _ (fun e => by injection e with e1 e2; cases e2), World.cell?_setCell_same _ _ _ r2]
      have s1 : W2.cell? ⟨w.heap.size + 1, 1, none⟩ = some (.int .i64 (p2.tdiv n)) := by
        rw [hW2]
        exact World.cell?_setCell_same _ _ _ (show (W1.setCell ⟨w.heap.size + 1, 0, none⟩ (.int .i64 (m1.tdiv n))).cell? ⟨w.heap.size + 1, 1, none⟩ = some (.int .i64 0) by rw [World.cell?_setCell_other _ _ _ _ (fun e => by injection e with e1 e2; cases e2)]; exact r3)
      clear hW2
      go_wp2_with fail
      refine wp_region_Z 6 W1.heap.size W1 W2 (by kernel_rfl) (by repeat (first | exact Below.refl _ _ | apply Below.drew)) ?_
      first | refine wpZ_skip 0 rfl (by kernel_rfl) (by kernel_rfl) (by kernel_rfl) (by rfl) (by decide) ?_ | (refine wpZ_text 0 (v := ?_) rfl (by kernel_rfl) (by kernel_rfl) (by kernel_rfl) (by rfl) (by decide) (fun X hX W k1 => ?_) ?_; rotate_left; (obtain ⟨hX0, x0, x1, x2, x3⟩ := FX.out X hX; obtain ⟨hc1, hf1⟩ := bcellN k1; go_simp; refine comes_v ?_; exact k1))
      (try simp only [Act.put, List.setIfInBounds_toArray, List.set_cons_zero, List.set_cons_succ])
      first | refine wpZ_skip 1 rfl (by kernel_rfl) (by kernel_rfl) (by kernel_rfl) (by rfl) (by decide) ?_ | (refine wpZ_text 1 (v := ?_) rfl (by kernel_rfl) (by kernel_rfl) (by kernel_rfl) (by rfl) (by decide) (fun X hX W k1 => ?_) ?_; rotate_left; (obtain ⟨hX0, x0, x1, x2, x3⟩ := FX.out X hX; obtain ⟨hc1, hf1⟩ := bcellN k1; go_simp; refine comes_v ?_; exact k1))
      (try simp only [Act.put, List.setIfInBounds_toArray, List.set_cons_zero, List.set_cons_succ])
      first | refine wpZ_skip 2 rfl (by kernel_rfl) (by kernel_rfl) (by kernel_rfl) (by rfl) (by decide) ?_ | (refine wpZ_text 2 (v := ?_) rfl (by kernel_rfl) (by kernel_rfl) (by kernel_rfl) (by rfl) (by decide) (fun X hX W k1 => ?_) ?_; rotate_left; (obtain ⟨hX0, x0, x1, x2, x3⟩ := FX.out X hX; obtain ⟨hc1, hf1⟩ := bcellN k1; go_simp; refine comes_v ?_; exact k1))
      (try simp only [Act.put, List.setIfInBounds_toArray, List.set_cons_zero, List.set_cons_succ])
      first | refine wpZ_skip 3 rfl (by kernel_rfl) (by kernel_rfl) (by kernel_rfl) (by rfl) (by decide) ?_ | (refine wpZ_text 3 (v := .agg #[.int .i64 m1, .int .i64 m2]) rfl (by kernel_rfl) (by kernel_rfl) (by kernel_rfl) (by rfl) (by decide) (fun X hX W k1 => ?_) ?_; (obtain ⟨hX0, x0, x1, x2, x3⟩ := FX.out X hX; obtain ⟨hc1, hf1⟩ := bcellN k1; go_simp; exact comes_c ( K.out _) (fun wn hbn => k1.trans (hbn.mono (Nat.le_trans hX0 k1.size)))))
      (try simp only [Act.put, List.setIfInBounds_toArray, List.set_cons_zero, List.set_cons_succ])
      first | refine wpZ_skip 4 rfl (by kernel_rfl) (by kernel_rfl) (by kernel_rfl) (by rfl) (by decide) ?_ | (refine wpZ_text 4 (v := ?_) rfl (by kernel_rfl) (by kernel_rfl) (by kernel_rfl) (by rfl) (by decide) (fun X hX W k1 => ?_) ?_; rotate_left; (obtain ⟨hX0, x0, x1, x2, x3⟩ := FX.out X hX; obtain ⟨hc1, hf1⟩ := bcellN k1; go_simp; refine comes_v ?_; exact k1))
      (try simp only [Act.put, List.setIfInBounds_toArray, List.set_cons_zero, List.set_cons_succ])
      first | refine wpZ_skip 5 rfl (by kernel_rfl) (by kernel_rfl) (by kernel_rfl) (by rfl) (by decide) ?_ | (refine wpZ_text 5 (v := ?_) rfl (by kernel_rfl) (by kernel_rfl) (by kernel_rfl) (by rfl) (by decide) (fun X hX W k1 => ?_) ?_; rotate_left; (obtain ⟨hX0, x0, x1, x2, x3⟩ := FX.out X hX; obtain ⟨hc1, hf1⟩ := bcellN k1; go_simp; refine comes_v ?_; exact k1))
      (try simp only [Act.put, List.setIfInBounds_toArray, List.set_cons_zero, List.set_cons_succ])
      (refine wpZ_store (v := undef) rfl (by kernel_rfl) (by kernel_rfl) (by kernel_rfl) (by rfl) (fun W k1 => ?_) ?_; (obtain ⟨hc1, hf1⟩ := bcellN k1; go_simp; refine ⟨rfl, ?_⟩; rw [HW2.out]; exact below_set2 (below_set2 k1 _ _ zB) _ _ zB))
      (try simp only [Act.put, List.setIfInBounds_toArray, List.set_cons_zero, List.set_cons_succ])
      first | refine wpZ_skip 7 rfl (by kernel_rfl) (by kernel_rfl) (by kernel_rfl) (by rfl) (by decide) ?_ | (refine wpZ_text 7 (v := ?_) rfl (by kernel_rfl) (by kernel_rfl) (by kernel_rfl) (by rfl) (by decide) (fun X hX W k1 => ?_) ?_; rotate_left; (obtain ⟨hX0, x0, x1, x2, x3⟩ := FX.out X hX; obtain ⟨hc1, hf1⟩ := bcellN k1; go_simp; refine comes_v ?_; exact k1))
      (try simp only [Act.put, List.setIfInBounds_toArray, List.set_cons_zero, List.set_cons_succ])
      refine wpZ_done (by kernel_rfl) (by kernel_rfl) ?_ _
      intro W k1; obtain ⟨hc1, hf1⟩ := bcellN k1
      have B1 : Below w.heap.size w W := BW2.trans (k1.mono (by omega))
      go_wp2_with fail
      refine bodyPost_ret (v := .tuple #[.agg #[.int .i64 (m1.tdiv n), .int .i64 (p2.tdiv n)], .bool false]) (by simp [results, Try.results129, go_sem, hc1, zB, s0, s1]) rfl ⟨by simp [c2], ?_⟩
      repeat (first | with_reducible assumption | with_reducible exact Below.refl _ _ | with_reducible apply Below.drew | ((with_reducible refine Below.setCell ?_ ?_ _); rotate_left; (first | exact Nat.le_refl _ | omega | (simp <;> omega))) | ((with_reducible refine Below.alloc ?_ ?_ _); rotate_left; (first | omega | (simp <;> omega))))
  · by_cases c2 : m2 = p2
    · subst c2
      go_enter Try.func129, Try.ntmps129
      go_wp2_with fail
      obtain ⟨W0, hW0⟩ : ∃ W0, W0 = ((w.alloc (.cells #[.int .i64 p1, .int .i64 m2] 56)).alloc (.cells #[.int .i64 0, .int .i64 0] 56)) := ⟨_, rfl⟩
      rw [← hW0]
      have yW00_0 : W0.cell? ⟨w.heap.size, 0, none⟩ = some (.int .i64 p1) := by rw [hW0]; go_simp
      have yW00_1 : W0.cell? ⟨w.heap.size, 1, none⟩ = some (.int .i64 m2) := by rw [hW0]; go_simp
      have fW00 : ∀ o, W0.frozen? ⟨w.heap.size, o, none⟩ = false := by intro o; rw [hW0]; (repeat rw [frozen?_alloc_cells]); simp [World.frozen?]
      have zW00 : w.heap.size < W0.heap.size := by rw [hW0]; simp <;> omega
      have yW01_0 : W0.cell? ⟨w.heap.size + 1, 0, none⟩ = some (.int .i64 0) := by rw [hW0]; go_simp
      have yW01_1 : W0.cell? ⟨w.heap.size + 1, 1, none⟩ = some (.int .i64 0) := by rw [hW0]; go_simp
      have fW01 : ∀ o, W0.frozen? ⟨w.heap.size + 1, o, none⟩ = false := by intro o; rw [hW0]; (repeat rw [frozen?_alloc_cells]); simp [World.frozen?]
      have zW01 : w.heap.size + 1 < W0.heap.size := by rw [hW0]; simp <;> omega
      have BW0 : Below w.heap.size w W0 := by rw [hW0]; exact (Below.alloc (Below.alloc (Below.refl _ _) (by simp <;> omega) _) (by simp <;> omega) _)
      have eW0 : Hid (W0.heap.size = w.heap.size + 2) := Lib.hid (by rw [hW0]; simp)
      clear hW0
      go_region
      obtain ⟨W1, hW1⟩ : ∃ W1, W1 = (W0.alloc (.cells #[.int .i64 (p1.tdiv n), .int .i64 (m2.tdiv n)] 56)) := ⟨_, rfl⟩
      rw [← hW1]
      have yW10_0 : W1.cell? ⟨W0.heap.size, 0, none⟩ = some (.int .i64 (p1.tdiv n)) := by rw [hW1]; go_simp
      have yW10_1 : W1.cell? ⟨W0.heap.size, 1, none⟩ = some (.int .i64 (m2.tdiv n)) := by rw [hW1]; go_simp
      have fW10 : ∀ o, W1.frozen? ⟨W0.heap.size, o, none⟩ = false := by intro o; rw [hW1]; (repeat rw [frozen?_alloc_cells]); simp [World.frozen?]
      have zW10 : W0.heap.size < W1.heap.size := by rw [hW1]; simp <;> omega
      have BW1 : Below W0.heap.size W0 W1 := by rw [hW1]; exact (Below.alloc (Below.refl _ _) (by simp <;> omega) _)
      have eW1 : Hid (W1.heap.size = W0.heap.size + 1) := Lib.hid (by rw [hW1]; simp)
      clear hW1
      obtain ⟨hcA, hfA⟩ := bcell BW1
      have zA : w.heap.size < W1.heap.size := by omega
      have zB : w.heap.size + 1 < W1.heap.size := by omega
      have r0 := (hcA _ _ zW00).trans yW00_0
      have r1 := (hcA _ _ zW00).trans yW00_1
      have r2 := (hcA _ _ zW01).trans yW01_0
      have r3 := (hcA _ _ zW01).trans yW01_1
      have r4 : ∀ o, W1.frozen? ⟨w.heap.size + 1, o, none⟩ = false := fun o => (hfA _ _ zW01).trans (fW01 o)
      clear hcA hfA
      obtain ⟨W2, hW2⟩ : ∃ W2, W2 = (W1.setCell ⟨w.heap.size + 1, 0, none⟩ (.int .i64 (p1.tdiv n))).setCell ⟨w.heap.size + 1, 1, none⟩ (.int .i64 (m2.tdiv n)) := ⟨_, rfl⟩
      have ne : w.heap.size ≠ w.heap.size + 1 := by omega
      have ne2 : W0.heap.size ≠ w.heap.size + 1 := by omega
      have FX : Hid (∀ X, (X = W1 ∨ X = W2) → W1.heap.size ≤ X.heap.size ∧ X.cell? ⟨w.heap.size, 0, none⟩ = some (.int .i64 p1) ∧ X.cell? ⟨w.heap.size, 1, none⟩ = some (.int .i64 m2) ∧ X.cell? ⟨W0.heap.size, 0, none⟩ = some (.int .i64 (p1.tdiv n)) ∧ X.cell? ⟨W0.heap.size, 1, none⟩ = some (.int .i64 (m2.tdiv n))) := Lib.hid (fun X hX => by
        rcases hX with rfl | rfl
        · exact ⟨Nat.le_refl _, r0, r1, yW10_0, yW10_1⟩
        · rw [hW2]
          have o : ∀ (bb oo : Nat), bb ≠ w.heap.size + 1 → ((W1.setCell ⟨w.heap.size + 1, 0, none⟩ (.int .i64 (p1.tdiv n))).setCell ⟨w.heap.size + 1, 1, none⟩ (.int .i64 (m2.tdiv n))).cell? ⟨bb, oo, none⟩ = W1.cell? ⟨bb, oo, none⟩ := fun bb oo hh => by
            rw [World.cell?_setCell_other _ _ _ _ (fun e => hh (by injection e with e1 e2; exact e1.symm)), World.cell?_setCell_other _ _ _ _ (fun e => hh (by injection e with e1 e2; exact e1.symm))]
          exact ⟨by simp [World.setCell], (o _ _ ne).trans r0, (o _ _ ne).trans r1, (o _ _ ne2).trans yW10_0, (o _ _ ne2).trans yW10_1⟩)
      have HW2 := Lib.hid hW2
      have BW2 : Below w.heap.size w W2 := by
        rw [hW2]
        exact Below.setCell (Below.setCell (BW0.trans (BW1.mono BW0.size)) (by simp) _) (by simp) _
      have s0 : W2.cell? ⟨w.heap.size + 1, 0, none⟩ = some (.int .i64 (p1.tdiv n)) := by
        rw [hW2, World.cell?_setCell_other _ _ _ _ (fun e => by injection e with e1 e2; cases e2), World.cell?_setCell_same _ _ _ r2]
      have s1 : W2.cell? ⟨w.heap.size + 1, 1, none⟩ = some (.int .i64 (m2.tdiv n)) := by
        rw [hW2]
        exact World.cell?_setCell_same _ _ _ (show (W1.setCell ⟨w.heap.size + 1, 0, none⟩ (.int .i64 (p1.tdiv n))).cell? ⟨w.heap.size + 1, 1, none⟩ = some (.int .i64 0) by rw [World.cell?_setCell_other _ _ _ _ (fun e => by injection e with e1 e2; cases e2)]; exact r3)
      clear hW2
      go_wp2_with fail
      refine wp_region_Z 6 W1.heap.size W1 W2 (by kernel_rfl) (by repeat (first | exact Below.refl _ _ | apply Below.drew)) ?_
      first | refine wpZ_skip 0 rfl (by kernel_rfl) (by kernel_rfl) (by kernel_rfl) (by rfl) (by decide) ?_ | (refine wpZ_text 0 (v := ?_) rfl (by kernel_rfl) (by kernel_rfl) (by kernel_rfl) (by rfl) (by decide) (fun X hX W k1 => ?_) ?_; rotate_left; (obtain ⟨hX0, x0, x1, x2, x3⟩ := FX.out X hX; obtain ⟨hc1, hf1⟩ := bcellN k1; go_simp; refine comes_v ?_; exact k1))
      (try simp only [Act.put, List.setIfInBounds_toArray, List.set_cons_zero, List.set_cons_succ])
      first | refine wpZ_skip 1 rfl (by kernel_rfl) (by kernel_rfl) (by kernel_rfl) (by rfl) (by decide) ?_ | (refine wpZ_text 1 (v := ?_) rfl (by kernel_rfl) (by kernel_rfl) (by kernel_rfl) (by rfl) (by decide) (fun X hX W k1 => ?_) ?_; rotate_left; (obtain ⟨hX0, x0, x1, x2, x3⟩ := FX.out X hX; obtain ⟨hc1, hf1⟩ := bcellN k1; go_simp; refine comes_v ?_; exact k1))
      (try simp only [Act.put, List.setIfInBounds_toArray, List.set_cons_zero, List.set_cons_succ])
      first | refine wpZ_skip 2 rfl (by kernel_rfl) (by kernel_rfl) (by kernel_rfl) (by rfl) (by decide) ?_ | (refine wpZ_text 2 (v := ?_) rfl (by kernel_rfl) (by kernel_rfl) (by kernel_rfl) (by rfl) (by decide) (fun X hX W k1 => ?_) ?_; rotate_left; (obtain ⟨hX0, x0, x1, x2, x3⟩ := FX.out X hX; obtain ⟨hc1, hf1⟩ := bcellN k1; go_simp; refine comes_v ?_; exact k1))
      (try simp only [Act.put, List.setIfInBounds_toArray, List.set_cons_zero, List.set_cons_succ])
      first | refine wpZ_skip 3 rfl (by kernel_rfl) (by kernel_rfl) (by kernel_rfl) (by rfl) (by decide) ?_ | (refine wpZ_text 3 (v := .agg #[.int .i64 m1, .int .i64 m2]) rfl (by kernel_rfl) (by kernel_rfl) (by kernel_rfl) (by rfl) (by decide) (fun X hX W k1 => ?_) ?_; (obtain ⟨hX0, x0, x1, x2, x3⟩ := FX.out X hX; obtain ⟨hc1, hf1⟩ := bcellN k1; go_simp; exact comes_c ( K.out _) (fun wn hbn => k1.trans (hbn.mono (Nat.le_trans hX0 k1.size)))))
      (try simp only [Act.put, List.setIfInBounds_toArray, List.set_cons_zero, List.set_cons_succ])
      first | refine wpZ_skip 4 rfl (by kernel_rfl) (by kernel_rfl) (by kernel_rfl) (by rfl) (by decide) ?_ | (refine wpZ_text 4 (v := ?_) rfl (by kernel_rfl) (by kernel_rfl) (by kernel_rfl) (by rfl) (by decide) (fun X hX W k1 => ?_) ?_; rotate_left; (obtain ⟨hX0, x0, x1, x2, x3⟩ := FX.out X hX; obtain ⟨hc1, hf1⟩ := bcellN k1; go_simp; refine comes_v ?_; exact k1))
      (try simp only [Act.put, List.setIfInBounds_toArray, List.set_cons_zero, List.set_cons_succ])
      first | refine wpZ_skip 5 rfl (by kernel_rfl) (by kernel_rfl) (by kernel_rfl) (by rfl) (by decide) ?_ | (refine wpZ_text 5 (v := ?_) rfl (by kernel_rfl) (by kernel_rfl) (by kernel_rfl) (by rfl) (by decide) (fun X hX W k1 => ?_) ?_; rotate_left; (obtain ⟨hX0, x0, x1, x2, x3⟩ := FX.out X hX; obtain ⟨hc1, hf1⟩ := bcellN k1; go_simp; refine comes_v ?_; exact k1))
      (try simp only [Act.put, List.setIfInBounds_toArray, List.set_cons_zero, List.set_cons_succ])
      (refine wpZ_store (v := undef) rfl (by kernel_rfl) (by kernel_rfl) (by kernel_rfl) (by rfl) (fun W k1 => ?_) ?_; (obtain ⟨hc1, hf1⟩ := bcellN k1; go_simp; refine ⟨rfl, ?_⟩; rw [HW2.out]; exact below_set2 (below_set2 k1 _ _ zB) _ _ zB))
      (try simp only [Act.put, List.setIfInBounds_toArray, List.set_cons_zero, List.set_cons_succ])
      first | refine wpZ_skip 7 rfl (by kernel_rfl) (by kernel_rfl) (by kernel_rfl) (by rfl) (by decide) ?_ | (refine wpZ_text 7 (v := ?_) rfl (by kernel_rfl) (by kernel_rfl) (by kernel_rfl) (by rfl) (by decide) (fun X hX W k1 => ?_) ?_; rotate_left; (obtain ⟨hX0, x0, x1, x2, x3⟩ := FX.out X hX; obtain ⟨hc1, hf1⟩ := bcellN k1; go_simp; refine comes_v ?_; exact k1))
      (try simp only [Act.put, List.setIfInBounds_toArray, List.set_cons_zero, List.set_cons_succ])
      refine wpZ_done (by kernel_rfl) (by kernel_rfl) ?_ _
      intro W k1; obtain ⟨hc1, hf1⟩ := bcellN k1
      have B1 : Below w.heap.size w W := BW2.trans (k1.mono (by omega))
      go_wp2_with fail
      refine bodyPost_ret (v := .tuple #[.agg #[.int .i64 (p1.tdiv n), .int .i64 (m2.tdiv n)], .bool false]) (by simp [results, Try.results129, go_sem, hc1, zB, s0, s1]) rfl ⟨by simp [c1], ?_⟩
      repeat (first | with_reducible assumption | with_reducible exact Below.refl _ _ | with_reducible apply Below.drew | ((with_reducible refine Below.setCell ?_ ?_ _); rotate_left; (first | exact Nat.le_refl _ | omega | (simp <;> omega))) | ((with_reducible refine Below.alloc ?_ ?_ _); rotate_left; (first | omega | (simp <;> omega))))
    · skip
      go_enter Try.func129, Try.ntmps129
      go_wp2_with fail
      obtain ⟨W0, hW0⟩ : ∃ W0, W0 = ((w.alloc (.cells #[.int .i64 p1, .int .i64 p2] 56)).alloc (.cells #[.int .i64 0, .int .i64 0] 56)) := ⟨_, rfl⟩
      rw [← hW0]
      have yW00_0 : W0.cell? ⟨w.heap.size, 0, none⟩ = some (.int .i64 p1) := by rw [hW0]; go_simp
      have yW00_1 : W0.cell? ⟨w.heap.size, 1, none⟩ = some (.int .i64 p2) := by rw [hW0]; go_simp
      have fW00 : ∀ o, W0.frozen? ⟨w.heap.size, o, none⟩ = false := by intro o; rw [hW0]; (repeat rw [frozen?_alloc_cells]); simp [World.frozen?]
      have zW00 : w.heap.size < W0.heap.size := by rw [hW0]; simp <;> omega
      have yW01_0 : W0.cell? ⟨w.heap.size + 1, 0, none⟩ = some (.int .i64 0) := by rw [hW0]; go_simp
      have yW01_1 : W0.cell? ⟨w.heap.size + 1, 1, none⟩ = some (.int .i64 0) := by rw [hW0]; go_simp
      have fW01 : ∀ o, W0.frozen? ⟨w.heap.size + 1, o, none⟩ = false := by intro o; rw [hW0]; (repeat rw [frozen?_alloc_cells]); simp [World.frozen?]
      have zW01 : w.heap.size + 1 < W0.heap.size := by rw [hW0]; simp <;> omega
      have BW0 : Below w.heap.size w W0 := by rw [hW0]; exact (Below.alloc (Below.alloc (Below.refl _ _) (by simp <;> omega) _) (by simp <;> omega) _)
      have eW0 : Hid (W0.heap.size = w.heap.size + 2) := Lib.hid (by rw [hW0]; simp)
      clear hW0
      go_region
      obtain ⟨W1, hW1⟩ : ∃ W1, W1 = (W0.alloc (.cells #[.int .i64 (p1.tdiv n), .int .i64 (p2.tdiv n)] 56)) := ⟨_, rfl⟩
      rw [← hW1]
      have yW10_0 : W1.cell? ⟨W0.heap.size, 0, none⟩ = some (.int .i64 (p1.tdiv n)) := by rw [hW1]; go_simp
      have yW10_1 : W1.cell? ⟨W0.heap.size, 1, none⟩ = some (.int .i64 (p2.tdiv n)) := by rw [hW1]; go_simp
      have fW10 : ∀ o, W1.frozen? ⟨W0.heap.size, o, none⟩ = false := by intro o; rw [hW1]; (repeat rw [frozen?_alloc_cells]); simp [World.frozen?]
      have zW10 : W0.heap.size < W1.heap.size := by rw [hW1]; simp <;> omega
      have BW1 : Below W0.heap.size W0 W1 := by rw [hW1]; exact (Below.alloc (Below.refl _ _) (by simp <;> omega) _)
      have eW1 : Hid (W1.heap.size = W0.heap.size + 1) := Lib.hid (by rw [hW1]; simp)
      clear hW1
      obtain ⟨hcA, hfA⟩ := bcell BW1
      have zA : w.heap.size < W1.heap.size := by omega
      have zB : w.heap.size + 1 < W1.heap.size := by omega
      have r0 := (hcA _ _ zW00).trans yW00_0
      have r1 := (hcA _ _ zW00).trans yW00_1
      have r2 := (hcA _ _ zW01).trans yW01_0
      have r3 := (hcA _ _ zW01).trans yW01_1
      have r4 : ∀ o, W1.frozen? ⟨w.heap.size + 1, o, none⟩ = false := fun o => (hfA _ _ zW01).trans (fW01 o)
      clear hcA hfA
      obtain ⟨W2, hW2⟩ : ∃ W2, W2 = (W1.setCell ⟨w.heap.size + 1, 0, none⟩ (.int .i64 (p1.tdiv n))).setCell ⟨w.heap.size + 1, 1, none⟩ (.int .i64 (p2.tdiv n)) := ⟨_, rfl⟩
      have ne : w.heap.size ≠ w.heap.size + 1 := by omega
      have ne2 : W0.heap.size ≠ w.heap.size + 1 := by omega
      have FX : Hid (∀ X, (X = W1 ∨ X = W2) → W1.heap.size ≤ X.heap.size ∧ X.cell? ⟨w.heap.size, 0, none⟩ = some (.int .i64 p1) ∧ X.cell? ⟨w.heap.size, 1, none⟩ = some (.int .i64 p2) ∧ X.cell? ⟨W0.heap.size, 0, none⟩ = some (.int .i64 (p1.tdiv n)) ∧ X.cell? ⟨W0.heap.size, 1, none⟩ = some (.int .i64 (p2.tdiv n))) := Lib.hid (fun X hX => by
        rcases hX with rfl | rfl
        · exact ⟨Nat.le_refl _, r0, r1, yW10_0, yW10_1⟩
        · rw [hW2]
          have o : ∀ (bb oo : Nat), bb ≠ w.heap.size + 1 → ((W1.setCell ⟨w.heap.size + 1, 0, none⟩ (.int .i64 (p1.tdiv n))).setCell ⟨w.heap.size + 1, 1, none⟩ (.int .i64 (p2.tdiv n))).cell? ⟨bb, oo, none⟩ = W1.cell? ⟨bb, oo, none⟩ := fun bb oo hh => by
            rw [World.cell?_setCell_other _ _ _ _ (fun e => hh (by injection e with e1 e2; exact e1.symm)), World.cell?_setCell_other _ _ _ _ (fun e => hh (by injection e with e1 e2; exact e1.symm))]
          exact ⟨by simp [World.setCell], (o _ _ ne).trans r0, (o _ _ ne).trans r1, (o _ _ ne2).trans yW10_0, (o _ _ ne2).trans yW10_1⟩)
      have HW2 := Lib.hid hW2
      have BW2 : Below w.heap.size w W2 := by
        rw [hW2]
        exact Below.setCell (Below.setCell (BW0.trans (BW1.mono BW0.size)) (by simp) _) (by simp) _
      have s0 : W2.cell? ⟨w.heap.size + 1, 0, none⟩ = some (.int .i64 (p1.tdiv n)) := by
        rw [hW2, World.cell?_setCell_other _ _ _ _ (fun e => by injection e with e1 e2; cases e2), World.cell?_setCell_same _ _ _ r2]
      have s1 : W2.cell? ⟨w.heap.size + 1, 1, none⟩ = some (.int .i64 (p2.tdiv n)) := by
        rw [hW2]
        exact World.cell?_setCell_same _ _ _ (show (W1.setCell ⟨w.heap.size + 1, 0, none⟩ (.int .i64 (p1.tdiv n))).cell? ⟨w.heap.size + 1, 1, none⟩ = some (.int .i64 0) by rw [World.cell?_setCell_other _ _ _ _ (fun e => by injection e with e1 e2; cases e2)]; exact r3)
      clear hW2
      go_wp2_with fail
      refine wp_region_Z 6 W1.heap.size W1 W2 (by kernel_rfl) (by repeat (first | exact Below.refl _ _ | apply Below.drew)) ?_
      first | refine wpZ_skip 0 rfl (by kernel_rfl) (by kernel_rfl) (by kernel_rfl) (by rfl) (by decide) ?_ | (refine wpZ_text 0 (v := ?_) rfl (by kernel_rfl) (by kernel_rfl) (by kernel_rfl) (by rfl) (by decide) (fun X hX W k1 => ?_) ?_; rotate_left; (obtain ⟨hX0, x0, x1, x2, x3⟩ := FX.out X hX; obtain ⟨hc1, hf1⟩ := bcellN k1; go_simp; refine comes_v ?_; exact k1))
      (try simp only [Act.put, List.setIfInBounds_toArray, List.set_cons_zero, List.set_cons_succ])
      first | refine wpZ_skip 1 rfl (by kernel_rfl) (by kernel_rfl) (by kernel_rfl) (by rfl) (by decide) ?_ | (refine wpZ_text 1 (v := ?_) rfl (by kernel_rfl) (by kernel_rfl) (by kernel_rfl) (by rfl) (by decide) (fun X hX W k1 => ?_) ?_; rotate_left; (obtain ⟨hX0, x0, x1, x2, x3⟩ := FX.out X hX; obtain ⟨hc1, hf1⟩ := bcellN k1; go_simp; refine comes_v ?_; exact k1))
      (try simp only [Act.put, List.setIfInBounds_toArray, List.set_cons_zero, List.set_cons_succ])
      first | refine wpZ_skip 2 rfl (by kernel_rfl) (by kernel_rfl) (by kernel_rfl) (by rfl) (by decide) ?_ | (refine wpZ_text 2 (v := ?_) rfl (by kernel_rfl) (by kernel_rfl) (by kernel_rfl) (by rfl) (by decide) (fun X hX W k1 => ?_) ?_; rotate_left; (obtain ⟨hX0, x0, x1, x2, x3⟩ := FX.out X hX; obtain ⟨hc1, hf1⟩ := bcellN k1; go_simp; refine comes_v ?_; exact k1))
      (try simp only [Act.put, List.setIfInBounds_toArray, List.set_cons_zero, List.set_cons_succ])
      first | refine wpZ_skip 3 rfl (by kernel_rfl) (by kernel_rfl) (by kernel_rfl) (by rfl) (by decide) ?_ | (refine wpZ_text 3 (v := .agg #[.int .i64 m1, .int .i64 m2]) rfl (by kernel_rfl) (by kernel_rfl) (by kernel_rfl) (by rfl) (by decide) (fun X hX W k1 => ?_) ?_; (obtain ⟨hX0, x0, x1, x2, x3⟩ := FX.out X hX; obtain ⟨hc1, hf1⟩ := bcellN k1; go_simp; exact comes_c ( K.out _) (fun wn hbn => k1.trans (hbn.mono (Nat.le_trans hX0 k1.size)))))
      (try simp only [Act.put, List.setIfInBounds_toArray, List.set_cons_zero, List.set_cons_succ])
      first | refine wpZ_skip 4 rfl (by kernel_rfl) (by kernel_rfl) (by kernel_rfl) (by rfl) (by decide) ?_ | (refine wpZ_text 4 (v := ?_) rfl (by kernel_rfl) (by kernel_rfl) (by kernel_rfl) (by rfl) (by decide) (fun X hX W k1 => ?_) ?_; rotate_left; (obtain ⟨hX0, x0, x1, x2, x3⟩ := FX.out X hX; obtain ⟨hc1, hf1⟩ := bcellN k1; go_simp; refine comes_v ?_; exact k1))
      (try simp only [Act.put, List.setIfInBounds_toArray, List.set_cons_zero, List.set_cons_succ])
      first | refine wpZ_skip 5 rfl (by kernel_rfl) (by kernel_rfl) (by kernel_rfl) (by rfl) (by decide) ?_ | (refine wpZ_text 5 (v := ?_) rfl (by kernel_rfl) (by kernel_rfl) (by kernel_rfl) (by rfl) (by decide) (fun X hX W k1 => ?_) ?_; rotate_left; (obtain ⟨hX0, x0, x1, x2, x3⟩ := FX.out X hX; obtain ⟨hc1, hf1⟩ := bcellN k1; go_simp; refine comes_v ?_; exact k1))
      (try simp only [Act.put, List.setIfInBounds_toArray, List.set_cons_zero, List.set_cons_succ])
      (refine wpZ_store (v := undef) rfl (by kernel_rfl) (by kernel_rfl) (by kernel_rfl) (by rfl) (fun W k1 => ?_) ?_; (obtain ⟨hc1, hf1⟩ := bcellN k1; go_simp; refine ⟨rfl, ?_⟩; rw [HW2.out]; exact below_set2 (below_set2 k1 _ _ zB) _ _ zB))
      (try simp only [Act.put, List.setIfInBounds_toArray, List.set_cons_zero, List.set_cons_succ])
      first | refine wpZ_skip 7 rfl (by kernel_rfl) (by kernel_rfl) (by kernel_rfl) (by rfl) (by decide) ?_ | (refine wpZ_text 7 (v := ?_) rfl (by kernel_rfl) (by kernel_rfl) (by kernel_rfl) (by rfl) (by decide) (fun X hX W k1 => ?_) ?_; rotate_left; (obtain ⟨hX0, x0, x1, x2, x3⟩ := FX.out X hX; obtain ⟨hc1, hf1⟩ := bcellN k1; go_simp; refine comes_v ?_; exact k1))
      (try simp only [Act.put, List.setIfInBounds_toArray, List.set_cons_zero, List.set_cons_succ])
      refine wpZ_done (by kernel_rfl) (by kernel_rfl) ?_ _
      intro W k1; obtain ⟨hc1, hf1⟩ := bcellN k1
      have B1 : Below w.heap.size w W := BW2.trans (k1.mono (by omega))
      go_wp2_with fail
      refine bodyPost_ret (v := .tuple #[.agg #[.int .i64 (p1.tdiv n), .int .i64 (p2.tdiv n)], .bool false]) (by simp [results, Try.results129, go_sem, hc1, zB, s0, s1]) rfl ⟨by simp [c1], ?_⟩
      repeat (first | with_reducible assumption | with_reducible exact Below.refl _ _ | with_reducible apply Below.drew | ((with_reducible refine Below.setCell ?_ ?_ _); rotate_left; (first | exact Nat.le_refl _ | omega | (simp <;> omega))) | ((with_reducible refine Below.alloc ?_ ?_ _); rotate_left; (first | omega | (simp <;> omega))))
end Go.Proofs.Ytheddoinnakneaa
/- A statement that leaves the order of its first operations open, one of which makes a new block, and one of which, which looks at no memory, may also come behind the store into it: one walk, in the order of the text. -/
namespace Go.Proofs.Ytheddoinnakneaa
open Go.ChangeShapes Go.WideShapes Go.ChangeAt Go.RowKit Go.Joins
set_option linter.unusedVariables false
set_option linter.unusedSimpArgs false
set_option maxRecDepth 4000
section
variable {P : Program} {ops : Array Oper} {W0 : World}
theorem binds_any_text {e : Edge} (h : Region.binds .any e = true) : Region.binds .text e = true := by
  unfold Region.binds at *
  split at h <;> simp_all
theorem ready_text_any {j : Nat} {listed : Array Bool} (h : j ∈ Region.ready .text ops listed) : j ∈ Region.ready .any ops listed := by
  rw [mem_ready] at *
  obtain ⟨h0, o, ho, hall⟩ := h
  exact ⟨h0, o, ho, fun e he hb => hall e he (binds_any_text hb)⟩
/-- the edges that the text alone draws: only from operation n to operation m -/
structure Late (ops : Array Oper) (n m : Nat) (om on : Oper) : Prop where
  hm : ops[m]? = some om
  hn : ops[n]? = some on
  mn : m < n
  other : ∀ j o, ops[j]? = some o → j ≠ n → ∀ e ∈ o.after, Region.binds .text e = true → Region.binds .any e = true
  self : ∀ e ∈ on.after, Region.binds .text e = true → Region.binds .any e = true ∨ e.on = m
  deps : ∀ e ∈ om.after, Region.binds .text e = true → ∃ e' ∈ on.after, Region.binds .any e' = true ∧ e'.on = e.on
  free : ∀ j o, ops[j]? = some o → n ≤ j → (∀ e ∈ o.after, Region.binds .any e = true → e.on ≠ m) → om.apart ops o = true
theorem late_other {n m : Nat} {om on : Oper} (h : Late ops n m om on) {j : Nat} {listed : Array Bool} (hj : j ∈ Region.ready .any ops listed) (hne : j ≠ n) : j ∈ Region.ready .text ops listed := by
  rw [mem_ready] at *
  obtain ⟨h0, o, ho, hall⟩ := hj
  exact ⟨h0, o, ho, fun e he hb => hall e he (h.other j o ho hne e he hb)⟩
theorem late_m {n m : Nat} {om on : Oper} (h : Late ops n m om on) {listed : Array Bool} (hsz : listed.size = ops.size) (hj : n ∈ Region.ready .any ops listed) (hne : n ∉ Region.ready .text ops listed) :
    m ∈ Region.ready .text ops listed ∧ n ∈ Region.ready .text ops (listed.setIfInBounds m true) := by
  have hj0 := hj
  rw [mem_ready] at hj
  obtain ⟨h0, o, ho, hall⟩ := hj
  obtain rfl : o = on := Option.some.inj (ho.symm.trans h.hn)
  have hms : m < listed.size := by rw [hsz]; exact (Array.getElem?_eq_some_iff.1 h.hm).1
  have hun : listed.getD m false = false := by
    cases hl : listed.getD m false with
    | false => rfl
    | true =>
      refine absurd (mem_ready.2 ⟨h0, o, ho, fun e he hb => ?_⟩) hne
      rcases h.self e he hb with h1 | h1
      · exact hall e he h1
      · rw [h1]; exact hl
  refine ⟨mem_ready.2 ⟨getD_in hms hun, om, h.hm, fun e he hb => ?_⟩, mem_ready.2 ⟨?_, o, ho, fun e he hb => ?_⟩⟩
  · obtain ⟨e', h1, h2, h3⟩ := h.deps e he hb
    rw [← h3]; exact hall e' h1 h2
  · rw [getD_set_ne true (Nat.ne_of_lt h.mn)]; exact h0
  · rcases h.self e he hb with h1 | h1
    · exact getD_set_true (hall e he h1)
    · rw [h1]; simp [hms]
theorem wpAny_late {n m g : Nat} {om on : Oper} {S : World → Prop} {L : Array Bool → Act → Prop} {Q : Exit → Act → World → Prop} (hL : Late ops n m om on) (hsel : ∀ (j : Nat) (o : Oper) cs b, ops[j]? = some o → o.op ≠ .select cs b)
    (hs : Region.sinkB .text ops n = true) (hc : Region.chainB .text ops n = true) (hn : n < ops.size)
    (hpure : ∀ (a : Act) v w w', S w → Comes P S v ((execOp a.eval om).run P w) → (execOp a.eval om).run P w' = .ok (.value v) w')
    (hQ : ∀ c (a : Act) v w, Q (.panic c) (a.put om.dst v) w → Q (.panic c) a w)
    (hT : ∀ listed a, L listed a → ∀ w, S w → wpAny P .any ops Q g listed a w) :
    ∀ (f : Nat) (listed : Array Bool) (a : Act), HeadInv .text ops n listed → wpAnyS P .text ops S n L f listed a → ∀ w, S w → wpAny P .any ops Q (f + g) listed a w
  | 0, listed, a, _, h, w, hS => by rw [Nat.zero_add]; exact hT _ _ h w hS
  | f + 1, listed, a, inv, h, w, hS => by
    by_cases hnr : n ∈ Region.ready .any ops listed ∧ n ∉ Region.ready .text ops listed
    · obtain ⟨hm, hn2⟩ := late_m hL inv.size hnr.1 hnr.2
      obtain ⟨_, om', v, hom, hst, H⟩ := h.2 m hm
      obtain rfl : om' = om := Option.some.inj (hom.symm.trans hL.hm)
      have inv2 := inv.set hm hL.mn
      cases f with
      | succ f => exact absurd (H.2 n hn2).1 (Nat.lt_irrefl n)
      | zero =>
        have hy : Yields P ops om' v a := by
          rcases hst with ⟨h1, h2⟩ | h2
          · exact Or.inl ⟨h1, fun w' => hpure a v w w' hS (h2 w hS)⟩
          · exact Or.inr h2
        have := wpAny_first (Q := Q) (md := .any) hom hsel (fun c a w => hQ c a v w) g listed a w (fun j oj hj hjm hun hno => by
          rcases Nat.lt_or_ge j n with hjn | hjn
          · exact absurd hn2 (tail_waits hs hc hn inv2 _ j rfl hjn (by rw [getD_set_ne true (Ne.symm hjm)]; exact hun) n (Nat.le_refl _))
          · exact hL.free j oj hj hjn hno) (ready_text_any hm) hy (hT _ _ H w hS)
        rw [show 0 + 1 + g = g + 1 by omega]
        exact this
    · have key : ∀ j, j ∈ Region.ready .any ops listed → j ∈ Region.ready .text ops listed := fun j hj => by
        by_cases hjn : j = n
        · subst hjn
          apply Classical.byContradiction
          intro h1
          exact hnr ⟨hj, h1⟩
        · exact late_other hL hj hjn
      rw [show f + 1 + g = (f + g) + 1 by omega]
      refine ⟨fun h0 => ?_, fun j hj => ?_⟩
      · exfalso
        apply h.1
        apply List.eq_nil_iff_forall_not_mem.2
        intro j hj
        have := ready_text_any hj
        rw [h0] at this
        cases this
      · obtain ⟨hjn, oj, v, ho, hy, hk⟩ := h.2 j (key j hj)
        exact steady_op ho hy hS fun w' hS' => wpAny_late hL hsel hs hc hn hpure hQ hT f _ _ (inv.set (key j hj) hjn) hk w' hS'
theorem wpAny_alloc2 {n z m g : Nat} {oz om on : Oper} {obj : Obj} {rest : List Oper} {T : Act → Prop} {Q : Exit → Act → World → Prop} (hL : Late ops n m om on) (hsel : ∀ (j : Nat) (o : Oper) cs b, ops[j]? = some o → o.op ≠ .select cs b)
    (hs : Region.sinkB .text ops n = true) (hc : Region.chainB .text ops n = true) (hn : n < ops.size) (hz : z < n) (hnz : Region.waitsFor .any ops n z = true) (hoz : ops[z]? = some oz)
    (hap : ∀ j oj, j < n → j ≠ z → ops[j]? = some oj → oz.apart ops oj = true) (hw : ∀ a : Act, Region.wanted oz (yielded ops a.tmps) = true)
    (hal : ∀ (a : Act) W, (execOp a.eval oz).run P W = .ok (.value (.pointer (some ⟨W.heap.size, 0, none⟩))) (W.alloc obj))
    (hpure : ∀ (S : World → Prop) (a : Act) v w w', Comes P S v ((execOp a.eval om).run P w) → (execOp a.eval om).run P w' = .ok (.value v) w')
    (hQ : ∀ c (a : Act) v w, Q (.panic c) (a.put om.dst v) w → Q (.panic c) a w)
    (hrest : ∀ j, rest[j]? = ops[n + j]?) (hg : rest.length = g)
    (hT : ∀ a', T a' → ∀ W1 W, Below W0.heap.size W0 W1 → Below (W1.alloc obj).heap.size (W1.alloc obj) W → wpList P ops Q rest (a'.put oz.dst (.pointer (some ⟨W1.heap.size, 0, none⟩))) W) :
    ∀ (f : Nat) (listed : Array Bool) (a : Act), HeadInv .text ops n listed → z ∈ Region.ready .text ops listed →
      wpAnyR P .text ops W0 n (fun l' a' => (Region.seqB .text ops g n l' = true ∧ Region.seqB .any ops g n l' = true) ∧ T a') f (listed.setIfInBounds z true) a →
      ∀ W, Below W0.heap.size W0 W → wpAny P .any ops Q (f + 1 + g) listed a W := by
  have doz : ∀ (f : Nat) (listed : Array Bool) (a : Act), HeadInv .text ops n listed → z ∈ Region.ready .text ops listed →
      wpAnyR P .text ops W0 n (fun l' a' => (Region.seqB .text ops g n l' = true ∧ Region.seqB .any ops g n l' = true) ∧ T a') f (listed.setIfInBounds z true) a →
      ∀ W, Below W0.heap.size W0 W → wpOp P ops Q z (fun a' w' => wpAny P .any ops Q (f + g) (listed.setIfInBounds z true) a' w') a W := by
    intro f listed a inv hr H W hW
    refine op_gives hoz (hw _) (hal _ _) ?_
    have hzl : (listed.setIfInBounds z true).getD z true = true := by
      rcases Nat.lt_or_ge z listed.size with h' | h'
      · simp [h']
      · simp [Array.getElem?_eq_none h']
    have hWA : Below W0.heap.size W0 (W.alloc obj) := Below.alloc hW hW.size obj
    have H2 := wpAnyR_put (vz := .pointer (some ⟨W.heap.size, 0, none⟩)) hsel hap f _ _ hzl H
    have H3 := wpAnyS_of_R (S := fun w => Below (W.alloc obj).heap.size (W.alloc obj) w) (fun w hb => hWA.trans (hb.mono hWA.size)) (fun w w' h1 h2 => h1.trans (h2.mono h1.size)) f _ _ H2
    refine wpAny_late (Q := Q) (g := g) hL hsel hs hc hn (fun a v w w' _ h => hpure _ a v w w' h) hQ (fun l' a' hLL W' hW' => ?_) f _ _ (inv.set hr hz) H3 (W.alloc obj) (Below.refl _ _)
    obtain ⟨b, ⟨hB, hTb⟩, rfl⟩ := hLL
    have := wpAny_of_seq (md := .any) (Q' := Q) rest n l' _ W' hrest (by rw [hg]; exact hB.2) (hT b hTb W W' hW hW')
    rwa [hg] at this
  have nope : ∀ (listed : Array Bool), z ∈ Region.ready .text ops listed → n ∉ Region.ready .any ops listed := fun listed hr hj => by
    obtain ⟨o', ho', e, he, hb, hon⟩ := Region.waitsFor_spec hnz
    obtain ⟨_, o, ho, hall⟩ := mem_ready.1 hj
    obtain rfl : o' = o := Option.some.inj (ho'.symm.trans ho)
    have := hall e he hb
    rw [hon, getD_both (mem_ready.1 hr).1] at this
    cases this
  intro f
  induction f with
  | zero =>
    intro listed a inv hr H W hW
    rw [show 0 + 1 + g = (0 + g) + 1 by omega]
    refine ⟨fun h => (by have := ready_text_any hr; rw [h] at this; cases this), fun j hj => ?_⟩
    by_cases hjz : j = z
    · subst hjz; exact doz 0 listed a inv hr H W hW
    · have hjt := late_other hL hj (fun e => nope listed hr (e ▸ hj))
      have h1 := seqB_ready H.1.1 j (ready_mono hjt hjz)
      exact absurd hjt (tail_waits hs hc hn inv _ z rfl hz (mem_ready.1 hr).1 j h1)
  | succ f ih =>
    intro listed a inv hr H W hW
    rw [show f + 1 + 1 + g = (f + 1 + g) + 1 by omega]
    refine ⟨fun h => (by have := ready_text_any hr; rw [h] at this; cases this), fun j hj => ?_⟩
    by_cases hjz : j = z
    · subst hjz; exact doz (f + 1) listed a inv hr H W hW
    · have hjt := late_other hL hj (fun e => nope listed hr (e ▸ hj))
      obtain ⟨hjn, oj, u, hoj, hsj, Hj⟩ := H.2 j (ready_mono hjt hjz)
      have hst : Steady P ops (fun w => Below W0.heap.size W0 w) oj u a := steady_of_R hsj (fun w h => h) (fun w w' h1 h2 => h1.trans (h2.mono h1.size))
      refine steady_op hoj hst hW fun w' hS' => ?_
      refine ih (listed.setIfInBounds j true) (a.put oj.dst u) (inv.set hjt hjn) (ready_mono hr (Ne.symm hjz)) ?_ w' hS'
      rw [Array.setIfInBounds_comm _ _ hjz]
      exact Hj
def lexT (ops : Array Oper) (g n : Nat) : Nat → Nat → Array Bool → Bool
  | 0, _, listed => Region.seqB .text ops g n listed && Region.seqB .any ops g n listed
  | m + 1, k, listed => (Region.ready .text ops listed).contains k && Region.free .text ops listed k && lexT ops g n m (k + 1) (listed.setIfInBounds k true)
theorem wpAnyR_lexT {n g : Nat} {T : Act → Prop} (hsel : Region.noSelect ops = true) (hs : Region.sinkB .text ops n = true) (hc : Region.chainB .text ops n = true) (hn : n < ops.size) :
    ∀ (l : List Oper) (k : Nat) (listed : Array Bool) (a : Act), (∀ j, j < l.length → l[j]? = ops[k + j]?) → k + l.length < n → HeadInv .text ops n listed →
    lexT ops g n l.length k listed = true → wpHR P ops W0 T l a →
    wpAnyR P .text ops W0 n (fun listed' a' => (Region.seqB .text ops g n listed' = true ∧ Region.seqB .any ops g n listed' = true) ∧ T a') l.length listed a
  | [], k, listed, a, _, _, _, hB, h => by simp only [List.length_nil, lexT, Bool.and_eq_true] at hB; exact ⟨hB, h⟩
  | o :: l, k, listed, a, hl, hk, inv, hB, h => by
    have h0 : ops[k]? = some o := by simpa using (hl 0 (by simp)).symm
    simp only [List.length_cons, lexT, Bool.and_eq_true] at hB
    obtain ⟨⟨hr, hf⟩, hB'⟩ := hB
    have hkn : k < n := by simp only [List.length_cons] at hk; omega
    have hr' : k ∈ Region.ready .text ops listed := by simpa using hr
    obtain ⟨v, hy, hK⟩ := h
    exact wpAnyR_first h0 (Region.noSelect_spec hsel) hs hc hn hkn (fun listed' a' hL => seqB_ready hL.1.1) l.length listed a inv (Region.free_spec h0 hf) hr' hy
      (wpAnyR_lexT hsel hs hc hn l (k + 1) _ _ (fun j hj => by have := hl (j + 1) (by simp; omega); simpa [Nat.add_assoc, Nat.add_comm 1 j] using this) (by simp only [List.length_cons] at hk; omega) (inv.set hr' hkn) hB' hK)
def lateB (ops : Array Oper) (n m : Nat) : Bool :=
  match ops[m]?, ops[n]? with
  | some om, some on =>
    decide (m < n) && ((List.range ops.size).all fun j => decide (j = n) || (match ops[j]? with | some o => o.after.all fun e => !Region.binds .text e || Region.binds .any e | none => true)) &&
      (on.after.all fun e => !Region.binds .text e || Region.binds .any e || decide (e.on = m)) &&
      (om.after.all fun e => !Region.binds .text e || on.after.any fun e' => Region.binds .any e' && decide (e'.on = e.on)) &&
      ((List.range ops.size).all fun j => decide (j < n) || (match ops[j]? with | some o => (o.after.any fun e => Region.binds .any e && decide (e.on = m)) || om.apart ops o | none => true))
  | _, _ => false
theorem late_of {n m : Nat} {om on : Oper} (hm : ops[m]? = some om) (hn : ops[n]? = some on) (h : lateB ops n m = true) : Late ops n m om on := by
  unfold lateB at h
  simp only [hm, hn, Bool.and_eq_true, decide_eq_true_eq] at h
  obtain ⟨⟨⟨⟨h1, h2⟩, h3⟩, h4⟩, h5⟩ := h
  refine ⟨hm, hn, h1, fun j o ho hj e he hb => ?_, fun e he hb => ?_, fun e he hb => ?_, fun j o ho hj hno => ?_⟩
  · have := List.all_eq_true.1 h2 j (List.mem_range.2 (Array.getElem?_eq_some_iff.1 ho).1)
    simp only [ho, hj, decide_false, Bool.false_or] at this
    have := Array.all_eq_true'.1 this e he
    simpa [hb] using this
  · have := Array.all_eq_true'.1 h3 e he
    simpa [hb] using this
  · have := Array.all_eq_true'.1 h4 e he
    simp only [hb, Bool.not_true, Bool.false_or] at this
    obtain ⟨e', he', h6⟩ := Array.any_eq_true'.1 this
    simp only [Bool.and_eq_true, decide_eq_true_eq] at h6
    exact ⟨e', he', h6⟩
  · have := List.all_eq_true.1 h5 j (List.mem_range.2 (Array.getElem?_eq_some_iff.1 ho).1)
    simp only [ho, show ¬ j < n by omega, decide_false, Bool.false_or, Bool.or_eq_true] at this
    rcases this with h6 | h6
    · obtain ⟨e', he', h7⟩ := Array.any_eq_true'.1 h6
      simp only [Bool.and_eq_true, decide_eq_true_eq] at h7
      exact absurd h7.2 (hno e' he' h7.1)
    · exact h6
def lexMB (ops : Array Oper) (z m : Nat) : Bool :=
  Region.noSelect ops && decide (z + 1 < ops.size) && Region.sinkB .text ops (z + 1) && Region.chainB .text ops (z + 1) && (Region.ready .text ops (Array.replicate ops.size false)).contains z &&
    ((List.range z).all fun j => match ops[z]?, ops[j]? with | some oz, some oj => oz.apart ops oj | _, _ => false) &&
    lexT ops (ops.size - (z + 1)) (z + 1) z 0 ((Array.replicate ops.size false).setIfInBounds z true) && Region.waitsFor .any ops (z + 1) z && lateB ops (z + 1) m
theorem wp_region_AM {id : Nat} {Q : Exit → Act → World → Prop} {a : Act} {w : World} {l : List Oper} (z m : Nat) {oz om on : Oper} {rest tl : List Oper} {obj : Obj} (W0 : World) (hm : P.follows .mixedOrders = true) (hB : lexMB l.toArray z m = true)
    (hS : Below W0.heap.size W0 w.drew) (hlz : l.drop z = oz :: on :: rest) (hlm : l.drop m = om :: tl) (hw : ∀ a, Region.wanted oz (yielded l.toArray a) = true)
    (hal : ∀ (a : Act) W, (execOp a.eval oz).run P W = .ok (.value (.pointer (some ⟨W.heap.size, 0, none⟩))) (W.alloc obj))
    (hpure : ∀ (S : World → Prop) (a : Act) v w w', Comes P S v ((execOp a.eval om).run P w) → (execOp a.eval om).run P w' = .ok (.value v) w')
    (hQ : ∀ c (a : Act) v w, Q (.panic c) (a.put om.dst v) w → Q (.panic c) a w)
    (h : wpHR P l.toArray W0 (fun a' => ∀ W1 W, Below W0.heap.size W0 W1 → Below (W1.alloc obj).heap.size (W1.alloc obj) W → wpList P l.toArray Q (on :: rest) (a'.put oz.dst (.pointer (some ⟨W1.heap.size, 0, none⟩))) W) (l.take z) a) :
    (Code.region id l.toArray true).wp P Q a w := by
  simp only [lexMB, Bool.and_eq_true, decide_eq_true_eq] at hB
  obtain ⟨⟨⟨⟨⟨⟨⟨⟨hsel, hn⟩, hs⟩, hc⟩, hr0⟩, hap⟩, hlex⟩, hnz⟩, hlate⟩ := hB
  have hn' : z + 1 < l.length := by simpa using hn
  have hoz : l.toArray[z]? = some oz := by
    have h0 : (l.drop z)[0]? = some oz := by rw [hlz]; rfl
    simpa [List.getElem?_drop] using h0
  have hom : l.toArray[m]? = some om := by
    have h0 : (l.drop m)[0]? = some om := by rw [hlm]; rfl
    simpa [List.getElem?_drop] using h0
  have hrest : ∀ j, (on :: rest)[j]? = l.toArray[z + 1 + j]? := fun j => by
    have h0 : (l.drop z)[j + 1]? = (on :: rest)[j]? := by rw [hlz]; rfl
    rw [← h0]
    simp [List.getElem?_drop]
    congr 1
    omega
  have hon : l.toArray[z + 1]? = some on := by have := hrest 0; simpa using this.symm
  have hrl : (on :: rest).length = l.toArray.size - (z + 1) := by
    have := congrArg List.length hlz
    simp at this ⊢
    omega
  have htl : (l.take z).length = z := by simp; omega
  have inv0 : HeadInv .text l.toArray (z + 1) (Array.replicate l.toArray.size false) :=
    ⟨by simp, fun j oj _ hl => (by rw [getD_replicate_false] at hl; cases hl), fun t _ ht => getD_in (by simpa using ht) (getD_replicate_false _ _)⟩
  have hr0' : z ∈ Region.ready .text l.toArray (Array.replicate l.toArray.size false) := by simpa using hr0
  have H := wpAnyR_lexT (g := l.toArray.size - (z + 1)) hsel hs hc hn (l.take z) 0 _ a (fun j hj => by
    have hj' : j < z := by rw [htl] at hj; exact hj
    simp [List.getElem?_take, hj']) (by rw [htl]; omega) (inv0.set hr0' (by omega)) (by rw [htl]; exact hlex) h
  refine wp_region_any hm ?_
  have hap' : ∀ j oj, j < z + 1 → j ≠ z → l.toArray[j]? = some oj → oz.apart l.toArray oj = true := fun j oj hj hjz hoj => by
    have h1 := List.all_eq_true.1 hap j (List.mem_range.2 (by omega))
    simpa only [hoz, hoj] using h1
  have := wpAny_alloc2 (Q := Q) (g := l.toArray.size - (z + 1)) (rest := on :: rest) (late_of hom hon hlate) (Region.noSelect_spec hsel) hs hc hn (by omega) hnz hoz hap' (fun a => hw a.tmps) hal hpure hQ hrest hrl (fun a' hT => hT) (l.take z).length _ a inv0 hr0' H w.drew hS
  rw [htl, show z + 1 + (l.toArray.size - (z + 1)) = l.toArray.size by omega] at this
  exact this
theorem wpAnyS_lexT {S : World → Prop} {n g : Nat} {T : Act → Prop} (hsel : Region.noSelect ops = true) (hs : Region.sinkB .text ops n = true) (hc : Region.chainB .text ops n = true) (hn : n < ops.size) :
    ∀ (l : List Oper) (k : Nat) (listed : Array Bool) (a : Act), (∀ j, j < l.length → l[j]? = ops[k + j]?) → k + l.length = n → HeadInv .text ops n listed →
    lexT ops g n l.length k listed = true → wpH P ops S T l a →
    wpAnyS P .text ops S n (fun listed' a' => (Region.seqB .text ops g n listed' = true ∧ Region.seqB .any ops g n listed' = true) ∧ T a') l.length listed a
  | [], k, listed, a, _, _, _, hB, h => by simp only [List.length_nil, lexT, Bool.and_eq_true] at hB; exact ⟨hB, h⟩
  | o :: l, k, listed, a, hl, hk, inv, hB, h => by
    have h0 : ops[k]? = some o := by simpa using (hl 0 (by simp)).symm
    simp only [List.length_cons, lexT, Bool.and_eq_true] at hB
    obtain ⟨⟨hr, hf⟩, hB'⟩ := hB
    have hkn : k < n := by simp only [List.length_cons] at hk; omega
    have hr' : k ∈ Region.ready .text ops listed := by simpa using hr
    obtain ⟨v, hy, hK⟩ := h
    exact wpAnyS_first h0 (Region.noSelect_spec hsel) hs hc hn hkn (fun listed' a' hL => seqB_ready hL.1.1) l.length listed a inv (Region.free_spec h0 hf) hr' hy
      (wpAnyS_lexT hsel hs hc hn l (k + 1) _ _ (fun j hj => by have := hl (j + 1) (by simp; omega); simpa [Nat.add_assoc, Nat.add_comm 1 j] using this) (by simp only [List.length_cons] at hk; omega) (inv.set hr' hkn) hB' hK)
def lexBMB (ops : Array Oper) (n m : Nat) : Bool :=
  Region.noSelect ops && decide (n < ops.size) && Region.sinkB .text ops n && Region.chainB .text ops n && lexT ops (ops.size - n) n n 0 (Array.replicate ops.size false) && lateB ops n m
theorem wp_region_BM {id : Nat} {Q : Exit → Act → World → Prop} {a : Act} {w : World} {l : List Oper} (n m : Nat) {om on : Oper} {rest tl : List Oper} (S : World → Prop) (hm : P.follows .mixedOrders = true) (hB : lexBMB l.toArray n m = true)
    (hS : S w.drew) (hln : l.drop n = on :: rest) (hlm : l.drop m = om :: tl)
    (hpure : ∀ (S : World → Prop) (a : Act) v w w', Comes P S v ((execOp a.eval om).run P w) → (execOp a.eval om).run P w' = .ok (.value v) w')
    (hQ : ∀ c (a : Act) v w, Q (.panic c) (a.put om.dst v) w → Q (.panic c) a w)
    (h : wpH P l.toArray S (fun a' => ∀ W, S W → wpList P l.toArray Q (l.drop n) a' W) (l.take n) a) : (Code.region id l.toArray true).wp P Q a w := by
  simp only [lexBMB, Bool.and_eq_true, decide_eq_true_eq] at hB
  obtain ⟨⟨⟨⟨⟨hsel, hn⟩, hs⟩, hc⟩, hlex⟩, hlate⟩ := hB
  have hn' : n < l.length := by simpa using hn
  have hom : l.toArray[m]? = some om := by
    have h0 : (l.drop m)[0]? = some om := by rw [hlm]; rfl
    simpa [List.getElem?_drop] using h0
  have hon : l.toArray[n]? = some on := by
    have h0 : (l.drop n)[0]? = some on := by rw [hln]; rfl
    simpa [List.getElem?_drop] using h0
  have htl : (l.take n).length = n := by simp; omega
  have hdl : (l.drop n).length = l.toArray.size - n := by simp
  have inv0 : HeadInv .text l.toArray n (Array.replicate l.toArray.size false) :=
    ⟨by simp, fun j oj _ hl => (by rw [getD_replicate_false] at hl; cases hl), fun t _ ht => getD_in (by simpa using ht) (getD_replicate_false _ _)⟩
  have H := wpAnyS_lexT (g := l.toArray.size - n) hsel hs hc hn (l.take n) 0 _ a (fun j hj => by
    have hj' : j < n := by rw [htl] at hj; exact hj
    simp [List.getElem?_take, hj']) (by rw [htl]; omega) inv0 (by rw [htl]; exact hlex) h
  refine wp_region_any hm ?_
  have := wpAny_late (Q := Q) (g := l.toArray.size - n) (late_of hom hon hlate) (Region.noSelect_spec hsel) hs hc hn (fun a v w w' _ h => hpure _ a v w w' h) hQ (fun l' a' hLL W' hW' => by
    have := wpAny_of_seq (md := .any) (Q' := Q) (l.drop n) n l' _ W' (fun j => by simp [List.getElem?_drop]) (by rw [hdl]; exact hLL.1.2) (hLL.2 W' hW')
    rwa [hdl] at this) (l.take n).length _ a inv0 H w.drew hS
  rw [htl, show n + (l.toArray.size - n) = l.toArray.size by omega] at this
  exact this
theorem extract_pure {P : Program} {S : World → Prop} {o : Oper} {x : Operand} {i : Nat} (ho : o.op = .extract x i) {a : Act} {v : Value} {w w' : World} (h : Comes P S v ((execOp a.eval o).run P w)) : (execOp a.eval o).run P w' = .ok (.value v) w' := by
  unfold execOp at *
  rw [ho] at *
  simp only [] at *
  generalize a.eval x = y at *
  cases y with
  | tuple vs =>
    simp [go_sem] at h ⊢
    cases hv : vs[i]? with
    | none => rw [hv] at h; simp [go_sem, stuck, Comes] at h
    | some u =>
      rw [hv] at h
      simp [go_sem, Comes] at h ⊢
      exact h.1
  | _ => simp [go_sem, stuck, Comes] at h
end
end Go.Proofs.Ytheddoinnakneaa
/- A statement that leaves the order of its first operations open, two of which make a new block each, and some of which, which look at no memory, may also come behind the stores into them: one walk, in the order of the text. -/
namespace Go.Proofs.Ytheddoinnakneaa
open Go.ChangeShapes Go.WideShapes Go.ChangeAt Go.RowKit Go.Joins
set_option linter.unusedVariables false
set_option linter.unusedSimpArgs false
set_option maxRecDepth 4000
section
variable {P : Program} {ops : Array Oper} {W0 : World}
/-- an operation that is waited for through others -/
def ThruT (ops : Array Oper) (x y : Nat) : Prop := ∃ ox, ops[x]? = some ox ∧ ∃ e ∈ ox.after, Region.binds .text e = true ∧ e.on = y
def Thru (ops : Array Oper) (o : Oper) (y : Nat) : Prop := ∃ e ∈ o.after, Region.binds .any e = true ∧ (e.on = y ∨ ThruT ops e.on y ∨ ∃ z, ThruT ops e.on z ∧ ThruT ops z y)
theorem thruT_listed {listed : Array Bool} {x y : Nat} (hc : ∀ (j : Nat) oj, ops[j]? = some oj → listed.getD j false = true → ∀ e ∈ oj.after, Region.binds .text e = true → listed.getD e.on false = true) (h : ThruT ops x y) (hx : listed.getD x false = true) : listed.getD y false = true := by
  obtain ⟨ox, h1, e, h2, h3, rfl⟩ := h
  exact hc x ox h1 hx e h2 h3
theorem thru_listed {listed : Array Bool} {o : Oper} {y : Nat} (hc : ∀ (j : Nat) oj, ops[j]? = some oj → listed.getD j false = true → ∀ e ∈ oj.after, Region.binds .text e = true → listed.getD e.on false = true) (h : Thru ops o y) (hx : ∀ e ∈ o.after, Region.binds .any e = true → listed.getD e.on false = true) : listed.getD y false = true := by
  obtain ⟨e, h1, h2, h3⟩ := h
  have h4 := hx e h1 h2
  rcases h3 with rfl | h3 | ⟨z, h3, h5⟩
  · exact h4
  · exact thruT_listed hc h3 h4
  · exact thruT_listed hc h5 (thruT_listed hc h3 h4)
def thruTB (ops : Array Oper) (x y : Nat) : Bool := match ops[x]? with | some ox => ox.after.any fun e => Region.binds .text e && decide (e.on = y) | none => false
def thruB (ops : Array Oper) (o : Oper) (y : Nat) : Bool := o.after.any fun e => Region.binds .any e && (decide (e.on = y) || thruTB ops e.on y || (List.range ops.size).any fun z => thruTB ops e.on z && thruTB ops z y)
theorem thruT_of {x y : Nat} (h : thruTB ops x y = true) : ThruT ops x y := by
  unfold thruTB at h
  split at h
  · rename_i ox hox
    obtain ⟨e, he, h1⟩ := Array.any_eq_true'.1 h
    simp only [Bool.and_eq_true, decide_eq_true_eq] at h1
    exact ⟨ox, hox, e, he, h1.1, h1.2⟩
  · cases h
theorem thru_of {o : Oper} {y : Nat} (h : thruB ops o y = true) : Thru ops o y := by
  unfold thruB at h
  obtain ⟨e, he, h1⟩ := Array.any_eq_true'.1 h
  simp only [Bool.and_eq_true, Bool.or_eq_true, decide_eq_true_eq] at h1
  refine ⟨e, he, h1.1, ?_⟩
  rcases h1.2 with (h2 | h2) | h2
  · exact Or.inl h2
  · exact Or.inr (Or.inl (thruT_of h2))
  · obtain ⟨z, _, h3⟩ := List.any_eq_true.1 h2
    simp only [Bool.and_eq_true] at h3
    exact Or.inr (Or.inr ⟨z, thruT_of h3.1, thruT_of h3.2⟩)
/-- the edges that the text alone draws come from operations that look at no memory, and that may be moved ahead -/
structure LateG (ops : Array Oper) (M : List Nat) : Prop where
  edge : ∀ (j : Nat) o, ops[j]? = some o → ∀ e ∈ o.after, Region.binds .text e = true → Region.binds .any e = true ∨ Thru ops o e.on ∨ (e.on ∈ M ∧ ∃ om, ops[e.on]? = some om ∧ ∀ e' ∈ om.after, Region.binds .text e' = true → ∃ e'' ∈ o.after, Region.binds .any e'' = true ∧ e''.on = e'.on)
  free : ∀ m ∈ M, ∀ om, ops[m]? = some om → ∀ (j : Nat) o, ops[j]? = some o → j ≠ m → (∀ e ∈ o.after, Region.binds .any e = true → e.on ≠ m) → om.apart ops o = true
theorem late_some {M : List Nat} (h : LateG ops M) {j : Nat} {listed : Array Bool} (hcl : ∀ (j : Nat) oj, ops[j]? = some oj → listed.getD j false = true → ∀ e ∈ oj.after, Region.binds .text e = true → listed.getD e.on false = true) (hsz : listed.size = ops.size) (hj : j ∈ Region.ready .any ops listed) (hne : j ∉ Region.ready .text ops listed) :
    ∃ m om, m ∈ M ∧ ops[m]? = some om ∧ m ∈ Region.ready .text ops listed := by
  apply Classical.byContradiction
  intro hno
  apply hne
  rw [mem_ready] at hj
  obtain ⟨h0, o, ho, hall⟩ := hj
  refine mem_ready.2 ⟨h0, o, ho, fun e he hb => ?_⟩
  rcases h.edge j o ho e he hb with h1 | h1 | ⟨hM, om, hom, hd⟩
  · exact hall e he h1
  · exact thru_listed hcl h1 hall
  · cases hl : listed.getD e.on false with
    | true => rfl
    | false =>
      exfalso
      refine hno ⟨e.on, om, hM, hom, mem_ready.2 ⟨getD_in (by rw [hsz]; exact (Array.getElem?_eq_some_iff.1 hom).1) hl, om, hom, fun e' he' hb' => ?_⟩⟩
      obtain ⟨e'', h1, h2, h3⟩ := hd e' he' hb'
      rw [← h3]
      exact hall e'' h1 h2
def PureM (P : Program) (ops : Array Oper) (M : List Nat) : Prop := ∀ m ∈ M, ∀ om, ops[m]? = some om → ∀ (S : World → Prop) (a : Act) v w w', Comes P S v ((execOp a.eval om).run P w) → (execOp a.eval om).run P w' = .ok (.value v) w'
theorem wpAny_lateG {n g : Nat} {M : List Nat} {S : World → Prop} {L : Array Bool → Act → Prop} {Q : Exit → Act → World → Prop} (hL : LateG ops M) (hMn : ∀ m ∈ M, m < n) (hsel : ∀ (j : Nat) (o : Oper) cs b, ops[j]? = some o → o.op ≠ .select cs b)
    (hpure : PureM P ops M) (hQ : ∀ (om : Oper) c (a : Act) v w, Q (.panic c) (a.put om.dst v) w → Q (.panic c) a w)
    (hT : ∀ listed a, L listed a → ∀ w, S w → wpAny P .any ops Q g listed a w) :
    ∀ (f : Nat) (listed : Array Bool) (a : Act), HeadInv .text ops n listed → wpAnyS P .text ops S n L f listed a → ∀ w, S w → wpAny P .any ops Q (f + g) listed a w
  | 0, listed, a, _, h, w, hS => by rw [Nat.zero_add]; exact hT _ _ h w hS
  | f + 1, listed, a, inv, h, w, hS => by
    by_cases hx : ∃ j, j ∈ Region.ready .any ops listed ∧ j ∉ Region.ready .text ops listed
    · obtain ⟨j, hj, hjt⟩ := hx
      obtain ⟨m, om, hM, hom, hm⟩ := late_some hL inv.closed inv.size hj hjt
      obtain ⟨_, om', v, hom', hst, H⟩ := h.2 m hm
      obtain rfl : om' = om := Option.some.inj (hom'.symm.trans hom)
      have hy : Yields P ops om' v a := by
        rcases hst with ⟨h1, h2⟩ | h2
        · exact Or.inl ⟨h1, fun w' => hpure m hM om' hom S a v w w' (h2 w hS)⟩
        · exact Or.inr h2
      have IH := wpAny_lateG hL hMn hsel hpure hQ hT f _ _ (inv.set hm (hMn m hM)) H w hS
      have := wpAny_first (Q := Q) (md := .any) hom hsel (fun c a w => hQ om' c a v w) (f + g) listed a w (fun j oj hj hjm hun hno => hL.free m hM om' hom j oj hj hjm hno) (ready_text_any hm) hy IH
      rw [show f + 1 + g = f + g + 1 by omega]
      exact this
    · have key : ∀ j, j ∈ Region.ready .any ops listed → j ∈ Region.ready .text ops listed := fun j hj => by
        apply Classical.byContradiction
        intro h1
        exact hx ⟨j, hj, h1⟩
      rw [show f + 1 + g = (f + g) + 1 by omega]
      refine ⟨fun h0 => ?_, fun j hj => ?_⟩
      · exfalso
        apply h.1
        apply List.eq_nil_iff_forall_not_mem.2
        intro j hj
        have := ready_text_any hj
        rw [h0] at this
        cases this
      · obtain ⟨hjn, oj, v, ho, hy, hk⟩ := h.2 j (key j hj)
        exact steady_op ho hy hS fun w' hS' => wpAny_lateG hL hMn hsel hpure hQ hT f _ _ (inv.set (key j hj) hjn) hk w' hS'
theorem wpAnyR_mono {md : Region.Mode} {n : Nat} {L L' : Array Bool → Act → Prop} (hl : ∀ l a, L l a → L' l a) : ∀ (f : Nat) (listed : Array Bool) (a : Act), wpAnyR P md ops W0 n L f listed a → wpAnyR P md ops W0 n L' f listed a
  | 0, _, _, h => hl _ _ h
  | f + 1, listed, a, h => ⟨h.1, fun i hi => by
      obtain ⟨h1, oi, v, ho, hy, hn⟩ := h.2 i hi
      exact ⟨h1, oi, v, ho, hy, wpAnyR_mono hl f _ _ hn⟩⟩
theorem steadyR_base {W1 : World} {o : Oper} {v : Value} {a : Act} (h : SteadyR P ops W0 o v a) (hb : Below W0.heap.size W0 W1) : SteadyR P ops W1 o v a := by
  rcases h with ⟨h1, h2⟩ | h
  · exact Or.inl ⟨h1, fun w hw => h2 w (hb.trans (hw.mono hb.size))⟩
  · exact Or.inr h
theorem wpAnyR_base {md : Region.Mode} {W1 : World} {n : Nat} {L : Array Bool → Act → Prop} (hb : Below W0.heap.size W0 W1) : ∀ (f : Nat) (listed : Array Bool) (a : Act), wpAnyR P md ops W0 n L f listed a → wpAnyR P md ops W1 n L f listed a
  | 0, _, _, h => h
  | f + 1, listed, a, h => ⟨h.1, fun i hi => by
      obtain ⟨h1, oi, v, ho, hy, hn⟩ := h.2 i hi
      exact ⟨h1, oi, v, ho, steadyR_base hy hb, wpAnyR_base hb f _ _ hn⟩⟩
/-- an operation that makes a block -/
structure MakesBlock (P : Program) (ops : Array Oper) (n z : Nat) (oz : Oper) (obj : Obj) : Prop where
  lt : z < n
  at_ : ops[z]? = some oz
  ap : ∀ j oj, j < n → j ≠ z → ops[j]? = some oj → oz.apart ops oj = true
  wanted : ∀ a : Act, Region.wanted oz (yielded ops a.tmps) = true
  gives : ∀ (a : Act) W, (execOp a.eval oz).run P W = .ok (.value (.pointer (some ⟨W.heap.size, 0, none⟩))) (W.alloc obj)
theorem set_get {listed : Array Bool} (z : Nat) : (listed.setIfInBounds z true).getD z true = true := by
  rcases Nat.lt_or_ge z listed.size with h' | h'
  · simp [h']
  · simp [Array.getElem?_eq_none h']
def EndT (ops : Array Oper) (g n : Nat) (T : Act → Prop) (l : Array Bool) (a : Act) : Prop := (Region.seqB .text ops g n l = true ∧ Region.seqB .any ops g n l = true) ∧ T a
theorem wpAny_one {n z g : Nat} {M : List Nat} {oz : Oper} {obj : Obj} {rest : List Oper} {T : Act → Prop} {Q : Exit → Act → World → Prop} (hL : LateG ops M) (hMn : ∀ m ∈ M, m < n) (hsel : ∀ (j : Nat) (o : Oper) cs b, ops[j]? = some o → o.op ≠ .select cs b)
    (hs : Region.sinkB .text ops n = true) (hc : Region.chainB .text ops n = true) (hn : n < ops.size) (hz : MakesBlock P ops n z oz obj) (hzM : z ∉ M)
    (hpure : PureM P ops M) (hQ : ∀ (om : Oper) c (a : Act) v w, Q (.panic c) (a.put om.dst v) w → Q (.panic c) a w)
    (hrest : ∀ j, rest[j]? = ops[n + j]?) (hg : rest.length = g) :
    ∀ (f : Nat) (W0 : World) (listed : Array Bool) (a : Act), HeadInv .text ops n listed → z ∈ Region.ready .text ops listed →
      (∀ a', T a' → ∀ W1 W, Below W0.heap.size W0 W1 → Below (W1.alloc obj).heap.size (W1.alloc obj) W → wpList P ops Q rest (a'.put oz.dst (.pointer (some ⟨W1.heap.size, 0, none⟩))) W) →
      wpAnyR P .text ops W0 n (EndT ops g n T) f (listed.setIfInBounds z true) a →
      ∀ W, Below W0.heap.size W0 W → wpAny P .any ops Q (f + 1 + g) listed a W := by
  have doz : ∀ (f : Nat) (W0 : World) (listed : Array Bool) (a : Act), HeadInv .text ops n listed → z ∈ Region.ready .text ops listed →
      (∀ a', T a' → ∀ W1 W, Below W0.heap.size W0 W1 → Below (W1.alloc obj).heap.size (W1.alloc obj) W → wpList P ops Q rest (a'.put oz.dst (.pointer (some ⟨W1.heap.size, 0, none⟩))) W) →
      wpAnyR P .text ops W0 n (EndT ops g n T) f (listed.setIfInBounds z true) a →
      ∀ W, Below W0.heap.size W0 W → wpOp P ops Q z (fun a' w' => wpAny P .any ops Q (f + g) (listed.setIfInBounds z true) a' w') a W := by
    intro f W0 listed a inv hr hT H W hW
    refine op_gives hz.at_ (hz.wanted _) (hz.gives _ _) ?_
    have hWA : Below W0.heap.size W0 (W.alloc obj) := Below.alloc hW hW.size obj
    have H2 := wpAnyR_put (vz := .pointer (some ⟨W.heap.size, 0, none⟩)) hsel hz.ap f _ _ (set_get z) H
    have H3 := wpAnyS_of_R (S := fun w => Below (W.alloc obj).heap.size (W.alloc obj) w) (fun w hb => hWA.trans (hb.mono hWA.size)) (fun w w' h1 h2 => h1.trans (h2.mono h1.size)) f _ _ H2
    refine wpAny_lateG (Q := Q) (g := g) hL hMn hsel hpure hQ (fun l' a' hLL W' hW' => ?_) f _ _ (inv.set hr hz.lt) H3 (W.alloc obj) (Below.refl _ _)
    obtain ⟨b, ⟨hB, hTb⟩, rfl⟩ := hLL
    have := wpAny_of_seq (md := .any) (Q' := Q) rest n l' _ W' hrest (by rw [hg]; exact hB.2) (hT b hTb W W' hW hW')
    rwa [hg] at this
  intro f
  induction f with
  | zero =>
    intro W0 listed a inv hr hT H W hW
    rw [show 0 + 1 + g = (0 + g) + 1 by omega]
    refine ⟨fun h => (by have := ready_text_any hr; rw [h] at this; cases this), fun j hj => ?_⟩
    by_cases hjz : j = z
    · subst hjz; exact doz 0 W0 listed a inv hr hT H W hW
    · exfalso
      have hjt : ∃ j, j ∈ Region.ready .text ops listed ∧ j ≠ z := by
        by_cases h : j ∈ Region.ready .text ops listed
        · exact ⟨j, h, hjz⟩
        · obtain ⟨m, om, hM, _, hm⟩ := late_some hL inv.closed inv.size hj h
          exact ⟨m, hm, fun e => hzM (e ▸ hM)⟩
      obtain ⟨j', hj', hne⟩ := hjt
      have h1 := seqB_ready H.1.1 j' (ready_mono hj' hne)
      exact absurd hj' (tail_waits hs hc hn inv _ z rfl hz.lt (mem_ready.1 hr).1 j' h1)
  | succ f ih =>
    intro W0 listed a inv hr hT H W hW
    rw [show f + 1 + 1 + g = (f + 1 + g) + 1 by omega]
    by_cases hx : ∃ j, j ∈ Region.ready .any ops listed ∧ j ∉ Region.ready .text ops listed
    · obtain ⟨j, hj, hjt⟩ := hx
      obtain ⟨m, om, hM, hom, hm⟩ := late_some hL inv.closed inv.size hj hjt
      have hmz : m ≠ z := fun e => hzM (e ▸ hM)
      obtain ⟨_, om', v, hom', hst, H'⟩ := H.2 m (ready_mono hm hmz)
      obtain rfl : om' = om := Option.some.inj (hom'.symm.trans hom)
      have hy : Yields P ops om' v a := by
        rcases hst with ⟨h1, h2⟩ | h2
        · exact Or.inl ⟨h1, fun w' => hpure m hM om' hom _ a v W w' (h2 W hW)⟩
        · exact Or.inr h2
      rw [Array.setIfInBounds_comm _ _ (Ne.symm hmz)] at H'
      have IH := ih W0 (listed.setIfInBounds m true) (a.put om'.dst v) (inv.set hm (hMn m hM)) (ready_mono hr (Ne.symm hmz)) hT H' W hW
      exact wpAny_first (Q := Q) (md := .any) hom hsel (fun c a w => hQ om' c a v w) (f + 1 + g) listed a W (fun j oj hj hjm hun hno => hL.free m hM om' hom j oj hj hjm hno) (ready_text_any hm) hy IH
    · refine ⟨fun h => (by have := ready_text_any hr; rw [h] at this; cases this), fun j hj => ?_⟩
      have hjt : j ∈ Region.ready .text ops listed := by
        apply Classical.byContradiction
        intro h1
        exact hx ⟨j, hj, h1⟩
      by_cases hjz : j = z
      · subst hjz; exact doz (f + 1) W0 listed a inv hr hT H W hW
      · obtain ⟨hjn, oj, u, hoj, hsj, Hj⟩ := H.2 j (ready_mono hjt hjz)
        have hst : Steady P ops (fun w => Below W0.heap.size W0 w) oj u a := steady_of_R hsj (fun w h => h) (fun w w' h1 h2 => h1.trans (h2.mono h1.size))
        refine steady_op hoj hst hW fun w' hS' => ?_
        refine ih W0 (listed.setIfInBounds j true) (a.put oj.dst u) (inv.set hjt hjn) (ready_mono hr (Ne.symm hjz)) hT ?_ w' hS'
        rw [Array.setIfInBounds_comm _ _ hjz]
        exact Hj
/-- the last operations, whatever the numbers of both new blocks -/
def TailTwo (P : Program) (ops : Array Oper) (Q : Exit → Act → World → Prop) (rest : List Oper) (W0 : World) (oz oy : Oper) (obj obj' : Obj) (b : Act) : Prop :=
  ∀ g g' W, Below W0.heap.size W0 W → W0.heap.size ≤ g → W0.heap.size ≤ g' → g ≠ g' → g < W.heap.size → g' < W.heap.size → W.heap[g]? = some obj → W.heap[g']? = some obj' →
    wpList P ops Q rest ((b.put oz.dst (.pointer (some ⟨g, 0, none⟩))).put oy.dst (.pointer (some ⟨g', 0, none⟩))) W
theorem alloc_at (W : World) (obj : Obj) : (W.alloc obj).heap[W.heap.size]? = some obj := by
  show (W.heap.push obj)[W.heap.size]? = some obj
  simp
theorem alloc_old (W : World) (obj : Obj) {k : Nat} (h : k ≠ W.heap.size) : (W.alloc obj).heap[k]? = W.heap[k]? := by
  show (W.heap.push obj)[k]? = W.heap[k]?
  rw [Array.getElem?_push, if_neg h]
theorem wpAny_two {n z y g : Nat} {M : List Nat} {oz oy : Oper} {obj obj' : Obj} {rest : List Oper} {T : Act → Prop} {Q : Exit → Act → World → Prop} (hL : LateG ops M) (hMn : ∀ m ∈ M, m < n) (hsel : ∀ (j : Nat) (o : Oper) cs b, ops[j]? = some o → o.op ≠ .select cs b)
    (hs : Region.sinkB .text ops n = true) (hc : Region.chainB .text ops n = true) (hn : n < ops.size) (hz : MakesBlock P ops n z oz obj) (hy : MakesBlock P ops n y oy obj') (hzy : z ≠ y) (hzM : z ∉ M) (hyM : y ∉ M)
    (hpure : PureM P ops M) (hQ : ∀ (om : Oper) c (a : Act) v w, Q (.panic c) (a.put om.dst v) w → Q (.panic c) a w)
    (hrest : ∀ j, rest[j]? = ops[n + j]?) (hg : rest.length = g) (hT : ∀ a', T a' → TailTwo P ops Q rest W0 oz oy obj obj' a') :
    ∀ (f : Nat) (listed : Array Bool) (a : Act), HeadInv .text ops n listed → z ∈ Region.ready .text ops listed → y ∈ Region.ready .text ops listed →
      wpAnyR P .text ops W0 n (EndT ops g n T) f ((listed.setIfInBounds z true).setIfInBounds y true) a →
      ∀ W, Below W0.heap.size W0 W → wpAny P .any ops Q (f + 1 + 1 + g) listed a W := by
  have ne2 : (oz.dst ≠ oy.dst ∨ oz.dst = none) → True := fun _ => trivial
  have comm : ∀ (b : Act) (u v : Value), (b.put oz.dst u).put oy.dst v = (b.put oy.dst v).put oz.dst u := fun b u v => by
    obtain ⟨h1, h2, h3⟩ := Oper.apart_spec (hz.ap y oy hy.lt (Ne.symm hzy) hy.at_)
    exact (Act.put_comm b u v h2)
  have doz : ∀ (f : Nat) (listed : Array Bool) (a : Act), HeadInv .text ops n listed → z ∈ Region.ready .text ops listed → y ∈ Region.ready .text ops listed →
      wpAnyR P .text ops W0 n (EndT ops g n T) f ((listed.setIfInBounds z true).setIfInBounds y true) a →
      ∀ W, Below W0.heap.size W0 W → wpOp P ops Q z (fun a' w' => wpAny P .any ops Q (f + 1 + g) (listed.setIfInBounds z true) a' w') a W := by
    intro f listed a inv hr hr' H W hW
    refine op_gives hz.at_ (hz.wanted _) (hz.gives _ _) ?_
    have hWA : Below W0.heap.size W0 (W.alloc obj) := Below.alloc hW hW.size obj
    have H2 := wpAnyR_put (vz := .pointer (some ⟨W.heap.size, 0, none⟩)) hsel hz.ap f _ _ (getD_set_keep (set_get z)) H
    have H3 := wpAnyR_mono (L' := EndT ops g n (fun a' => ∃ b, T b ∧ a' = b.put oz.dst (.pointer (some ⟨W.heap.size, 0, none⟩)))) (fun l a' hh => by
      obtain ⟨b, ⟨h1, h2⟩, h3⟩ := hh
      exact ⟨h1, b, h2, h3⟩) f _ _ H2
    refine wpAny_one hL hMn hsel hs hc hn hy hyM hpure hQ hrest hg f (W.alloc obj) _ _ (inv.set hr hz.lt) (ready_mono hr' (Ne.symm hzy)) ?_ (wpAnyR_base hWA f _ _ H3) (W.alloc obj) (Below.refl _ _)
    rintro a' ⟨b, hb, rfl⟩ W1 W2 hb1 hb2
    have k1 := hb1.size
    have k2 := hb2.size
    simp only [World.size_alloc] at k1 k2
    refine hT b hb _ _ W2 ((hWA.trans (hb1.mono hWA.size)).trans ((Below.alloc (Below.refl _ _) (Nat.le_refl _) obj').trans (hb2.mono (by simp)) |>.mono (by have := hW.size; omega))) hW.size (by have := hW.size; omega) (by omega) (by omega) (by omega) ?_ ?_
    · rw [hb2.block _ (by simp; omega)]
      rw [alloc_old W1 obj' (by omega), hb1.block _ (by simp)]
      exact alloc_at W obj
    · rw [hb2.block _ (by simp)]
      exact alloc_at W1 obj'
  have doy : ∀ (f : Nat) (listed : Array Bool) (a : Act), HeadInv .text ops n listed → z ∈ Region.ready .text ops listed → y ∈ Region.ready .text ops listed →
      wpAnyR P .text ops W0 n (EndT ops g n T) f ((listed.setIfInBounds z true).setIfInBounds y true) a →
      ∀ W, Below W0.heap.size W0 W → wpOp P ops Q y (fun a' w' => wpAny P .any ops Q (f + 1 + g) (listed.setIfInBounds y true) a' w') a W := by
    intro f listed a inv hr hr' H W hW
    refine op_gives hy.at_ (hy.wanted _) (hy.gives _ _) ?_
    have hWA : Below W0.heap.size W0 (W.alloc obj') := Below.alloc hW hW.size obj'
    rw [Array.setIfInBounds_comm _ _ hzy] at H
    have H2 := wpAnyR_put (vz := .pointer (some ⟨W.heap.size, 0, none⟩)) hsel hy.ap f _ _ (getD_set_keep (set_get y)) H
    have H3 := wpAnyR_mono (L' := EndT ops g n (fun a' => ∃ b, T b ∧ a' = b.put oy.dst (.pointer (some ⟨W.heap.size, 0, none⟩)))) (fun l a' hh => by
      obtain ⟨b, ⟨h1, h2⟩, h3⟩ := hh
      exact ⟨h1, b, h2, h3⟩) f _ _ H2
    refine wpAny_one hL hMn hsel hs hc hn hz hzM hpure hQ hrest hg f (W.alloc obj') _ _ (inv.set hr' hy.lt) (ready_mono hr hzy) ?_ (wpAnyR_base hWA f _ _ H3) (W.alloc obj') (Below.refl _ _)
    rintro a' ⟨b, hb, rfl⟩ W1 W2 hb1 hb2
    have k1 := hb1.size
    have k2 := hb2.size
    simp only [World.size_alloc] at k1 k2
    rw [← comm]
    refine hT b hb _ _ W2 ((hWA.trans (hb1.mono hWA.size)).trans ((Below.alloc (Below.refl _ _) (Nat.le_refl _) obj).trans (hb2.mono (by simp)) |>.mono (by have := hW.size; omega))) (by have := hW.size; omega) hW.size (by omega) (by omega) (by omega) ?_ ?_
    · rw [hb2.block _ (by simp)]
      exact alloc_at W1 obj
    · rw [hb2.block _ (by simp; omega)]
      rw [alloc_old W1 obj (by omega), hb1.block _ (by simp)]
      exact alloc_at W obj'
  intro f
  induction f with
  | zero =>
    intro listed a inv hr hr' H W hW
    rw [show 0 + 1 + 1 + g = (0 + 1 + g) + 1 by omega]
    refine ⟨fun h => (by have := ready_text_any hr; rw [h] at this; cases this), fun j hj => ?_⟩
    by_cases hjz : j = z
    · subst hjz; exact doz 0 listed a inv hr hr' H W hW
    · by_cases hjy : j = y
      · subst hjy; exact doy 0 listed a inv hr hr' H W hW
      · exfalso
        have hjt : ∃ j, j ∈ Region.ready .text ops listed ∧ j ≠ z ∧ j ≠ y := by
          by_cases h : j ∈ Region.ready .text ops listed
          · exact ⟨j, h, hjz, hjy⟩
          · obtain ⟨m, om, hM, _, hm⟩ := late_some hL inv.closed inv.size hj h
            exact ⟨m, hm, fun e => hzM (e ▸ hM), fun e => hyM (e ▸ hM)⟩
        obtain ⟨j', hj', hne, hne'⟩ := hjt
        have h1 := seqB_ready H.1.1 j' (ready_mono (ready_mono hj' hne) hne')
        exact absurd hj' (tail_waits hs hc hn inv _ z rfl hz.lt (mem_ready.1 hr).1 j' h1)
  | succ f ih =>
    intro listed a inv hr hr' H W hW
    rw [show f + 1 + 1 + 1 + g = (f + 1 + 1 + g) + 1 by omega]
    by_cases hx : ∃ j, j ∈ Region.ready .any ops listed ∧ j ∉ Region.ready .text ops listed
    · obtain ⟨j, hj, hjt⟩ := hx
      obtain ⟨m, om, hM, hom, hm⟩ := late_some hL inv.closed inv.size hj hjt
      have hmz : m ≠ z := fun e => hzM (e ▸ hM)
      have hmy : m ≠ y := fun e => hyM (e ▸ hM)
      obtain ⟨_, om', v, hom', hst, H'⟩ := H.2 m (ready_mono (ready_mono hm hmz) hmy)
      obtain rfl : om' = om := Option.some.inj (hom'.symm.trans hom)
      have hyl : Yields P ops om' v a := by
        rcases hst with ⟨h1, h2⟩ | h2
        · exact Or.inl ⟨h1, fun w' => hpure m hM om' hom _ a v W w' (h2 W hW)⟩
        · exact Or.inr h2
      rw [Array.setIfInBounds_comm _ _ (Ne.symm hmy), Array.setIfInBounds_comm _ _ (Ne.symm hmz)] at H'
      have IH := ih (listed.setIfInBounds m true) (a.put om'.dst v) (inv.set hm (hMn m hM)) (ready_mono hr (Ne.symm hmz)) (ready_mono hr' (Ne.symm hmy)) H' W hW
      exact wpAny_first (Q := Q) (md := .any) hom hsel (fun c a w => hQ om' c a v w) (f + 1 + 1 + g) listed a W (fun j oj hj hjm hun hno => hL.free m hM om' hom j oj hj hjm hno) (ready_text_any hm) hyl IH
    · refine ⟨fun h => (by have := ready_text_any hr; rw [h] at this; cases this), fun j hj => ?_⟩
      have hjt : j ∈ Region.ready .text ops listed := by
        apply Classical.byContradiction
        intro h1
        exact hx ⟨j, hj, h1⟩
      by_cases hjz : j = z
      · subst hjz; exact doz (f + 1) listed a inv hr hr' H W hW
      · by_cases hjy : j = y
        · subst hjy; exact doy (f + 1) listed a inv hr hr' H W hW
        · obtain ⟨hjn, oj, u, hoj, hsj, Hj⟩ := H.2 j (ready_mono (ready_mono hjt hjz) hjy)
          have hst : Steady P ops (fun w => Below W0.heap.size W0 w) oj u a := steady_of_R hsj (fun w h => h) (fun w w' h1 h2 => h1.trans (h2.mono h1.size))
          refine steady_op hoj hst hW fun w' hS' => ?_
          refine ih (listed.setIfInBounds j true) (a.put oj.dst u) (inv.set hjt hjn) (ready_mono hr (Ne.symm hjz)) (ready_mono hr' (Ne.symm hjy)) ?_ w' hS'
          rw [Array.setIfInBounds_comm _ _ hjz, Array.setIfInBounds_comm _ _ hjy]
          exact Hj
def lateGB (ops : Array Oper) (M : List Nat) : Bool :=
  ((List.range ops.size).all fun j => match ops[j]? with
    | some o => o.after.all fun e => !Region.binds .text e || Region.binds .any e || thruB ops o e.on || (M.contains e.on && (match ops[e.on]? with
      | some om => om.after.all fun e' => !Region.binds .text e' || o.after.any fun e'' => Region.binds .any e'' && decide (e''.on = e'.on)
      | none => false))
    | none => true) &&
  (M.all fun m => match ops[m]? with
    | some om => (List.range ops.size).all fun j => decide (j = m) || (match ops[j]? with | some o => (o.after.any fun e => Region.binds .any e && decide (e.on = m)) || om.apart ops o | none => true)
    | none => true)
theorem lateG_of {M : List Nat} (h : lateGB ops M = true) : LateG ops M := by
  unfold lateGB at h
  simp only [Bool.and_eq_true] at h
  obtain ⟨h1, h2⟩ := h
  refine ⟨fun j o ho e he hb => ?_, fun m hM om hom j o ho hj hno => ?_⟩
  · have := List.all_eq_true.1 h1 j (List.mem_range.2 (Array.getElem?_eq_some_iff.1 ho).1)
    simp only [ho] at this
    have := Array.all_eq_true'.1 this e he
    simp only [hb, Bool.not_true, Bool.false_or, Bool.or_eq_true, Bool.and_eq_true] at this
    rcases this with (h3 | h3) | ⟨h3, h4⟩
    · exact Or.inl h3
    · exact Or.inr (Or.inl (thru_of h3))
    · refine Or.inr (Or.inr ⟨by simpa using h3, ?_⟩)
      cases hom : ops[e.on]? with
      | none => rw [hom] at h4; cases h4
      | some om =>
        rw [hom] at h4
        refine ⟨om, rfl, fun e' he' hb' => ?_⟩
        have := Array.all_eq_true'.1 h4 e' he'
        simp only [hb', Bool.not_true, Bool.false_or] at this
        obtain ⟨e'', he'', h6⟩ := Array.any_eq_true'.1 this
        simp only [Bool.and_eq_true, decide_eq_true_eq] at h6
        exact ⟨e'', he'', h6⟩
  · have := List.all_eq_true.1 h2 m hM
    simp only [hom] at this
    have := List.all_eq_true.1 this j (List.mem_range.2 (Array.getElem?_eq_some_iff.1 ho).1)
    simp only [ho, hj, decide_false, Bool.false_or, Bool.or_eq_true] at this
    rcases this with h6 | h6
    · obtain ⟨e', he', h7⟩ := Array.any_eq_true'.1 h6
      simp only [Bool.and_eq_true, decide_eq_true_eq] at h7
      exact absurd h7.2 (hno e' he' h7.1)
    · exact h6
def isExtract : Op → Bool
  | .extract _ _ => true
  | _ => false
def extrB (ops : Array Oper) (M : List Nat) : Bool := M.all fun m => match ops[m]? with | some om => isExtract om.op | none => true
theorem pureM_of {M : List Nat} (h : extrB ops M = true) : PureM P ops M := by
  intro m hM om hom S a v w w' hh
  have := List.all_eq_true.1 h m hM
  simp only [hom] at this
  cases ho : om.op with
  | extract x i => exact extract_pure ho hh
  | _ => rw [ho] at this; simp [isExtract] at this
def apartB (ops : Array Oper) (z n : Nat) : Bool := (List.range n).all fun j => decide (j = z) || (match ops[z]?, ops[j]? with | some oz, some oj => oz.apart ops oj | _, _ => false)
theorem apartB_spec {z n : Nat} {oz : Oper} (hoz : ops[z]? = some oz) (h : apartB ops z n = true) : ∀ j oj, j < n → j ≠ z → ops[j]? = some oj → oz.apart ops oj = true := fun j oj hj hjz hoj => by
  have h1 := List.all_eq_true.1 h j (List.mem_range.2 hj)
  simpa [hoz, hoj, hjz] using h1
def lex2B (ops : Array Oper) (z : Nat) (M : List Nat) : Bool :=
  Region.noSelect ops && decide (z + 2 < ops.size) && Region.sinkB .text ops (z + 2) && Region.chainB .text ops (z + 2) &&
    (Region.ready .text ops (Array.replicate ops.size false)).contains z && (Region.ready .text ops (Array.replicate ops.size false)).contains (z + 1) &&
    apartB ops z (z + 2) && apartB ops (z + 1) (z + 2) && lexT ops (ops.size - (z + 2)) (z + 2) z 0 (((Array.replicate ops.size false).setIfInBounds z true).setIfInBounds (z + 1) true) &&
    lateGB ops M && extrB ops M && (M.all fun m => decide (m < z))
theorem wp_region_A2 {id : Nat} {Q : Exit → Act → World → Prop} {a : Act} {w : World} {l : List Oper} (z : Nat) (M : List Nat) {oz oy : Oper} {rest : List Oper} {obj obj' : Obj} (W0 : World) (hm : P.follows .mixedOrders = true) (hB : lex2B l.toArray z M = true)
    (hS : Below W0.heap.size W0 w.drew) (hlz : l.drop z = oz :: oy :: rest) (hwz : ∀ a, Region.wanted oz (yielded l.toArray a) = true) (hwy : ∀ a, Region.wanted oy (yielded l.toArray a) = true)
    (halz : ∀ (a : Act) W, (execOp a.eval oz).run P W = .ok (.value (.pointer (some ⟨W.heap.size, 0, none⟩))) (W.alloc obj))
    (haly : ∀ (a : Act) W, (execOp a.eval oy).run P W = .ok (.value (.pointer (some ⟨W.heap.size, 0, none⟩))) (W.alloc obj'))
    (hQ : ∀ (om : Oper) c (a : Act) v w, Q (.panic c) (a.put om.dst v) w → Q (.panic c) a w)
    (h : wpHR P l.toArray W0 (TailTwo P l.toArray Q rest W0 oz oy obj obj') (l.take z) a) :
    (Code.region id l.toArray true).wp P Q a w := by
  simp only [lex2B, Bool.and_eq_true, decide_eq_true_eq] at hB
  obtain ⟨⟨⟨⟨⟨⟨⟨⟨⟨⟨⟨hsel, hn⟩, hs⟩, hc⟩, hr0⟩, hr1⟩, hap⟩, hap'⟩, hlex⟩, hlate⟩, hex⟩, hMz⟩ := hB
  have hn' : z + 2 < l.length := by simpa using hn
  have hoz : l.toArray[z]? = some oz := by
    have h0 : (l.drop z)[0]? = some oz := by rw [hlz]; rfl
    simpa [List.getElem?_drop] using h0
  have hoy : l.toArray[z + 1]? = some oy := by
    have h0 : (l.drop z)[1]? = some oy := by rw [hlz]; rfl
    simpa [List.getElem?_drop] using h0
  have hrest : ∀ j, rest[j]? = l.toArray[z + 2 + j]? := fun j => by
    have h0 : (l.drop z)[j + 2]? = rest[j]? := by rw [hlz]; rfl
    rw [← h0]
    simp [List.getElem?_drop]
    congr 1
    omega
  have hrl : rest.length = l.toArray.size - (z + 2) := by
    have := congrArg List.length hlz
    simp at this ⊢
    omega
  have htl : (l.take z).length = z := by simp; omega
  have hMlt : ∀ m ∈ M, m < z := fun m hm => by simpa using List.all_eq_true.1 hMz m hm
  have inv0 : HeadInv .text l.toArray (z + 2) (Array.replicate l.toArray.size false) :=
    ⟨by simp, fun j oj _ hl => (by rw [getD_replicate_false] at hl; cases hl), fun t _ ht => getD_in (by simpa using ht) (getD_replicate_false _ _)⟩
  have hr0' : z ∈ Region.ready .text l.toArray (Array.replicate l.toArray.size false) := by simpa using hr0
  have hr1' : z + 1 ∈ Region.ready .text l.toArray (Array.replicate l.toArray.size false) := by simpa using hr1
  have H := wpAnyR_lexT (g := l.toArray.size - (z + 2)) hsel hs hc hn (l.take z) 0 _ a (fun j hj => by
    have hj' : j < z := by rw [htl] at hj; exact hj
    simp [List.getElem?_take, hj']) (by rw [htl]; omega) ((inv0.set hr0' (by omega)).set (ready_mono hr1' (by omega)) (by omega)) (by rw [htl]; exact hlex) h
  refine wp_region_any hm ?_
  have := wpAny_two (Q := Q) (g := l.toArray.size - (z + 2)) (rest := rest) (T := TailTwo P l.toArray Q rest W0 oz oy obj obj') (lateG_of hlate) (fun m hm => by have := hMlt m hm; omega) (Region.noSelect_spec hsel) hs hc hn ⟨by omega, hoz, apartB_spec hoz hap, fun a => hwz a.tmps, halz⟩ ⟨by omega, hoy, apartB_spec hoy hap', fun a => hwy a.tmps, haly⟩ (by omega) (fun hh => by have := hMlt _ hh; omega) (fun hh => by have := hMlt _ hh; omega) (pureM_of hex) hQ hrest hrl (fun a' hT => hT) (l.take z).length _ a inv0 hr0' hr1' H w.drew hS
  rw [htl, show z + 1 + 1 + (l.toArray.size - (z + 2)) = l.toArray.size by omega] at this
  exact this
end
end Go.Proofs.Ytheddoinnakneaa
/- contract: the direction that has two values, the program -/
namespace Go.Proofs.Ytheddoinnakneaa
open Go.ChangeShapes Go.WideShapes Go.ChangeAt Go.RowKit Go.Joins
set_option linter.unusedVariables false
set_option linter.unusedSimpArgs false
set_option maxRecDepth 4000
theorem turnedW_any (p1 p2 : Int) (w : World) (h1 : Mid p1) (h2 : Mid p2) :
    Calls Try.prog 127 #[.agg #[.int .i64 p1, .int .i64 p2]] w fun e w' => e = .returned (.agg #[.int .i64 (-p2), .int .i64 (p1)]) ∧ Below w.heap.size w w' := by
  obtain ⟨x1, x2⟩ := h1
  obtain ⟨x3, x4⟩ := h2
  go_enter Try.func127, Try.ntmps127
  go_wp2
  exact bodyPost_ret (v := .agg #[.int .i64 (-p2), .int .i64 (p1)]) (by simp [results, Try.results127, go_sem]) rfl ⟨rfl, (by repeat (first | exact Below.refl _ _ | assumption | apply Below.drew | refine Below.alloc ?_ (by simp <;> omega) _))⟩
theorem dw_bd {x n : Int} (hx : -200000 ≤ x ∧ x ≤ 200000) (hn : -80 ≤ n ∧ n ≤ 80) : -16000000 ≤ x * n ∧ x * n ≤ 16000000 :=
  mul_bd (m := 200000) (n := 80) (by omega) (by omega) (by omega) (by omega)
set_option maxHeartbeats 4000000 in
theorem directionWith_any (a1 a2 b1 b2 c1 c2 m n : Int) (w : World) (ha : Sz a1 a2) (hb : Sz b1 b2) (hc : Sz c1 c2) (hm : -80 ≤ m ∧ m ≤ 80) (hn : -80 ≤ n ∧ n ≤ 80) (hd : twI a1 a2 b1 b2 c1 c2 ≠ 0 ∧ -1000000 ≤ twI a1 a2 b1 b2 c1 c2 ∧ twI a1 a2 b1 b2 c1 c2 ≤ 1000000) :
    Calls Try.prog 94 #[.agg #[.int .i64 a1, .int .i64 a2, .int .i64 b1, .int .i64 b2, .int .i64 c1, .int .i64 c2], .int .i64 m, .int .i64 n] w fun e w' => (∃ x y, (x = -(b2 - a2) * n - -(c2 - a2) * m ∧ y = (b1 - a1) * n - (c1 - a1) * m) ∧ e = .returned (.tuple #[.agg #[.int .i64 (x.tdiv (twI a1 a2 b1 b2 c1 c2)), .int .i64 (y.tdiv (twI a1 a2 b1 b2 c1 c2))], .bool (decide (x.tmod (twI a1 a2 b1 b2 c1 c2) = 0) && decide (y.tmod (twI a1 a2 b1 b2 c1 c2) = 0))])) ∧ Below w.heap.size w w' := by
  have K8 := Lib.hid (fun W => twiceThree_any a1 a2 b1 b2 c1 c2 W ha hb hc)
  generalize twI a1 a2 b1 b2 c1 c2 = tw at *
  obtain ⟨x1, x2, x3, x4⟩ := ha
  obtain ⟨x5, x6, x7, x8⟩ := hb
  obtain ⟨x9, x10, x11, x12⟩ := hc
  have K1 := Lib.hid (fun W => minus_any b1 b2 a1 a2 W ⟨by omega, by omega⟩ ⟨by omega, by omega⟩ ⟨by omega, by omega⟩ ⟨by omega, by omega⟩)
  have K2 := Lib.hid (fun W => minus_any c1 c2 a1 a2 W ⟨by omega, by omega⟩ ⟨by omega, by omega⟩ ⟨by omega, by omega⟩ ⟨by omega, by omega⟩)
  have bd1 : -200000 ≤ b1 - a1 ∧ b1 - a1 ≤ 200000 := by omega
  have bd2 : -200000 ≤ b2 - a2 ∧ b2 - a2 ≤ 200000 := by omega
  have be1 : -200000 ≤ c1 - a1 ∧ c1 - a1 ≤ 200000 := by omega
  have be2 : -200000 ≤ c2 - a2 ∧ c2 - a2 ≤ 200000 := by omega
  generalize b1 - a1 = d1 at *
  generalize b2 - a2 = d2 at *
  generalize c1 - a1 = e1 at *
  generalize c2 - a2 = e2 at *
  have q1 := dw_bd (x := -d2) (by omega) hn
  have q2 := dw_bd bd1 hn
  have q3 := dw_bd (x := -e2) (by omega) hm
  have q4 := dw_bd be1 hm
  have K3 := Lib.hid (fun W => turnedW_any d1 d2 W ⟨by omega, by omega⟩ ⟨by omega, by omega⟩)
  have K4 := Lib.hid (fun W => turnedW_any e1 e2 W ⟨by omega, by omega⟩ ⟨by omega, by omega⟩)
  generalize -d2 = d3 at *
  generalize -e2 = e3 at *
  have K5 := Lib.hid (fun W => times_any d3 d1 n W (by omega) (by omega))
  have K6 := Lib.hid (fun W => times_any e3 e1 m W (by omega) (by omega))
  generalize d3 * n = p1 at *
  generalize d1 * n = p2 at *
  generalize e3 * m = p3 at *
  generalize e1 * m = p4 at *
  have K7 := Lib.hid (fun W => minus_any p1 p2 p3 p4 W ⟨by omega, by omega⟩ ⟨by omega, by omega⟩ ⟨by omega, by omega⟩ ⟨by omega, by omega⟩)
  have r1 : Mid (p1 - p3) := ⟨by omega, by omega⟩
  have r2 : Mid (p2 - p4) := ⟨by omega, by omega⟩
  generalize hx : p1 - p3 = x at *
  generalize hy : p2 - p4 = y at *
  have K9 := Lib.hid (fun W => dividedByN_any x y tw W r1 r2 hd)
  have HX := Lib.hid hx
  have HY := Lib.hid hy
  generalize hxd : x.tdiv tw = xd at *
  generalize hyd : y.tdiv tw = yd at *
  generalize hok : (decide (x.tmod tw = 0) && decide (y.tmod tw = 0)) = ok at *
  have HD := Lib.hid (And.intro hxd (And.intro hyd hok))
  clear hxd hyd hok hx hy q1 q2 q3 q4 bd1 bd2 be1 be2 r1 r2 hd x1 x2 x3 x4 x5 x6 x7 x8 x9 x10 x11 x12
  go_enter Try.func94, Try.ntmps94
  go_wp2_with fail
  obtain ⟨W0, hW0⟩ : ∃ W0, W0 = ((w.alloc (.cells #[.int .i64 a1, .int .i64 a2, .int .i64 b1, .int .i64 b2, .int .i64 c1, .int .i64 c2] 107)).alloc (.cells #[.int .i64 0, .int .i64 0] 66)) := ⟨_, rfl⟩
  rw [← hW0]
  have yW00_0 : W0.cell? ⟨w.heap.size, 0, none⟩ = some (.int .i64 a1) := by rw [hW0]; go_simp
  have yW00_1 : W0.cell? ⟨w.heap.size, 1, none⟩ = some (.int .i64 a2) := by rw [hW0]; go_simp
  have yW00_2 : W0.cell? ⟨w.heap.size, 2, none⟩ = some (.int .i64 b1) := by rw [hW0]; go_simp
  have yW00_3 : W0.cell? ⟨w.heap.size, 3, none⟩ = some (.int .i64 b2) := by rw [hW0]; go_simp
  have yW00_4 : W0.cell? ⟨w.heap.size, 4, none⟩ = some (.int .i64 c1) := by rw [hW0]; go_simp
  have yW00_5 : W0.cell? ⟨w.heap.size, 5, none⟩ = some (.int .i64 c2) := by rw [hW0]; go_simp
  have fW00 : ∀ o, W0.frozen? ⟨w.heap.size, o, none⟩ = false := by intro o; rw [hW0]; (repeat rw [frozen?_alloc_cells]); simp [World.frozen?]
  have zW00 : w.heap.size < W0.heap.size := by rw [hW0]; simp <;> omega
  have yW01_0 : W0.cell? ⟨w.heap.size + 1, 0, none⟩ = some (.int .i64 0) := by rw [hW0]; go_simp
  have yW01_1 : W0.cell? ⟨w.heap.size + 1, 1, none⟩ = some (.int .i64 0) := by rw [hW0]; go_simp
  have fW01 : ∀ o, W0.frozen? ⟨w.heap.size + 1, o, none⟩ = false := by intro o; rw [hW0]; (repeat rw [frozen?_alloc_cells]); simp [World.frozen?]
  have zW01 : w.heap.size + 1 < W0.heap.size := by rw [hW0]; simp <;> omega
  have BW0 : Below w.heap.size w W0 := by rw [hW0]; exact (Below.alloc (Below.alloc (Below.refl _ _) (by simp <;> omega) _) (by simp <;> omega) _)
  have eW0 : Hid (W0.heap.size = w.heap.size + 2) := Lib.hid (by rw [hW0]; simp)
  clear hW0
  have R0 := Lib.hid (show Bx2 W0 (w.heap.size + 1) 0 0 from ⟨zW01, yW01_0, yW01_1, fW01⟩)
  have EW := eW0.out
  refine wp_region_A2 10 [] (W0) (obj := .cells #[.int .i64 0, .int .i64 0] 56) (obj' := .cells #[.int .i64 0, .int .i64 0] 56) (by kernel_rfl) (by kernel_rfl) (by repeat (first | exact Below.refl _ _ | apply Below.drew)) rfl (fun _ => by rfl) (fun _ => by rfl) (fun _ _ => by first | rfl | go_simp) (fun _ _ => by first | rfl | go_simp) (by intro om c a v w h; cases hd : om.dst <;> (rw [hd] at h; exact h)) ?_
  simp only [List.take_succ_cons, List.take_zero, List.drop_succ_cons, List.drop_zero]
  first | refine wpR_skip (by rfl) ?_ | (refine wpR_text (v := ?_) (by rfl) (fun W k1 => ?_) ?_; rotate_left; (obtain ⟨hc1, hf1⟩ := bcell k1;  go_simp; refine comes_v ?_; exact Below.refl _ _))
  (try simp only [Act.put, List.setIfInBounds_toArray, List.set_cons_zero, List.set_cons_succ])
  first | refine wpR_skip (by rfl) ?_ | (refine wpR_text (v := ?_) (by rfl) (fun W k1 => ?_) ?_; rotate_left; (obtain ⟨hc1, hf1⟩ := bcell k1;  go_simp; refine comes_v ?_; exact Below.refl _ _))
  (try simp only [Act.put, List.setIfInBounds_toArray, List.set_cons_zero, List.set_cons_succ])
  first | refine wpR_skip (by rfl) ?_ | (refine wpR_text (v := ?_) (by rfl) (fun W k1 => ?_) ?_; rotate_left; (obtain ⟨hc1, hf1⟩ := bcell k1;  go_simp; refine comes_v ?_; exact Below.refl _ _))
  (try simp only [Act.put, List.setIfInBounds_toArray, List.set_cons_zero, List.set_cons_succ])
  first | refine wpR_skip (by rfl) ?_ | (refine wpR_text (v := ?_) (by rfl) (fun W k1 => ?_) ?_; rotate_left; (obtain ⟨hc1, hf1⟩ := bcell k1;  go_simp; refine comes_v ?_; exact Below.refl _ _))
  (try simp only [Act.put, List.setIfInBounds_toArray, List.set_cons_zero, List.set_cons_succ])
  first | refine wpR_skip (by rfl) ?_ | (refine wpR_text (v := .agg #[.int .i64 d1, .int .i64 d2]) (by rfl) (fun W k1 => ?_) ?_; (obtain ⟨hc1, hf1⟩ := bcell k1;  go_simp; exact comes_c ( K1.out _) (fun wn hbn => hbn)))
  (try simp only [Act.put, List.setIfInBounds_toArray, List.set_cons_zero, List.set_cons_succ])
  first | refine wpR_skip (by rfl) ?_ | (refine wpR_text (v := ?_) (by rfl) (fun W k1 => ?_) ?_; rotate_left; (obtain ⟨hc1, hf1⟩ := bcell k1;  go_simp; refine comes_v ?_; exact Below.refl _ _))
  (try simp only [Act.put, List.setIfInBounds_toArray, List.set_cons_zero, List.set_cons_succ])
  first | refine wpR_skip (by rfl) ?_ | (refine wpR_text (v := ?_) (by rfl) (fun W k1 => ?_) ?_; rotate_left; (obtain ⟨hc1, hf1⟩ := bcell k1;  go_simp; refine comes_v ?_; exact Below.refl _ _))
  (try simp only [Act.put, List.setIfInBounds_toArray, List.set_cons_zero, List.set_cons_succ])
  first | refine wpR_skip (by rfl) ?_ | (refine wpR_text (v := ?_) (by rfl) (fun W k1 => ?_) ?_; rotate_left; (obtain ⟨hc1, hf1⟩ := bcell k1;  go_simp; refine comes_v ?_; exact Below.refl _ _))
  (try simp only [Act.put, List.setIfInBounds_toArray, List.set_cons_zero, List.set_cons_succ])
  first | refine wpR_skip (by rfl) ?_ | (refine wpR_text (v := ?_) (by rfl) (fun W k1 => ?_) ?_; rotate_left; (obtain ⟨hc1, hf1⟩ := bcell k1;  go_simp; refine comes_v ?_; exact Below.refl _ _))
  (try simp only [Act.put, List.setIfInBounds_toArray, List.set_cons_zero, List.set_cons_succ])
  first | refine wpR_skip (by rfl) ?_ | (refine wpR_text (v := .agg #[.int .i64 e1, .int .i64 e2]) (by rfl) (fun W k1 => ?_) ?_; (obtain ⟨hc1, hf1⟩ := bcell k1;  go_simp; exact comes_c ( K2.out _) (fun wn hbn => hbn)))
  (try simp only [Act.put, List.setIfInBounds_toArray, List.set_cons_zero, List.set_cons_succ])
  refine wpR_nil ?_
  intro g1 g2 W k1 kg1 kg2 kne kl1 kl2 kb1 kb2
  (try simp only [Act.put, List.setIfInBounds_toArray, List.set_cons_zero, List.set_cons_succ])
  have P1 := Lib.hid (bx2_heap kb1)
  have P2 := Lib.hid (bx2_heap kb2)
  have R1 := Lib.hid (bx2_below R0.out k1)
  have NE := Lib.hid kne
  have NF := Lib.hid (show g1 ≠ w.heap.size + 1 by omega)
  have NG := Lib.hid (show g2 ≠ w.heap.size + 1 by omega)
  have CB := Lib.hid (show W.cell? ⟨w.heap.size, 0, none⟩ = some (.int .i64 a1) ∧ W.cell? ⟨w.heap.size, 1, none⟩ = some (.int .i64 a2) ∧ W.cell? ⟨w.heap.size, 2, none⟩ = some (.int .i64 b1) ∧ W.cell? ⟨w.heap.size, 3, none⟩ = some (.int .i64 b2) ∧ W.cell? ⟨w.heap.size, 4, none⟩ = some (.int .i64 c1) ∧ W.cell? ⟨w.heap.size, 5, none⟩ = some (.int .i64 c2) from ⟨((bcell k1).1 _ _ zW00).trans yW00_0, ((bcell k1).1 _ _ zW00).trans yW00_1, ((bcell k1).1 _ _ zW00).trans yW00_2, ((bcell k1).1 _ _ zW00).trans yW00_3, ((bcell k1).1 _ _ zW00).trans yW00_4, ((bcell k1).1 _ _ zW00).trans yW00_5⟩)
  clear kb1 kb2 kne
  have yc0 := P1.out.c0
  have yc1 := P1.out.c1
  have f1 := P1.out.fz 0
  have f2 := P1.out.fz 1
  have yc2 := P2.out.c0
  have yc3 := P2.out.c1
  have f3 := P2.out.fz 0
  have f4 := P2.out.fz 1
  have zg1 := P1.out.z
  have zg2 := P2.out.z
  have ne := NE.out
  have ne' := Ne.symm ne
  go_wp2_with fail
  obtain ⟨W2, hW2⟩ : ∃ W2, W2 = (((W.setCell ⟨g1, 0, none⟩ (.int .i64 d1)).setCell ⟨g1, 1, none⟩ (.int .i64 d2)).setCell ⟨g2, 0, none⟩ (.int .i64 e1)).setCell ⟨g2, 1, none⟩ (.int .i64 e2) := ⟨_, rfl⟩
  rw [← hW2]
  have hB2 : Below W0.heap.size W0 W2 := by rw [hW2]; exact below_set2b (below_set2b k1 g1 kg1 _ _) g2 kg2 _ _
  have PA := Lib.hid (show Bx2 W2 g1 d1 d2 by rw [hW2]; exact bx2_other (bx2_other (bx2_store P1.out d1 d2) _ _ (Ne.symm NE.out)) _ _ (Ne.symm NE.out))
  have PB := Lib.hid (show Bx2 W2 g2 e1 e2 by rw [hW2]; exact bx2_store (bx2_other (bx2_other P2.out _ _ NE.out) _ _ NE.out) e1 e2)
  have CR := Lib.hid (show W2.cell? ⟨w.heap.size, 0, none⟩ = some (.int .i64 a1) ∧ W2.cell? ⟨w.heap.size, 1, none⟩ = some (.int .i64 a2) ∧ W2.cell? ⟨w.heap.size, 2, none⟩ = some (.int .i64 b1) ∧ W2.cell? ⟨w.heap.size, 3, none⟩ = some (.int .i64 b2) ∧ W2.cell? ⟨w.heap.size, 4, none⟩ = some (.int .i64 c1) ∧ W2.cell? ⟨w.heap.size, 5, none⟩ = some (.int .i64 c2) from ⟨((bcell hB2).1 _ _ zW00).trans yW00_0, ((bcell hB2).1 _ _ zW00).trans yW00_1, ((bcell hB2).1 _ _ zW00).trans yW00_2, ((bcell hB2).1 _ _ zW00).trans yW00_3, ((bcell hB2).1 _ _ zW00).trans yW00_4, ((bcell hB2).1 _ _ zW00).trans yW00_5⟩)
  have R2 := Lib.hid (bx2_below R0.out hB2)
  have BW2 : Below w.heap.size w W2 := BW0.trans (hB2.mono BW0.size)
  have zc : w.heap.size < W2.heap.size := by have := BW2.size; have := hB2.size; omega
  clear hW2 yc0 yc1 f1 f2 yc2 yc3 f3 f4 zg1 zg2 ne ne' P1 P2 NE NF NG k1 kg1 kg2 kl1 kl2 hB2 zW00 zW01 BW0 EW eW0 R0 yW00_0 yW00_1 yW00_2 yW00_3 yW00_4 yW00_5 yW01_0 yW01_1 fW00 fW01
  have yc0 := PA.out.c0
  have yc1 := PA.out.c1
  have yc2 := PB.out.c0
  have yc3 := PB.out.c1
  have z1 := PA.out.z
  have z2 := PB.out.z
  refine wp_region_AL 9 (W2) (obj := .cells #[.int .i64 0, .int .i64 0] 56) (by kernel_rfl) (by kernel_rfl) (by repeat (first | exact Below.refl _ _ | apply Below.drew)) rfl (fun _ => by rfl) (fun _ _ => by first | rfl | go_simp) ?_
  simp only [List.take_succ_cons, List.take_zero, List.drop_succ_cons, List.drop_zero]
  first | refine wpR_skip (by rfl) ?_ | (refine wpR_text (v := ?_) (by rfl) (fun W k1 => ?_) ?_; rotate_left; (obtain ⟨hc1, hf1⟩ := bcell k1;  go_simp; refine comes_v ?_; exact Below.refl _ _))
  (try simp only [Act.put, List.setIfInBounds_toArray, List.set_cons_zero, List.set_cons_succ])
  first | refine wpR_skip (by rfl) ?_ | (refine wpR_text (v := .agg #[.int .i64 d3, .int .i64 d1]) (by rfl) (fun W k1 => ?_) ?_; (obtain ⟨hc1, hf1⟩ := bcell k1;  go_simp; exact comes_c ( K3.out _) (fun wn hbn => hbn)))
  (try simp only [Act.put, List.setIfInBounds_toArray, List.set_cons_zero, List.set_cons_succ])
  first | refine wpR_skip (by rfl) ?_ | (refine wpR_text (v := ?_) (by rfl) (fun W k1 => ?_) ?_; rotate_left; (obtain ⟨hc1, hf1⟩ := bcell k1;  go_simp; refine comes_v ?_; exact Below.refl _ _))
  (try simp only [Act.put, List.setIfInBounds_toArray, List.set_cons_zero, List.set_cons_succ])
  first | refine wpR_skip (by rfl) ?_ | (refine wpR_text (v := .agg #[.int .i64 p1, .int .i64 p2]) (by rfl) (fun W k1 => ?_) ?_; (obtain ⟨hc1, hf1⟩ := bcell k1;  go_simp; exact comes_c ( K5.out _) (fun wn hbn => hbn)))
  (try simp only [Act.put, List.setIfInBounds_toArray, List.set_cons_zero, List.set_cons_succ])
  first | refine wpR_skip (by rfl) ?_ | (refine wpR_text (v := ?_) (by rfl) (fun W k1 => ?_) ?_; rotate_left; (obtain ⟨hc1, hf1⟩ := bcell k1;  go_simp; refine comes_v ?_; exact Below.refl _ _))
  (try simp only [Act.put, List.setIfInBounds_toArray, List.set_cons_zero, List.set_cons_succ])
  first | refine wpR_skip (by rfl) ?_ | (refine wpR_text (v := .agg #[.int .i64 e3, .int .i64 e1]) (by rfl) (fun W k1 => ?_) ?_; (obtain ⟨hc1, hf1⟩ := bcell k1;  go_simp; exact comes_c ( K4.out _) (fun wn hbn => hbn)))
  (try simp only [Act.put, List.setIfInBounds_toArray, List.set_cons_zero, List.set_cons_succ])
  first | refine wpR_skip (by rfl) ?_ | (refine wpR_text (v := ?_) (by rfl) (fun W k1 => ?_) ?_; rotate_left; (obtain ⟨hc1, hf1⟩ := bcell k1;  go_simp; refine comes_v ?_; exact Below.refl _ _))
  (try simp only [Act.put, List.setIfInBounds_toArray, List.set_cons_zero, List.set_cons_succ])
  first | refine wpR_skip (by rfl) ?_ | (refine wpR_text (v := .agg #[.int .i64 p3, .int .i64 p4]) (by rfl) (fun W k1 => ?_) ?_; (obtain ⟨hc1, hf1⟩ := bcell k1;  go_simp; exact comes_c ( K6.out _) (fun wn hbn => hbn)))
  (try simp only [Act.put, List.setIfInBounds_toArray, List.set_cons_zero, List.set_cons_succ])
  first | refine wpR_skip (by rfl) ?_ | (refine wpR_text (v := .agg #[.int .i64 x, .int .i64 y]) (by rfl) (fun W k1 => ?_) ?_; (obtain ⟨hc1, hf1⟩ := bcell k1;  go_simp; exact comes_c ( K7.out _) (fun wn hbn => hbn)))
  (try simp only [Act.put, List.setIfInBounds_toArray, List.set_cons_zero, List.set_cons_succ])
  refine wpR_nil ?_
  intro W1 W k1 k2
  (try simp only [Act.put, List.setIfInBounds_toArray, List.set_cons_zero, List.set_cons_succ])
  have hal := alB_below k1 k2
  have PN : Bx2 W W1.heap.size 0 0 := bx2_below (bx2_new W1 0 0 56) k2
  obtain ⟨g3, hg3⟩ : ∃ g, g = W1.heap.size := ⟨_, rfl⟩
  rw [← hg3] at PN hal ⊢
  clear hg3 k1 k2 yc0 yc1 yc2 yc3 z1 z2
  have PNH := Lib.hid PN
  have HAL := Lib.hid hal
  clear PN hal
  have yc0 := PNH.out.c0
  have yc1 := PNH.out.c1
  have f1 := PNH.out.fz 0
  have f2 := PNH.out.fz 1
  have zg3 := PNH.out.z
  go_wp2_with fail
  obtain ⟨W3, hW3⟩ : ∃ W3, W3 = (W.setCell ⟨g3, 0, none⟩ (.int .i64 x)).setCell ⟨g3, 1, none⟩ (.int .i64 y) := ⟨_, rfl⟩
  rw [← hW3]
  have hB3 : Below W2.heap.size W2 W3 := by rw [hW3]; exact below_set2b HAL.out.1 g3 HAL.out.2.1 _ _
  have PX := Lib.hid (show Bx2 W3 g3 x y by rw [hW3]; exact bx2_store PNH.out x y)
  have CS := Lib.hid (show W3.cell? ⟨w.heap.size, 0, none⟩ = some (.int .i64 a1) ∧ W3.cell? ⟨w.heap.size, 1, none⟩ = some (.int .i64 a2) ∧ W3.cell? ⟨w.heap.size, 2, none⟩ = some (.int .i64 b1) ∧ W3.cell? ⟨w.heap.size, 3, none⟩ = some (.int .i64 b2) ∧ W3.cell? ⟨w.heap.size, 4, none⟩ = some (.int .i64 c1) ∧ W3.cell? ⟨w.heap.size, 5, none⟩ = some (.int .i64 c2) from ⟨((bcell hB3).1 _ _ zc).trans CR.out.1, ((bcell hB3).1 _ _ zc).trans CR.out.2.1, ((bcell hB3).1 _ _ zc).trans CR.out.2.2.1, ((bcell hB3).1 _ _ zc).trans CR.out.2.2.2.1, ((bcell hB3).1 _ _ zc).trans CR.out.2.2.2.2.1, ((bcell hB3).1 _ _ zc).trans CR.out.2.2.2.2.2⟩)
  have R3 := Lib.hid (bx2_below R2.out hB3)
  have BW3 : Below w.heap.size w W3 := BW2.trans (hB3.mono BW2.size)
  have zc3 : w.heap.size < W3.heap.size := by have := hB3.size; omega
  clear hW3 yc0 yc1 f1 f2 zg3 PNH HAL CR R2 BW2 zc hB3 PA PB
  obtain ⟨b0, b1', b2', b3', b4', b5'⟩ := CS.out
  have yc0 := PX.out.c0
  have yc1 := PX.out.c1
  have z1 := PX.out.z
  refine wp_region_AM 12 11 (W3) (obj := .cells #[.int .i64 0, .int .i64 0] 56) (by kernel_rfl) (by kernel_rfl) (by repeat (first | exact Below.refl _ _ | apply Below.drew)) rfl rfl (fun _ => by rfl) (fun _ _ => by first | rfl | go_simp) (fun S a v w w2 h => extract_pure rfl h) (fun _ _ _ _ h => h) ?_
  simp only [List.take_succ_cons, List.take_zero, List.drop_succ_cons, List.drop_zero]
  first | refine wpR_skip (by rfl) ?_ | (refine wpR_text (v := ?_) (by rfl) (fun W k1 => ?_) ?_; rotate_left; (obtain ⟨hc1, hf1⟩ := bcell k1;  go_simp; refine comes_v ?_; exact Below.refl _ _))
  (try simp only [Act.put, List.setIfInBounds_toArray, List.set_cons_zero, List.set_cons_succ])
  first | refine wpR_skip (by rfl) ?_ | (refine wpR_text (v := ?_) (by rfl) (fun W k1 => ?_) ?_; rotate_left; (obtain ⟨hc1, hf1⟩ := bcell k1;  go_simp; refine comes_v ?_; exact Below.refl _ _))
  (try simp only [Act.put, List.setIfInBounds_toArray, List.set_cons_zero, List.set_cons_succ])
  first | refine wpR_skip (by rfl) ?_ | (refine wpR_text (v := ?_) (by rfl) (fun W k1 => ?_) ?_; rotate_left; (obtain ⟨hc1, hf1⟩ := bcell k1;  go_simp; refine comes_v ?_; exact Below.refl _ _))
  (try simp only [Act.put, List.setIfInBounds_toArray, List.set_cons_zero, List.set_cons_succ])
  first | refine wpR_skip (by rfl) ?_ | (refine wpR_text (v := ?_) (by rfl) (fun W k1 => ?_) ?_; rotate_left; (obtain ⟨hc1, hf1⟩ := bcell k1;  go_simp; refine comes_v ?_; exact Below.refl _ _))
  (try simp only [Act.put, List.setIfInBounds_toArray, List.set_cons_zero, List.set_cons_succ])
  first | refine wpR_skip (by rfl) ?_ | (refine wpR_text (v := ?_) (by rfl) (fun W k1 => ?_) ?_; rotate_left; (obtain ⟨hc1, hf1⟩ := bcell k1;  go_simp; refine comes_v ?_; exact Below.refl _ _))
  (try simp only [Act.put, List.setIfInBounds_toArray, List.set_cons_zero, List.set_cons_succ])
  first | refine wpR_skip (by rfl) ?_ | (refine wpR_text (v := ?_) (by rfl) (fun W k1 => ?_) ?_; rotate_left; (obtain ⟨hc1, hf1⟩ := bcell k1;  go_simp; refine comes_v ?_; exact Below.refl _ _))
  (try simp only [Act.put, List.setIfInBounds_toArray, List.set_cons_zero, List.set_cons_succ])
  first | refine wpR_skip (by rfl) ?_ | (refine wpR_text (v := ?_) (by rfl) (fun W k1 => ?_) ?_; rotate_left; (obtain ⟨hc1, hf1⟩ := bcell k1;  go_simp; refine comes_v ?_; exact Below.refl _ _))
  (try simp only [Act.put, List.setIfInBounds_toArray, List.set_cons_zero, List.set_cons_succ])
  first | refine wpR_skip (by rfl) ?_ | (refine wpR_text (v := .int .i64 tw) (by rfl) (fun W k1 => ?_) ?_; (obtain ⟨hc1, hf1⟩ := bcell k1;  go_simp; exact comes_c ( K8.out _) (fun wn hbn => hbn)))
  (try simp only [Act.put, List.setIfInBounds_toArray, List.set_cons_zero, List.set_cons_succ])
  first | refine wpR_skip (by rfl) ?_ | (refine wpR_text (v := .tuple #[.agg #[.int .i64 xd, .int .i64 yd], .bool ok]) (by rfl) (fun W k1 => ?_) ?_; (obtain ⟨hc1, hf1⟩ := bcell k1;  go_simp; exact comes_c ( K9.out _) (fun wn hbn => hbn)))
  (try simp only [Act.put, List.setIfInBounds_toArray, List.set_cons_zero, List.set_cons_succ])
  first | refine wpR_skip (by rfl) ?_ | (refine wpR_text (v := ?_) (by rfl) (fun W k1 => ?_) ?_; rotate_left; (obtain ⟨hc1, hf1⟩ := bcell k1;  go_simp; refine comes_v ?_; exact Below.refl _ _))
  (try simp only [Act.put, List.setIfInBounds_toArray, List.set_cons_zero, List.set_cons_succ])
  first | refine wpR_skip (by rfl) ?_ | (refine wpR_text (v := ?_) (by rfl) (fun W k1 => ?_) ?_; rotate_left; (obtain ⟨hc1, hf1⟩ := bcell k1;  go_simp; refine comes_v ?_; exact Below.refl _ _))
  (try simp only [Act.put, List.setIfInBounds_toArray, List.set_cons_zero, List.set_cons_succ])
  first | refine wpR_skip (by rfl) ?_ | (refine wpR_text (v := ?_) (by rfl) (fun W k1 => ?_) ?_; rotate_left; (obtain ⟨hc1, hf1⟩ := bcell k1;  go_simp; refine comes_v ?_; exact Below.refl _ _))
  (try simp only [Act.put, List.setIfInBounds_toArray, List.set_cons_zero, List.set_cons_succ])
  refine wpR_nil ?_
  intro W1 W k1 k2
  (try simp only [Act.put, List.setIfInBounds_toArray, List.set_cons_zero, List.set_cons_succ])
  have hal := alB_below k1 k2
  have PN : Bx2 W W1.heap.size 0 0 := bx2_below (bx2_new W1 0 0 56) k2
  obtain ⟨g4, hg4⟩ : ∃ g, g = W1.heap.size := ⟨_, rfl⟩
  rw [← hg4] at PN hal ⊢
  clear hg4 k1 k2 yc0 yc1 z1 b0 b1' b2' b3' b4' b5'
  have PNH := Lib.hid PN
  have HAL := Lib.hid hal
  have R4 := Lib.hid (bx2_below R3.out hal.1)
  have N4 := Lib.hid (show g4 ≠ w.heap.size + 1 by have := R3.out.z; have := hal.2.1; omega)
  clear PN hal
  have yc0 := PNH.out.c0
  have yc1 := PNH.out.c1
  have f1 := PNH.out.fz 0
  have f2 := PNH.out.fz 1
  have zg4 := PNH.out.z
  have yc2 := R4.out.c0
  have yc3 := R4.out.c1
  have f3 := R4.out.fz 0
  have f4 := R4.out.fz 1
  have zr := R4.out.z
  have ne := N4.out
  have ne' := Ne.symm ne
  go_wp2_with fail
  obtain ⟨W4, hW4⟩ : ∃ W4, W4 = (((W.setCell ⟨g4, 0, none⟩ (.int .i64 xd)).setCell ⟨g4, 1, none⟩ (.int .i64 yd)).setCell ⟨w.heap.size + 1, 0, none⟩ (.int .i64 xd)).setCell ⟨w.heap.size + 1, 1, none⟩ (.int .i64 yd) := ⟨_, rfl⟩
  rw [← hW4]
  have RF : Bx2 W4 (w.heap.size + 1) xd yd := by rw [hW4]; exact bx2_store (bx2_other (bx2_other R4.out _ _ N4.out) _ _ N4.out) xd yd
  refine bodyPost_ret (v := .tuple #[.agg #[.int .i64 xd, .int .i64 yd], .bool ok]) (by simp [results, Try.results94, go_sem, RF.c0, RF.c1, RF.z]) rfl ⟨⟨x, y, ⟨rfl, rfl⟩, by rw [HD.out.1, HD.out.2.1, HD.out.2.2]⟩, ?_⟩
  rw [hW4]
  have hB4 := BW3.trans (HAL.out.1.mono BW3.size)
  exact below_set2b (below_set2b hB4 g4 (by have := BW3.size; have := HAL.out.2.1; omega) _ _) (w.heap.size + 1) (by omega) _ _
end Go.Proofs.Ytheddoinnakneaa
/- contracts: the program puts points in order -/
namespace Go.Proofs.Ytheddoinnakneaa
open Go.ChangeShapes Go.WideShapes Go.ChangeAt Go.RowKit Go.Joins
set_option linter.unusedVariables false
set_option linter.unusedSimpArgs false
set_option maxRecDepth 4000
section
open Go.Shelf
def layClone_ren : Go.Shelf.Ren := ⟨fun | 41 => 116 | n => n, fun | 22 => 26 | 23 => 56 | 4 => 4 | n => n, fun | n => n⟩
theorem layClone : Go.Proofs.SlLaysE0.n41 Try.prog layClone_ren := {
  mixed := by kernel_rfl
  f41 := ⟨Try.f116.name, by decide, Try.func116.trans (congrArg some (by kernel_rfl))⟩
  t4 := Try.underlying4
  a4 := Try.isAgg4
  z4 := Try.sizeOf4
  v4 := Try.zeroValue4
  t22 := Try.underlying26
  a22 := Try.isAgg26
  z22 := Try.sizeOf26
  v22 := Try.zeroValue26 }
end
section
open Go.Shelf
def laySort_ren : Go.Shelf.Ren := ⟨fun | 6 => 117 | 15 => 131 | 14 => 139 | 28 => 151 | 29 => 152 | 20 => 154 | 21 => 155 | 22 => 156 | 23 => 157 | 24 => 158 | 25 => 159 | 26 => 160 | 27 => 161 | 46 => 168 | 47 => 164 | 48 => 165 | 49 => 169 | 50 => 170 | 57 => 173 | n => n, fun | 22 => 26 | 24 => 56 | 25 => 98 | 3 => 3 | 39 => 138 | 0 => 0 | 53 => 151 | 55 => 153 | 4 => 4 | 46 => 145 | 45 => 144 | 50 => 24 | 5 => 5 | 9 => 9 | 66 => 161 | 70 => 165 | 76 => 169 | 77 => 90 | n => n, fun | n => n⟩
theorem laySort : Go.Proofs.SlLaysF0.n6 Try.prog laySort_ren := {
  mixed := by kernel_rfl
  f6 := ⟨Try.f117.name, by decide, Try.func117.trans (congrArg some (by kernel_rfl))⟩
  f14 := ⟨Try.f139.name, by decide, Try.func139.trans (congrArg some (by kernel_rfl))⟩
  f15 := Try.func131.trans (congrArg some (by kernel_rfl))
  f20 := ⟨Try.f154.name, by decide, Try.func154.trans (congrArg some (by kernel_rfl))⟩
  f21 := ⟨Try.f155.name, by decide, Try.func155.trans (congrArg some (by kernel_rfl))⟩
  f22 := ⟨Try.f156.name, by decide, Try.func156.trans (congrArg some (by kernel_rfl))⟩
  f23 := ⟨Try.f157.name, by decide, Try.func157.trans (congrArg some (by kernel_rfl))⟩
  f24 := ⟨Try.f158.name, by decide, Try.func158.trans (congrArg some (by kernel_rfl))⟩
  f25 := ⟨Try.f159.name, by decide, Try.func159.trans (congrArg some (by kernel_rfl))⟩
  f26 := ⟨Try.f160.name, by decide, Try.func160.trans (congrArg some (by kernel_rfl))⟩
  f27 := ⟨Try.f161.name, by decide, Try.func161.trans (congrArg some (by kernel_rfl))⟩
  f28 := Try.func151.trans (congrArg some (by kernel_rfl))
  f29 := Try.func152.trans (congrArg some (by kernel_rfl))
  f46 := ⟨Try.f168.name, by decide, Try.func168.trans (congrArg some (by kernel_rfl))⟩
  f47 := Try.func164.trans (congrArg some (by kernel_rfl))
  f48 := Try.func165.trans (congrArg some (by kernel_rfl))
  f49 := ⟨Try.f169.name, by decide, Try.func169.trans (congrArg some (by kernel_rfl))⟩
  f50 := ⟨Try.f170.name, by decide, Try.func170.trans (congrArg some (by kernel_rfl))⟩
  f57 := ⟨Try.f173.name, by decide, Try.func173.trans (congrArg some (by kernel_rfl))⟩
  t0 := Try.underlying0
  a0 := Try.isAgg0
  z0 := Try.sizeOf0
  v0 := Try.zeroValue0
  t3 := Try.underlying3
  a3 := Try.isAgg3
  z3 := Try.sizeOf3
  v3 := Try.zeroValue3
  t4 := Try.underlying4
  a4 := Try.isAgg4
  z4 := Try.sizeOf4
  v4 := Try.zeroValue4
  t5 := Try.underlying5
  a5 := Try.isAgg5
  z5 := Try.sizeOf5
  v5 := Try.zeroValue5
  t9 := Try.underlying9
  a9 := Try.isAgg9
  z9 := Try.sizeOf9
  v9 := Try.zeroValue9
  t22 := Try.underlying26
  a22 := Try.isAgg26
  z22 := Try.sizeOf26
  v22 := Try.zeroValue26
  t25 := Try.underlying98
  a25 := Try.isAgg98
  z25 := Try.sizeOf98
  v25 := Try.zeroValue98
  t39 := Try.underlying138
  a39 := Try.isAgg138
  z39 := Try.sizeOf138
  v39 := Try.zeroValue138
  t45 := Try.underlying144
  a45 := Try.isAgg144
  z45 := Try.sizeOf144
  v45 := Try.zeroValue144
  t46 := Try.underlying145
  a46 := Try.isAgg145
  z46 := Try.sizeOf145
  v46 := Try.zeroValue145
  t50 := Try.underlying24
  a50 := Try.isAgg24
  z50 := Try.sizeOf24
  v50 := Try.zeroValue24
  t53 := Try.underlying151
  a53 := Try.isAgg151
  z53 := Try.sizeOf151
  v53 := Try.zeroValue151
  t55 := Try.underlying153
  a55 := Try.isAgg153
  z55 := Try.sizeOf153
  v55 := Try.zeroValue153
  t66 := Try.underlying161
  a66 := Try.isAgg161
  z66 := Try.sizeOf161
  v66 := Try.zeroValue161
  t70 := Try.underlying165
  a70 := Try.isAgg165
  z70 := Try.sizeOf165
  v70 := Try.zeroValue165
  t76 := Try.underlying169
  a76 := Try.isAgg169
  z76 := Try.sizeOf169
  v76 := Try.zeroValue169
  t77 := Try.underlying90
  a77 := Try.isAgg90
  z77 := Try.sizeOf90
  v77 := Try.zeroValue90 }
end
/-- draws and new blocks -/
def Gw (w W : World) : Prop := ∃ q os, W = Go.Sort.grow (w.drewN q) os
theorem Gw.refl (w : World) : Gw w w := ⟨0, #[], by rw [Go.Sort.grow_empty]; rfl⟩
theorem Gw.drew {w W : World} (h : Gw w W) : Gw w W.drew := by
  obtain ⟨q, os, rfl⟩ := h
  exact ⟨q + 1, os, rfl⟩
theorem Gw.alloc {w W : World} (h : Gw w W) (o : Obj) : Gw w (W.alloc o) := by
  obtain ⟨q, os, rfl⟩ := h
  exact ⟨q, os ++ #[o], by rw [Go.Sort.alloc_eq_grow, Go.Sort.grow_grow]⟩
theorem Gw.trans {a b c : World} (h : Gw a b) (h' : Gw b c) : Gw a c := by
  obtain ⟨q, os, rfl⟩ := h
  obtain ⟨q', os', rfl⟩ := h'
  refine ⟨q + q', os ++ os', ?_⟩
  rw [← Go.Sort.grow_grow]
  congr 1
  show Go.Sort.grow ((a.drewN q).drewN q') os = _
  rw [World.drewN_drewN]
theorem Gw.below {w W : World} (h : Gw w W) : Below w.heap.size w W := by
  obtain ⟨q, os, rfl⟩ := h
  refine ⟨rfl, rfl, rfl, ?_, fun k hk => ?_⟩
  · simp
  · unfold Go.Sort.grow
    simp only
    rw [Array.getElem?_append_left (by simpa using hk)]
    rfl
set_option maxHeartbeats 4000000 in
theorem pegCompareW_any (a1 a2 b1 b2 : Int) (w : World) :
    Calls Try.prog 118 #[.agg #[.int .i64 a1, .int .i64 a2], .agg #[.int .i64 b1, .int .i64 b2]] w fun e w' => e = .returned (.int .i64 (cmpP (a1, a2) (b1, b2))) ∧ Gw w w' := by
  have K1 := Lib.hid (fun W => compare_any a1 b1 W)
  have K2 := Lib.hid (fun W => compare_any a2 b2 W)
  have KO : Hid (∀ (g n : Nat) (W : World) (h0 : W.cell? ⟨g, 0, none⟩ = some (.int .i64 (sgI (a1 - b1)))) (h1 : W.cell? ⟨g, 1, none⟩ = some (.int .i64 (sgI (a2 - b2)))), Calls Try.prog 132 #[.slice (some ⟨g, 0, none⟩) 2 n] W fun e w' => e = .returned (.int .i64 (cmpP (a1, a2) (b1, b2))) ∧ W = w') := Lib.hid (fun g n W h0 h1 => or2_any g n (sgI (a1 - b1)) (sgI (a2 - b2)) W h0 h1)
  generalize cmpP (a1, a2) (b1, b2) = r at *
  generalize sgI (a1 - b1) = x at *
  generalize sgI (a2 - b2) = y at *
  go_enter Try.func118, Try.ntmps118
  go_wp2_with fail
  obtain ⟨Wp, hWp⟩ : ∃ Wp, Wp = ((w.alloc (.cells #[.int .i64 a1, .int .i64 a2] 56)).alloc (.cells #[.int .i64 b1, .int .i64 b2] 56)) := ⟨_, rfl⟩
  rw [← hWp]
  have yWp0_0 : Wp.cell? ⟨w.heap.size, 0, none⟩ = some (.int .i64 a1) := by rw [hWp]; go_simp
  have yWp0_1 : Wp.cell? ⟨w.heap.size, 1, none⟩ = some (.int .i64 a2) := by rw [hWp]; go_simp
  have fWp0 : ∀ o, Wp.frozen? ⟨w.heap.size, o, none⟩ = false := by intro o; rw [hWp]; (repeat rw [frozen?_alloc_cells]); simp [World.frozen?]
  have zWp0 : w.heap.size < Wp.heap.size := by rw [hWp]; simp <;> omega
  have yWp1_0 : Wp.cell? ⟨w.heap.size + 1, 0, none⟩ = some (.int .i64 b1) := by rw [hWp]; go_simp
  have yWp1_1 : Wp.cell? ⟨w.heap.size + 1, 1, none⟩ = some (.int .i64 b2) := by rw [hWp]; go_simp
  have fWp1 : ∀ o, Wp.frozen? ⟨w.heap.size + 1, o, none⟩ = false := by intro o; rw [hWp]; (repeat rw [frozen?_alloc_cells]); simp [World.frozen?]
  have zWp1 : w.heap.size + 1 < Wp.heap.size := by rw [hWp]; simp <;> omega
  have BWp : Below w.heap.size w Wp := by rw [hWp]; exact (Below.alloc (Below.alloc (Below.refl _ _) (by simp <;> omega) _) (by simp <;> omega) _)
  have eWp : Hid (Wp.heap.size = w.heap.size + 2) := Lib.hid (by rw [hWp]; simp)
  have GWp : Gw w Wp := by rw [hWp]; exact (Gw.alloc (Gw.alloc (Gw.refl _) _) _)
  clear hWp
  refine wp_region_BT 10 (fun W => Gw (Wp) W) (by kernel_rfl) (by kernel_rfl) (by repeat (first | exact Gw.refl _ | apply Gw.drew)) ?_
  simp only [List.take_succ_cons, List.take_zero, List.drop_succ_cons, List.drop_zero]
  first | refine wpH_skip (by rfl) ?_ | (refine wpH_text (v := ?_) (by rfl) (fun W k1 => ?_) ?_; rotate_left; (obtain ⟨hc1, hf1⟩ := bcell (Gw.below k1);  go_simp; refine comes_v ?_; exact k1))
  (try simp only [Act.put, List.setIfInBounds_toArray, List.set_cons_zero, List.set_cons_succ])
  first | refine wpH_skip (by rfl) ?_ | (refine wpH_text (v := ?_) (by rfl) (fun W k1 => ?_) ?_; rotate_left; (obtain ⟨hc1, hf1⟩ := bcell (Gw.below k1);  go_simp; refine comes_v ?_; exact k1))
  (try simp only [Act.put, List.setIfInBounds_toArray, List.set_cons_zero, List.set_cons_succ])
  first | refine wpH_skip (by rfl) ?_ | (refine wpH_text (v := ?_) (by rfl) (fun W k1 => ?_) ?_; rotate_left; (obtain ⟨hc1, hf1⟩ := bcell (Gw.below k1);  go_simp; refine comes_v ?_; exact k1))
  (try simp only [Act.put, List.setIfInBounds_toArray, List.set_cons_zero, List.set_cons_succ])
  first | refine wpH_skip (by rfl) ?_ | (refine wpH_text (v := ?_) (by rfl) (fun W k1 => ?_) ?_; rotate_left; (obtain ⟨hc1, hf1⟩ := bcell (Gw.below k1);  go_simp; refine comes_v ?_; exact k1))
  (try simp only [Act.put, List.setIfInBounds_toArray, List.set_cons_zero, List.set_cons_succ])
  first | refine wpH_skip (by rfl) ?_ | (refine wpH_text (v := .int .i64 x) (by rfl) (fun W k1 => ?_) ?_; (obtain ⟨hc1, hf1⟩ := bcell (Gw.below k1);  go_simp; exact comes_q ( K1.out _) k1))
  (try simp only [Act.put, List.setIfInBounds_toArray, List.set_cons_zero, List.set_cons_succ])
  first | refine wpH_skip (by rfl) ?_ | (refine wpH_text (v := ?_) (by rfl) (fun W k1 => ?_) ?_; rotate_left; (obtain ⟨hc1, hf1⟩ := bcell (Gw.below k1);  go_simp; refine comes_v ?_; exact k1))
  (try simp only [Act.put, List.setIfInBounds_toArray, List.set_cons_zero, List.set_cons_succ])
  first | refine wpH_skip (by rfl) ?_ | (refine wpH_text (v := ?_) (by rfl) (fun W k1 => ?_) ?_; rotate_left; (obtain ⟨hc1, hf1⟩ := bcell (Gw.below k1);  go_simp; refine comes_v ?_; exact k1))
  (try simp only [Act.put, List.setIfInBounds_toArray, List.set_cons_zero, List.set_cons_succ])
  first | refine wpH_skip (by rfl) ?_ | (refine wpH_text (v := ?_) (by rfl) (fun W k1 => ?_) ?_; rotate_left; (obtain ⟨hc1, hf1⟩ := bcell (Gw.below k1);  go_simp; refine comes_v ?_; exact k1))
  (try simp only [Act.put, List.setIfInBounds_toArray, List.set_cons_zero, List.set_cons_succ])
  first | refine wpH_skip (by rfl) ?_ | (refine wpH_text (v := ?_) (by rfl) (fun W k1 => ?_) ?_; rotate_left; (obtain ⟨hc1, hf1⟩ := bcell (Gw.below k1);  go_simp; refine comes_v ?_; exact k1))
  (try simp only [Act.put, List.setIfInBounds_toArray, List.set_cons_zero, List.set_cons_succ])
  first | refine wpH_skip (by rfl) ?_ | (refine wpH_text (v := .int .i64 y) (by rfl) (fun W k1 => ?_) ?_; (obtain ⟨hc1, hf1⟩ := bcell (Gw.below k1);  go_simp; exact comes_q ( K2.out _) k1))
  (try simp only [Act.put, List.setIfInBounds_toArray, List.set_cons_zero, List.set_cons_succ])
  refine wpH_nil ?_
  intro W k1; obtain ⟨hc1, hf1⟩ := bcell (Gw.below k1)
  go_wp2_with fail
  refine (KO.out W.heap.size 2 _ (by go_simp) (by go_simp)).mono ?_; rintro e w2 ⟨rfl, rfl⟩
  have BW := GWp.trans k1
  have B2 := Gw.alloc BW (.cells #[.int .i64 x, .int .i64 y] 3)
  go_wp2_with fail
  go_ret
  exact ⟨rfl, B2⟩
def encP (p : Int × Int) : List Value := [.int .i64 p.1, .int .i64 p.2]
theorem ltPs {x y : Int × Int} : ltOf cmpP x y = true ↔ lxP x y := by unfold ltOf; rw [decide_eq_true_eq]; exact cmpP_lt
theorem ltPf {x y : Int × Int} : ltOf cmpP x y = false ↔ ¬ lxP x y := by rw [← ltPs]; simp
theorem swoP : Go.Sort.SWO (ltOf cmpP) where
  irrefl x := by rw [ltPf]; unfold lxP; omega
  trans x y z h1 h2 := by rw [ltPs] at *; unfold lxP at *; omega
  ntrans x y z h1 h2 := by rw [ltPf] at *; unfold lxP at *; omega
theorem partsP (x y : Int × Int) (h1 : ltOf cmpP x y = false) (h2 : ltOf cmpP y x = false) : x = y := by
  rw [ltPf] at *; unfold lxP at *; exact Prod.ext (by omega) (by omega)
theorem merge_srt {l : List (Int × Int)} (h : l.Nodup) : (l.mergeSort fun x y => !(ltOf cmpP) y x) = srt l := by
  refine sorted_same _ _ ?_ (srt_sorted h) (fun x => ?_)
  · have hp := List.pairwise_mergeSort (le := fun x y => !(ltOf cmpP) y x) (fun a b c h1 h2 => by
      simp only [Bool.not_eq_true'] at *
      exact swoP.ntrans c b a h2 h1) (fun a b => by
      simp only [Bool.or_eq_true, Bool.not_eq_true']
      rw [ltPf, ltPf]
      unfold lxP; omega) l
    have hn : (l.mergeSort fun x y => !(ltOf cmpP) y x).Pairwise (· ≠ ·) := by
      rw [← List.nodup_iff_pairwise_ne]
      exact (List.mergeSort_perm _ _).nodup_iff.2 h
    refine (hp.and hn).imp fun {a b} hab => ?_
    have h1 : ¬ lxP b a := by rw [← ltPf]; simpa using hab.1
    have h2 := hab.2
    unfold lxP at *
    by_cases e1 : a.1 = b.1
    · by_cases e2 : a.2 = b.2
      · exact absurd (Prod.ext e1 e2) h2
      · omega
    · omega
  · rw [srt_mem]; exact (List.mergeSort_perm _ _).mem_iff
section
open Go.Shelf Go.Sort Go.Lib
theorem flatK_size (l : List (Int × Int)) : (flatK encP 2 l.toArray).size = l.length * 2 := by rw [size_flatK]; simp
theorem flatK_at (l : List (Int × Int)) (t : Nat) (h : t < l.length * 2) : (flat l)[t]? = some ((flatK encP 2 l.toArray)[t]!) := by
  have h1 := flat_get l (t / 2) (by omega)
  rw [get_flatK _ _ _ _ (by simpa using h)]
  have ep : l.toArray[t / 2]! = pt l (t / 2) := by
    have hh : t / 2 < l.length := by omega
    unfold pt
    rw [getElem!_pos _ _ (by simpa using hh), List.getElem?_eq_getElem hh]
    simp
  rw [ep]
  rcases Nat.mod_two_eq_zero_or_one t with m | m
  · rw [m]
    have := h1.1
    rw [show t / 2 * 2 = t by omega] at this
    exact this
  · rw [m]
    have := h1.2
    rw [show t / 2 * 2 + 1 = t by omega] at this
    exact this
theorem holds_own {w : World} {base g n cap : Nat} {l : List (Int × Int)} (h : w.ownsRow base 56 2 (.slice (some ⟨g, 0, none⟩) n cap) n (flat l)) (hl : l.length = n) : HoldsK encP 2 w g 0 l.toArray := by
  intro j hj
  rw [flatK_size] at hj
  have hc := World.ownsRow.cellAt h j (by omega)
  rw [flatK_at l j hj] at hc
  rw [Nat.zero_add]
  refine ⟨hc, ?_⟩
  rcases h.2 with ⟨hv, _⟩ | ⟨g', cap', cur, hv, hg, hh, r⟩
  · simp at hv
  · simp only [Value.slice.injEq, Option.some.injEq, Addr.mk.injEq, and_true, true_and] at hv
    obtain ⟨rfl, rfl⟩ := hv
    simp [World.frozen?, hh]
theorem own_sorted {w : World} {base g n cap m : Nat} {os : Array Obj} {l l' : List (Int × Int)} (h : w.ownsRow base 56 2 (.slice (some ⟨g, 0, none⟩) n cap) n (flat l)) (hl' : l'.length = n) :
    (sortWorldK encP 2 w g 0 m l'.toArray os).ownsRow base 56 2 (.slice (some ⟨g, 0, none⟩) n cap) n (flat l') := by
  refine ⟨by rw [flat_len, hl'], .inr ?_⟩
  rcases h.2 with ⟨hv, _⟩ | ⟨g', cap', cur, hv, hg, hh, hc, hm, hs, ht⟩
  · simp at hv
  · simp only [Value.slice.injEq, Option.some.injEq, Addr.mk.injEq, and_true, true_and] at hv
    obtain ⟨rfl, rfl⟩ := hv
    have hlt : g < w.heap.size := by
      rcases Nat.lt_or_ge g w.heap.size with h | h
      · exact h
      · rw [Array.getElem?_eq_none h] at hh; simp at hh
    refine ⟨g, cap, Go.Sort.putCells id 0 (flatK encP 2 l'.toArray) cur, rfl, hg, ?_, hc, hm, by unfold Go.Sort.putCells; rw [Array.size_mapIdx]; exact hs, ?_⟩
    · unfold sortWorldK putRowK Go.Sort.putRow Go.Sort.mapBlock Go.Sort.grow
      simp only
      rw [Array.getElem?_append_left (by rw [Array.size_modify]; exact hlt), Array.getElem?_modify]
      rw [if_pos rfl]
      show Option.map _ w.heap[g]? = _
      rw [hh]
      rfl
    · apply List.ext_getElem?
      intro t
      by_cases h : t < n * 2
      · have hcs : t < cur.size := by rw [hs]; have := Nat.mul_le_mul_right 2 hc; omega
        rw [List.getElem?_take, if_pos h, flatK_at l' t (by omega)]
        unfold Go.Sort.putCells
        rw [Array.getElem?_toList, Array.getElem?_mapIdx, Array.getElem?_eq_getElem hcs]
        simp only [Option.map_some, Option.some.injEq]
        rw [if_pos ⟨Nat.zero_le _, by rw [flatK_size]; omega⟩]
        rfl
      · rw [List.getElem?_take, if_neg h, List.getElem?_eq_none (by rw [flat_len]; omega)]
theorem cmpLaysP (g m : Nat) (w : World) : CmpLays Try.prog 118 #[] encP 2 cmpP g 0 m w := by
  intro k os dk hs x y
  exact pegCompareW_any x.1 x.2 y.1 y.2 _
theorem sort_any (base g n cap : Nat) (l : List (Int × Int)) (w : World) (hl : l.length = n) (hnd : l.Nodup) (hn : n ≤ 1000000) (h : w.ownsRow base 56 2 (.slice (some ⟨g, 0, none⟩) n cap) n (flat l)) :
    Calls Try.prog 117 #[.slice (some ⟨g, 0, none⟩) n cap, .func (.func 118) #[] #[]] w fun e w' =>
      e = .returned (.tuple #[]) ∧ w'.ownsRow base 56 2 (.slice (some ⟨g, 0, none⟩) n cap) n (flat (srt l)) ∧ Below g w w' := by
  have hlt : g < w.heap.size := (World.ownsRow.lt h g rfl).2
  have hsz : l.toArray.size = n := by simpa using hl
  have hS := AnyQ.slices_SortFunc_total laySort 2 (fun _ => by kernel_rfl) (fun _ => by kernel_rfl) encP (fun _ => rfl) (fun x v hv => by simp [encP] at hv; rcases hv with rfl | rfl <;> rfl) cmpP swoP 118 #[] g 0 cap l.toArray w
    (enters_of Try.func118 (by kernel_rfl) rfl) (cmpLaysP g _ w) (holds_own h hl) hlt (by rw [hsz]; omega) partsP
  rw [hsz] at hS
  refine Calls.mono hS ?_
  rintro e w' ⟨rfl, q, os, rfl⟩
  rw [merge_srt hnd]
  refine ⟨rfl, own_sorted h (by rw [srt_len]; exact hl), ?_⟩
  refine ⟨rfl, rfl, rfl, size_sortWorldK_c _ _ _ _ _ _ _ _, fun k hk => ?_⟩
  unfold sortWorldK putRowK Go.Sort.putRow Go.Sort.mapBlock Go.Sort.grow
  simp only
  rw [Array.getElem?_append_left (by rw [Array.size_modify]; show k < w.heap.size; omega), Array.getElem?_modify, if_neg (by omega)]
  rfl
end
set_option maxHeartbeats 4000000 in
theorem clone_any (A : Option Addr) (c n : Nat) (l : List (Int × Int)) (w : World) (hln : l.length = n) (h1 : 1 ≤ n) (hn : n ≤ 1000000) (hR : Rd w w.heap.size A l) :
    Calls Try.prog 116 #[.slice A n c] w fun e w' =>
      ∃ g cap, e = .returned (.slice (some ⟨g, 0, none⟩) n cap) ∧ w'.ownsRow w.heap.size 56 2 (.slice (some ⟨g, 0, none⟩) n cap) n (flat l) ∧ Below w.heap.size w w' := by
  obtain ⟨i0, hi0, hz0, hz1, hz2⟩ := info_parts peg_info
  obtain ⟨b, off, rfl, hb, hc⟩ := hR (by omega)
  have hC := AnyE.slices_Clone layClone i0 (.agg #[.int .i64 0, .int .i64 0]) 2 16 hi0 hz0 hz1 hz2 rfl (by decide) (fun _ => by kernel_rfl) b off n c (flat l) w (by rw [flat_len, hln]) (by unfold maxLen; omega) (by omega)
    (fun j u hu => by
      have := flat_cells (w := w) (b := b) (off := off) (l := l) (fun i hi => hc i _ (pt_get hi)) j u hu
      rw [add_plain] at this
      exact this)
    (fun u hu => by
      obtain ⟨p, _, hp⟩ := List.mem_flatMap.1 hu
      simp at hp
      rcases hp with rfl | rfl <;> rfl)
  refine Calls.mono hC ?_
  rintro e w' ⟨v, rfl, ho, hnil, hb2⟩
  rcases own_val ho with ⟨rfl, _⟩ | ⟨g, cap, rfl, _⟩
  · exact absurd rfl hnil
  · exact ⟨g, cap, rfl, ho, hb2⟩
set_option maxHeartbeats 4000000 in
theorem inOrder_any (A : Option Addr) (c n : Nat) (l : List (Int × Int)) (w : World) (hln : l.length = n) (h1 : 1 ≤ n) (hn : n ≤ 1000000) (hnd : l.Nodup) (hR : Rd w w.heap.size A l) :
    Calls Try.prog 75 #[.slice A n c] w fun e w' => (∃ g cap, e = .returned (.slice (some ⟨g, 0, none⟩) n cap) ∧ w'.ownsRow w.heap.size 56 2 (.slice (some ⟨g, 0, none⟩) n cap) n (flat (srt l))) ∧ Below w.heap.size w w' := by
  have KC := Lib.hid (fun W (hb : Below w.heap.size w W) => clone_any A c n l W hln h1 hn (rd_more (rd_below hR hb (Nat.le_refl _)) hb.size))
  have KS := Lib.hid (fun base g cap W h => sort_any base g n cap l W hln hnd hn h)
  clear hR hln hnd
  go_enter Try.func75, Try.ntmps75
  go_wp2_with fail
  refine (KC.out w (Below.refl _ _)).mono ?_; rintro e w1 ⟨g, cap, rfl, ho, hb1⟩
  have hg := (World.ownsRow.lt ho g rfl).1
  have HO := Lib.hid ho
  clear ho
  go_wp2_with fail
  refine (KS.out _ _ _ _ HO.out).mono ?_; rintro e w2 ⟨rfl, ho2, hb2⟩
  have HO2 := Lib.hid ho2
  clear ho2
  go_wp2_with fail
  go_ret
  exact ⟨⟨g, cap, rfl, HO2.out⟩, hb1.trans (hb2.mono hg)⟩
end Go.Proofs.Ytheddoinnakneaa

