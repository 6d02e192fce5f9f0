/- contract: a point divided by a number -/
import Derived.Test.YtieimijkkjhegaaTc
import Derived.Test.YtieimijkkjhegaaRz
import Derived.BigRegion
namespace Go.Proofs.Ytieimijkkjhegaa
open Go.ChangeShapes Go.WideShapes Go.ChangeAt Go.RowKit Go.Joins
set_option linter.unusedVariables false
set_option linter.unusedSimpArgs false
set_option maxRecDepth 4000
theorem tdiv_back (p n : Int) (hn : 2 ≤ n) : (p.tmod n = 0 ↔ p.tdiv n * n = p) := by
  have := Int.tdiv_mul_add_tmod p n
  constructor <;> intro h <;> omega
theorem tdiv_bd (p n : Int) (h : Mid p) (hn : 2 ≤ n) : Mid (p.tdiv n) ∧ Mid (p.tdiv n * n) := by
  have h1 := Int.tdiv_mul_add_tmod p n
  have h2 : (p.tdiv n).natAbs ≤ p.natAbs := by rw [Int.natAbs_tdiv]; exact Nat.div_le_self _ _
  have h3 : (p.tmod n).natAbs ≤ p.natAbs := by rw [Int.natAbs_tmod]; exact Nat.mod_le _ _
  have h4 : (p.tdiv n * n).natAbs ≤ p.natAbs := by rw [Int.natAbs_mul, Int.natAbs_tdiv]; exact Nat.div_mul_le_self _ _
  unfold Mid at *
  omega
set_option maxHeartbeats 2000000 in
theorem dividedBy_any (p1 p2 n : Int) (w : World) (h1 : Mid p1) (h2 : Mid p2) (hn : 2 ≤ n ∧ n ≤ 1000) :
    Calls Try.prog 66 #[.agg #[.int .i64 p1, .int .i64 p2], .int .i64 n] w fun e w' => e = .returned (.tuple #[.agg #[.int .i64 (p1.tdiv n), .int .i64 (p2.tdiv n)], .bool (decide (p1.tmod n = 0) && decide (p2.tmod n = 0))]) ∧ Below w.heap.size w w' := by
  obtain ⟨g1, g2⟩ := tdiv_bd p1 n h1 hn.1
  obtain ⟨g3, g4⟩ := tdiv_bd p2 n h2 hn.1
  have K := Lib.hid (fun W => times_any (p1.tdiv n) (p2.tdiv n) n W (by unfold Mid at g2; omega) (by unfold Mid at g4; omega))
  have e1 : decide (p1.tmod n = 0) = decide (p1.tdiv n * n = p1) := decide_eq_decide.2 (tdiv_back p1 n hn.1)
  have e2 : decide (p2.tmod n = 0) = decide (p2.tdiv n * n = p2) := decide_eq_decide.2 (tdiv_back p2 n hn.1)
  rw [e1, e2]
  generalize p1.tdiv n * n = m1 at *
  generalize p2.tdiv n * n = m2 at *
  obtain ⟨x1, x2⟩ := h1
  obtain ⟨x3, x4⟩ := h2
  obtain ⟨n1, n2⟩ := hn
  obtain ⟨x5, x6⟩ := g1
  obtain ⟨x7, x8⟩ := g3
  clear g2 g4 e1 e2
  by_cases c1 : m1 = p1
  · by_cases c2 : m2 = p2
    · subst c1 c2
      go_enter Try.func66, Try.ntmps66
      go_wp2_with fail
      obtain ⟨W0, hW0⟩ : ∃ W0, W0 = ((w.alloc (.cells #[.int .i64 m1, .int .i64 m2] 42)).alloc (.cells #[.int .i64 0, .int .i64 0] 42)) := ⟨_, rfl⟩
      rw [← hW0]
      have yW00_0 : W0.cell? ⟨w.heap.size, 0, none⟩ = some (.int .i64 m1) := by rw [hW0]; go_simp
      have yW00_1 : W0.cell? ⟨w.heap.size, 1, none⟩ = some (.int .i64 m2) := by rw [hW0]; go_simp
      have fW00 : ∀ o, W0.frozen? ⟨w.heap.size, o, none⟩ = false := by intro o; rw [hW0]; (repeat rw [frozen?_alloc_cells]); simp [World.frozen?]
      have zW00 : w.heap.size < W0.heap.size := by rw [hW0]; simp <;> omega
      have yW01_0 : W0.cell? ⟨w.heap.size + 1, 0, none⟩ = some (.int .i64 0) := by rw [hW0]; go_simp
      have yW01_1 : W0.cell? ⟨w.heap.size + 1, 1, none⟩ = some (.int .i64 0) := by rw [hW0]; go_simp
      have fW01 : ∀ o, W0.frozen? ⟨w.heap.size + 1, o, none⟩ = false := by intro o; rw [hW0]; (repeat rw [frozen?_alloc_cells]); simp [World.frozen?]
      have zW01 : w.heap.size + 1 < W0.heap.size := by rw [hW0]; simp <;> omega
      have BW0 : Below w.heap.size w W0 := by rw [hW0]; exact (Below.alloc (Below.alloc (Below.refl _ _) (by simp <;> omega) _) (by simp <;> omega) _)
      have eW0 : Hid (W0.heap.size = w.heap.size + 2) := Lib.hid (by rw [hW0]; simp)
      clear hW0
      go_region
      obtain ⟨W1, hW1⟩ : ∃ W1, W1 = (W0.alloc (.cells #[.int .i64 (m1.tdiv n), .int .i64 (m2.tdiv n)] 42)) := ⟨_, rfl⟩
      rw [← hW1]
      have yW10_0 : W1.cell? ⟨W0.heap.size, 0, none⟩ = some (.int .i64 (m1.tdiv n)) := by rw [hW1]; go_simp
      have yW10_1 : W1.cell? ⟨W0.heap.size, 1, none⟩ = some (.int .i64 (m2.tdiv n)) := by rw [hW1]; go_simp
      have fW10 : ∀ o, W1.frozen? ⟨W0.heap.size, o, none⟩ = false := by intro o; rw [hW1]; (repeat rw [frozen?_alloc_cells]); simp [World.frozen?]
      have zW10 : W0.heap.size < W1.heap.size := by rw [hW1]; simp <;> omega
      have BW1 : Below W0.heap.size W0 W1 := by rw [hW1]; exact (Below.alloc (Below.refl _ _) (by simp <;> omega) _)
      have eW1 : Hid (W1.heap.size = W0.heap.size + 1) := Lib.hid (by rw [hW1]; simp)
      clear hW1
      obtain ⟨hcA, hfA⟩ := bcell BW1
      have zA : w.heap.size < W1.heap.size := by omega
      have zB : w.heap.size + 1 < W1.heap.size := by omega
      have r0 := (hcA _ _ zW00).trans yW00_0
      have r1 := (hcA _ _ zW00).trans yW00_1
      have r2 := (hcA _ _ zW01).trans yW01_0
      have r3 := (hcA _ _ zW01).trans yW01_1
      have r4 : ∀ o, W1.frozen? ⟨w.heap.size + 1, o, none⟩ = false := fun o => (hfA _ _ zW01).trans (fW01 o)
      clear hcA hfA
      obtain ⟨W2, hW2⟩ : ∃ W2, W2 = (W1.setCell ⟨w.heap.size + 1, 0, none⟩ (.int .i64 (m1.tdiv n))).setCell ⟨w.heap.size + 1, 1, none⟩ (.int .i64 (m2.tdiv n)) := ⟨_, rfl⟩
      have ne : w.heap.size ≠ w.heap.size + 1 := by omega
      have ne2 : W0.heap.size ≠ w.heap.size + 1 := by omega
      have FX : Hid (∀ X, (X = W1 ∨ X = W2) → W1.heap.size ≤ X.heap.size ∧ X.cell? ⟨w.heap.size, 0, none⟩ = some (.int .i64 m1) ∧ X.cell? ⟨w.heap.size, 1, none⟩ = some (.int .i64 m2) ∧ X.cell? ⟨W0.heap.size, 0, none⟩ = some (.int .i64 (m1.tdiv n)) ∧ X.cell? ⟨W0.heap.size, 1, none⟩ = some (.int .i64 (m2.tdiv n))) := Lib.hid (fun X hX => by
        rcases hX with rfl | rfl
        · exact ⟨Nat.le_refl _, r0, r1, yW10_0, yW10_1⟩
        · rw [hW2]
          have o : ∀ (bb oo : Nat), bb ≠ w.heap.size + 1 → ((W1.setCell ⟨w.heap.size + 1, 0, none⟩ (.int .i64 (m1.tdiv n))).setCell ⟨w.heap.size + 1, 1, none⟩ (.int .i64 (m2.tdiv n))).cell? ⟨bb, oo, none⟩ = W1.cell? ⟨bb, oo, none⟩ := fun bb oo hh => by
            rw [World.cell?_setCell_other _ _ _ _ (fun e => hh (by injection e with e1 e2; exact e1.symm)), World.cell?_setCell_other _ _ _ _ (fun e => hh (by injection e with e1 e2; exact e1.symm))]
          exact ⟨by simp [World.setCell], (o _ _ ne).trans r0, (o _ _ ne).trans r1, (o _ _ ne2).trans yW10_0, (o _ _ ne2).trans yW10_1⟩)
      have HW2 := Lib.hid hW2
      have BW2 : Below w.heap.size w W2 := by
        rw [hW2]
        exact Below.setCell (Below.setCell (BW0.trans (BW1.mono BW0.size)) (by simp) _) (by simp) _
      have s0 : W2.cell? ⟨w.heap.size + 1, 0, none⟩ = some (.int .i64 (m1.tdiv n)) := by
        rw [hW2, World.cell?_setCell_other _ _ _ _ (fun e => by injection e with e1 e2; cases e2), World.cell?_setCell_same _ _ _ r2]
      have s1 : W2.cell? ⟨w.heap.size + 1, 1, none⟩ = some (.int .i64 (m2.tdiv n)) := by
        rw [hW2]
        exact World.cell?_setCell_same _ _ _ (show (W1.setCell ⟨w.heap.size + 1, 0, none⟩ (.int .i64 (m1.tdiv n))).cell? ⟨w.heap.size + 1, 1, none⟩ = some (.int .i64 0) by rw [World.cell?_setCell_other _ _ _ _ (fun e => by injection e with e1 e2; cases e2)]; exact r3)
      clear hW2
      go_wp2_with fail
      refine wp_region_Z 6 W1.heap.size W1 W2 (by kernel_rfl) (by repeat (first | exact Below.refl _ _ | apply Below.drew)) ?_
      first | refine wpZ_skip 0 rfl (by kernel_rfl) (by kernel_rfl) (by kernel_rfl) (by rfl) (by decide) ?_ | (refine wpZ_text 0 (v := ?_) rfl (by kernel_rfl) (by kernel_rfl) (by kernel_rfl) (by rfl) (by decide) (fun X hX W k1 => ?_) ?_; rotate_left; (obtain ⟨hX0, x0, x1, x2, x3⟩ := FX.out X hX; obtain ⟨hc1, hf1⟩ := bcellN k1; go_simp; refine comes_v ?_; exact k1))
      (try simp only [Act.put, List.setIfInBounds_toArray, List.set_cons_zero, List.set_cons_succ])
      first | refine wpZ_skip 1 rfl (by kernel_rfl) (by kernel_rfl) (by kernel_rfl) (by rfl) (by decide) ?_ | (refine wpZ_text 1 (v := ?_) rfl (by kernel_rfl) (by kernel_rfl) (by kernel_rfl) (by rfl) (by decide) (fun X hX W k1 => ?_) ?_; rotate_left; (obtain ⟨hX0, x0, x1, x2, x3⟩ := FX.out X hX; obtain ⟨hc1, hf1⟩ := bcellN k1; go_simp; refine comes_v ?_; exact k1))
      (try simp only [Act.put, List.setIfInBounds_toArray, List.set_cons_zero, List.set_cons_succ])
      first | refine wpZ_skip 2 rfl (by kernel_rfl) (by kernel_rfl) (by kernel_rfl) (by rfl) (by decide) ?_ | (refine wpZ_text 2 (v := ?_) rfl (by kernel_rfl) (by kernel_rfl) (by kernel_rfl) (by rfl) (by decide) (fun X hX W k1 => ?_) ?_; rotate_left; (obtain ⟨hX0, x0, x1, x2, x3⟩ := FX.out X hX; obtain ⟨hc1, hf1⟩ := bcellN k1; go_simp; refine comes_v ?_; exact k1))
      (try simp only [Act.put, List.setIfInBounds_toArray, List.set_cons_zero, List.set_cons_succ])
      first | refine wpZ_skip 3 rfl (by kernel_rfl) (by kernel_rfl) (by kernel_rfl) (by rfl) (by decide) ?_ | (refine wpZ_text 3 (v := .agg #[.int .i64 m1, .int .i64 m2]) rfl (by kernel_rfl) (by kernel_rfl) (by kernel_rfl) (by rfl) (by decide) (fun X hX W k1 => ?_) ?_; (obtain ⟨hX0, x0, x1, x2, x3⟩ := FX.out X hX; obtain ⟨hc1, hf1⟩ := bcellN k1; go_simp; exact comes_c ( K.out _) (fun wn hbn => k1.trans (hbn.mono (Nat.le_trans hX0 k1.size)))))
      (try simp only [Act.put, List.setIfInBounds_toArray, List.set_cons_zero, List.set_cons_succ])
      first | refine wpZ_skip 4 rfl (by kernel_rfl) (by kernel_rfl) (by kernel_rfl) (by rfl) (by decide) ?_ | (refine wpZ_text 4 (v := ?_) rfl (by kernel_rfl) (by kernel_rfl) (by kernel_rfl) (by rfl) (by decide) (fun X hX W k1 => ?_) ?_; rotate_left; (obtain ⟨hX0, x0, x1, x2, x3⟩ := FX.out X hX; obtain ⟨hc1, hf1⟩ := bcellN k1; go_simp; refine comes_v ?_; exact k1))
      (try simp only [Act.put, List.setIfInBounds_toArray, List.set_cons_zero, List.set_cons_succ])
      first | refine wpZ_skip 5 rfl (by kernel_rfl) (by kernel_rfl) (by kernel_rfl) (by rfl) (by decide) ?_ | (refine wpZ_text 5 (v := ?_) rfl (by kernel_rfl) (by kernel_rfl) (by kernel_rfl) (by rfl) (by decide) (fun X hX W k1 => ?_) ?_; rotate_left; (obtain ⟨hX0, x0, x1, x2, x3⟩ := FX.out X hX; obtain ⟨hc1, hf1⟩ := bcellN k1; go_simp; refine comes_v ?_; exact k1))
      (try simp only [Act.put, List.setIfInBounds_toArray, List.set_cons_zero, List.set_cons_succ])
      (refine wpZ_store (v := undef) rfl (by kernel_rfl) (by kernel_rfl) (by kernel_rfl) (by rfl) (fun W k1 => ?_) ?_; (obtain ⟨hc1, hf1⟩ := bcellN k1; go_simp; refine ⟨rfl, ?_⟩; rw [HW2.out]; exact below_set2 (below_set2 k1 _ _ zB) _ _ zB))
      (try simp only [Act.put, List.setIfInBounds_toArray, List.set_cons_zero, List.set_cons_succ])
      first | refine wpZ_skip 7 rfl (by kernel_rfl) (by kernel_rfl) (by kernel_rfl) (by rfl) (by decide) ?_ | (refine wpZ_text 7 (v := ?_) rfl (by kernel_rfl) (by kernel_rfl) (by kernel_rfl) (by rfl) (by decide) (fun X hX W k1 => ?_) ?_; rotate_left; (obtain ⟨hX0, x0, x1, x2, x3⟩ := FX.out X hX; obtain ⟨hc1, hf1⟩ := bcellN k1; go_simp; refine comes_v ?_; exact k1))
      (try simp only [Act.put, List.setIfInBounds_toArray, List.set_cons_zero, List.set_cons_succ])
      refine wpZ_done (by kernel_rfl) (by kernel_rfl) ?_ _
      intro W k1; obtain ⟨hc1, hf1⟩ := bcellN k1
      have B1 : Below w.heap.size w W := BW2.trans (k1.mono (by omega))
      go_wp2_with fail
      refine bodyPost_ret (v := .tuple #[.agg #[.int .i64 (m1.tdiv n), .int .i64 (m2.tdiv n)], .bool true]) (by simp [results, Try.results66, go_sem, hc1, zB, s0, s1]) rfl ⟨by simp , ?_⟩
      repeat (first | with_reducible assumption | with_reducible exact Below.refl _ _ | with_reducible apply Below.drew | ((with_reducible refine Below.setCell ?_ ?_ _); rotate_left; (first | exact Nat.le_refl _ | omega | (simp <;> omega))) | ((with_reducible refine Below.alloc ?_ ?_ _); rotate_left; (first | omega | (simp <;> omega))))
    · subst c1
      go_enter Try.func66, Try.ntmps66
      go_wp2_with fail
      obtain ⟨W0, hW0⟩ : ∃ W0, W0 = ((w.alloc (.cells #[.int .i64 m1, .int .i64 p2] 42)).alloc (.cells #[.int .i64 0, .int .i64 0] 42)) := ⟨_, rfl⟩
      rw [← hW0]
      have yW00_0 : W0.cell? ⟨w.heap.size, 0, none⟩ = some (.int .i64 m1) := by rw [hW0]; go_simp
      have yW00_1 : W0.cell? ⟨w.heap.size, 1, none⟩ = some (.int .i64 p2) := by rw [hW0]; go_simp
      have fW00 : ∀ o, W0.frozen? ⟨w.heap.size, o, none⟩ = false := by intro o; rw [hW0]; (repeat rw [frozen?_alloc_cells]); simp [World.frozen?]
      have zW00 : w.heap.size < W0.heap.size := by rw [hW0]; simp <;> omega
      have yW01_0 : W0.cell? ⟨w.heap.size + 1, 0, none⟩ = some (.int .i64 0) := by rw [hW0]; go_simp
      have yW01_1 : W0.cell? ⟨w.heap.size + 1, 1, none⟩ = some (.int .i64 0) := by rw [hW0]; go_simp
      have fW01 : ∀ o, W0.frozen? ⟨w.heap.size + 1, o, none⟩ = false := by intro o; rw [hW0]; (repeat rw [frozen?_alloc_cells]); simp [World.frozen?]
      have zW01 : w.heap.size + 1 < W0.heap.size := by rw [hW0]; simp <;> omega
      have BW0 : Below w.heap.size w W0 := by rw [hW0]; exact (Below.alloc (Below.alloc (Below.refl _ _) (by simp <;> omega) _) (by simp <;> omega) _)
      have eW0 : Hid (W0.heap.size = w.heap.size + 2) := Lib.hid (by rw [hW0]; simp)
      clear hW0
      go_region
      obtain ⟨W1, hW1⟩ : ∃ W1, W1 = (W0.alloc (.cells #[.int .i64 (m1.tdiv n), .int .i64 (p2.tdiv n)] 42)) := ⟨_, rfl⟩
      rw [← hW1]
      have yW10_0 : W1.cell? ⟨W0.heap.size, 0, none⟩ = some (.int .i64 (m1.tdiv n)) := by rw [hW1]; go_simp
      have yW10_1 : W1.cell? ⟨W0.heap.size, 1, none⟩ = some (.int .i64 (p2.tdiv n)) := by rw [hW1]; go_simp
      have fW10 : ∀ o, W1.frozen? ⟨W0.heap.size, o, none⟩ = false := by intro o; rw [hW1]; (repeat rw [frozen?_alloc_cells]); simp [World.frozen?]
      have zW10 : W0.heap.size < W1.heap.size := by rw [hW1]; simp <;> omega
      have BW1 : Below W0.heap.size W0 W1 := by rw [hW1]; exact (Below.alloc (Below.refl _ _) (by simp <;> omega) _)
      have eW1 : Hid (W1.heap.size = W0.heap.size + 1) := Lib.hid (by rw [hW1]; simp)
      clear hW1
      obtain ⟨hcA, hfA⟩ := bcell BW1
      have zA : w.heap.size < W1.heap.size := by omega
      have zB : w.heap.size + 1 < W1.heap.size := by omega
      have r0 := (hcA _ _ zW00).trans yW00_0
      have r1 := (hcA _ _ zW00).trans yW00_1
      have r2 := (hcA _ _ zW01).trans yW01_0
      have r3 := (hcA _ _ zW01).trans yW01_1
      have r4 : ∀ o, W1.frozen? ⟨w.heap.size + 1, o, none⟩ = false := fun o => (hfA _ _ zW01).trans (fW01 o)
      clear hcA hfA
      obtain ⟨W2, hW2⟩ : ∃ W2, W2 = (W1.setCell ⟨w.heap.size + 1, 0, none⟩ (.int .i64 (m1.tdiv n))).setCell ⟨w.heap.size + 1, 1, none⟩ (.int .i64 (p2.tdiv n)) := ⟨_, rfl⟩
      have ne : w.heap.size ≠ w.heap.size + 1 := by omega
      have ne2 : W0.heap.size ≠ w.heap.size + 1 := by omega
      have FX : Hid (∀ X, (X = W1 ∨ X = W2) → W1.heap.size ≤ X.heap.size ∧ X.cell? ⟨w.heap.size, 0, none⟩ = some (.int .i64 m1) ∧ X.cell? ⟨w.heap.size, 1, none⟩ = some (.int .i64 p2) ∧ X.cell? ⟨W0.heap.size, 0, none⟩ = some (.int .i64 (m1.tdiv n)) ∧ X.cell? ⟨W0.heap.size, 1, none⟩ = some (.int .i64 (p2.tdiv n))) := Lib.hid (fun X hX => by
        rcases hX with rfl | rfl
        · exact ⟨Nat.le_refl _, r0, r1, yW10_0, yW10_1⟩
        · rw [hW2]
          have o : ∀ (bb oo : Nat), bb ≠ w.heap.size + 1 → ((W1.setCell ⟨w.heap.size + 1, 0, none⟩ (.int .i64 (m1.tdiv n))).setCell ⟨w.heap.size + 1, 1, none⟩ (.int .i64 (p2.tdiv n))).cell? ⟨bb, oo, none⟩ = W1.cell? ⟨bb, oo, none⟩ := fun bb oo hh => by
            rw [World.cell?_setCell_other _ _ _ _ (fun e => hh (by injection e with e1 e2; exact e1.symm)), World.cell?_setCell_other _ _ _ _ (fun e => hh (by injection e with e1 e2; exact e1.symm))]
          exact ⟨by simp [World.setCell], (o _ _ ne).trans r0, (o _ _ ne).trans r1, (o _ _ ne2).trans yW10_0, (o _ _ ne2).trans yW10_1⟩)
      have HW2 := Lib.hid hW2
      have BW2 : Below w.heap.size w W2 := by
        rw [hW2]
        exact Below.setCell (Below.setCell (BW0.trans (BW1.mono BW0.size)) (by simp) _) (by simp) _
      have s0 : W2.cell? ⟨w.heap.size + 1, 0, none⟩ = some (.int .i64 (m1.tdiv n)) := by
        rw [hW2, World.cell?_setCell_other _ _ _ _ (fun e => by injection e with e1 e2; cases e2), World.cell?_setCell_same _ _ _ r2]
      have s1 : W2.cell? ⟨w.heap.size + 1, 1, none⟩ = some (.int .i64 (p2.tdiv n)) := by
        rw [hW2]
        exact World.cell?_setCell_same _ _ _ (show (W1.setCell ⟨w.heap.size + 1, 0, none⟩ (.int .i64 (m1.tdiv n))).cell? ⟨w.heap.size + 1, 1, none⟩ = some (.int .i64 0) by rw [World.cell?_setCell_other _ _ _ _ (fun e => by injection e with e1 e2; cases e2)]; exact r3)
      clear hW2
      go_wp2_with fail
      refine wp_region_Z 6 W1.heap.size W1 W2 (by kernel_rfl) (by repeat (first | exact Below.refl _ _ | apply Below.drew)) ?_
      first | refine wpZ_skip 0 rfl (by kernel_rfl) (by kernel_rfl) (by kernel_rfl) (by rfl) (by decide) ?_ | (refine wpZ_text 0 (v := ?_) rfl (by kernel_rfl) (by kernel_rfl) (by kernel_rfl) (by rfl) (by decide) (fun X hX W k1 => ?_) ?_; rotate_left; (obtain ⟨hX0, x0, x1, x2, x3⟩ := FX.out X hX; obtain ⟨hc1, hf1⟩ := bcellN k1; go_simp; refine comes_v ?_; exact k1))
      (try simp only [Act.put, List.setIfInBounds_toArray, List.set_cons_zero, List.set_cons_succ])
      first | refine wpZ_skip 1 rfl (by kernel_rfl) (by kernel_rfl) (by kernel_rfl) (by rfl) (by decide) ?_ | (refine wpZ_text 1 (v := ?_) rfl (by kernel_rfl) (by kernel_rfl) (by kernel_rfl) (by rfl) (by decide) (fun X hX W k1 => ?_) ?_; rotate_left; (obtain ⟨hX0, x0, x1, x2, x3⟩ := FX.out X hX; obtain ⟨hc1, hf1⟩ := bcellN k1; go_simp; refine comes_v ?_; exact k1))
      (try simp only [Act.put, List.setIfInBounds_toArray, List.set_cons_zero, List.set_cons_succ])
      first | refine wpZ_skip 2 rfl (by kernel_rfl) (by kernel_rfl) (by kernel_rfl) (by rfl) (by decide) ?_ | (refine wpZ_text 2 (v := ?_) rfl (by kernel_rfl) (by kernel_rfl) (by kernel_rfl) (by rfl) (by decide) (fun X hX W k1 => ?_) ?_; rotate_left; (obtain ⟨hX0, x0, x1, x2, x3⟩ := FX.out X hX; obtain ⟨hc1, hf1⟩ := bcellN k1; go_simp; refine comes_v ?_; exact k1))
      (try simp only [Act.put, List.setIfInBounds_toArray, List.set_cons_zero, List.set_cons_succ])
      first | refine wpZ_skip 3 rfl (by kernel_rfl) (by kernel_rfl) (by kernel_rfl) (by rfl) (by decide) ?_ | (refine wpZ_text 3 (v := .agg #[.int .i64 m1, .int .i64 m2]) rfl (by kernel_rfl) (by kernel_rfl) (by kernel_rfl) (by rfl) (by decide) (fun X hX W k1 => ?_) ?_; (obtain ⟨hX0, x0, x1, x2, x3⟩ := FX.out X hX; obtain ⟨hc1, hf1⟩ := bcellN k1; go_simp; exact comes_c ( K.out _) (fun wn hbn => k1.trans (hbn.mono (Nat.le_trans hX0 k1.size)))))
      (try simp only [Act.put, List.setIfInBounds_toArray, List.set_cons_zero, List.set_cons_succ])
      first | refine wpZ_skip 4 rfl (by kernel_rfl) (by kernel_rfl) (by kernel_rfl) (by rfl) (by decide) ?_ | (refine wpZ_text 4 (v := ?_) rfl (by kernel_rfl) (by kernel_rfl) (by kernel_rfl) (by rfl) (by decide) (fun X hX W k1 => ?_) ?_; rotate_left; (obtain ⟨hX0, x0, x1, x2, x3⟩ := FX.out X hX; obtain ⟨hc1, hf1⟩ := bcellN k1; go_simp; refine comes_v ?_; exact k1))
      (try simp only [Act.put, List.setIfInBounds_toArray, List.set_cons_zero, List.set_cons_succ])
      first | refine wpZ_skip 5 rfl (by kernel_rfl) (by kernel_rfl) (by kernel_rfl) (by rfl) (by decide) ?_ | (refine wpZ_text 5 (v := ?_) rfl (by kernel_rfl) (by kernel_rfl) (by kernel_rfl) (by rfl) (by decide) (fun X hX W k1 => ?_) ?_; rotate_left; (obtain ⟨hX0, x0, x1, x2, x3⟩ := FX.out X hX; obtain ⟨hc1, hf1⟩ := bcellN k1; go_simp; refine comes_v ?_; exact k1))
      (try simp only [Act.put, List.setIfInBounds_toArray, List.set_cons_zero, List.set_cons_succ])
      (refine wpZ_store (v := undef) rfl (by kernel_rfl) (by kernel_rfl) (by kernel_rfl) (by rfl) (fun W k1 => ?_) ?_; (obtain ⟨hc1, hf1⟩ := bcellN k1; go_simp; refine ⟨rfl, ?_⟩; rw [HW2.out]; exact below_set2 (below_set2 k1 _ _ zB) _ _ zB))
      (try simp only [Act.put, List.setIfInBounds_toArray, List.set_cons_zero, List.set_cons_succ])
      first | refine wpZ_skip 7 rfl (by kernel_rfl) (by kernel_rfl) (by kernel_rfl) (by rfl) (by decide) ?_ | (refine wpZ_text 7 (v := ?_) rfl (by kernel_rfl) (by kernel_rfl) (by kernel_rfl) (by rfl) (by decide) (fun X hX W k1 => ?_) ?_; rotate_left; (obtain ⟨hX0, x0, x1, x2, x3⟩ := FX.out X hX; obtain ⟨hc1, hf1⟩ := bcellN k1; go_simp; refine comes_v ?_; exact k1))
      (try simp only [Act.put, List.setIfInBounds_toArray, List.set_cons_zero, List.set_cons_succ])
      refine wpZ_done (by kernel_rfl) (by kernel_rfl) ?_ _
      intro W k1; obtain ⟨hc1, hf1⟩ := bcellN k1
      have B1 : Below w.heap.size w W := BW2.trans (k1.mono (by omega))
      go_wp2_with fail
      refine bodyPost_ret (v := .tuple #[.agg #[.int .i64 (m1.tdiv n), .int .i64 (p2.tdiv n)], .bool false]) (by simp [results, Try.results66, go_sem, hc1, zB, s0, s1]) rfl ⟨by simp [c2], ?_⟩
      repeat (first | with_reducible assumption | with_reducible exact Below.refl _ _ | with_reducible apply Below.drew | ((with_reducible refine Below.setCell ?_ ?_ _); rotate_left; (first | exact Nat.le_refl _ | omega | (simp <;> omega))) | ((with_reducible refine Below.alloc ?_ ?_ _); rotate_left; (first | omega | (simp <;> omega))))
  · by_cases c2 : m2 = p2
    · subst c2
      go_enter Try.func66, Try.ntmps66
      go_wp2_with fail
      obtain ⟨W0, hW0⟩ : ∃ W0, W0 = ((w.alloc (.cells #[.int .i64 p1, .int .i64 m2] 42)).alloc (.cells #[.int .i64 0, .int .i64 0] 42)) := ⟨_, rfl⟩
      rw [← hW0]
      have yW00_0 : W0.cell? ⟨w.heap.size, 0, none⟩ = some (.int .i64 p1) := by rw [hW0]; go_simp
      have yW00_1 : W0.cell? ⟨w.heap.size, 1, none⟩ = some (.int .i64 m2) := by rw [hW0]; go_simp
      have fW00 : ∀ o, W0.frozen? ⟨w.heap.size, o, none⟩ = false := by intro o; rw [hW0]; (repeat rw [frozen?_alloc_cells]); simp [World.frozen?]
      have zW00 : w.heap.size < W0.heap.size := by rw [hW0]; simp <;> omega
      have yW01_0 : W0.cell? ⟨w.heap.size + 1, 0, none⟩ = some (.int .i64 0) := by rw [hW0]; go_simp
      have yW01_1 : W0.cell? ⟨w.heap.size + 1, 1, none⟩ = some (.int .i64 0) := by rw [hW0]; go_simp
      have fW01 : ∀ o, W0.frozen? ⟨w.heap.size + 1, o, none⟩ = false := by intro o; rw [hW0]; (repeat rw [frozen?_alloc_cells]); simp [World.frozen?]
      have zW01 : w.heap.size + 1 < W0.heap.size := by rw [hW0]; simp <;> omega
      have BW0 : Below w.heap.size w W0 := by rw [hW0]; exact (Below.alloc (Below.alloc (Below.refl _ _) (by simp <;> omega) _) (by simp <;> omega) _)
      have eW0 : Hid (W0.heap.size = w.heap.size + 2) := Lib.hid (by rw [hW0]; simp)
      clear hW0
      go_region
      obtain ⟨W1, hW1⟩ : ∃ W1, W1 = (W0.alloc (.cells #[.int .i64 (p1.tdiv n), .int .i64 (m2.tdiv n)] 42)) := ⟨_, rfl⟩
      rw [← hW1]
      have yW10_0 : W1.cell? ⟨W0.heap.size, 0, none⟩ = some (.int .i64 (p1.tdiv n)) := by rw [hW1]; go_simp
      have yW10_1 : W1.cell? ⟨W0.heap.size, 1, none⟩ = some (.int .i64 (m2.tdiv n)) := by rw [hW1]; go_simp
      have fW10 : ∀ o, W1.frozen? ⟨W0.heap.size, o, none⟩ = false := by intro o; rw [hW1]; (repeat rw [frozen?_alloc_cells]); simp [World.frozen?]
      have zW10 : W0.heap.size < W1.heap.size := by rw [hW1]; simp <;> omega
      have BW1 : Below W0.heap.size W0 W1 := by rw [hW1]; exact (Below.alloc (Below.refl _ _) (by simp <;> omega) _)
      have eW1 : Hid (W1.heap.size = W0.heap.size + 1) := Lib.hid (by rw [hW1]; simp)
      clear hW1
      obtain ⟨hcA, hfA⟩ := bcell BW1
      have zA : w.heap.size < W1.heap.size := by omega
      have zB : w.heap.size + 1 < W1.heap.size := by omega
      have r0 := (hcA _ _ zW00).trans yW00_0
      have r1 := (hcA _ _ zW00).trans yW00_1
      have r2 := (hcA _ _ zW01).trans yW01_0
      have r3 := (hcA _ _ zW01).trans yW01_1
      have r4 : ∀ o, W1.frozen? ⟨w.heap.size + 1, o, none⟩ = false := fun o => (hfA _ _ zW01).trans (fW01 o)
      clear hcA hfA
      obtain ⟨W2, hW2⟩ : ∃ W2, W2 = (W1.setCell ⟨w.heap.size + 1, 0, none⟩ (.int .i64 (p1.tdiv n))).setCell ⟨w.heap.size + 1, 1, none⟩ (.int .i64 (m2.tdiv n)) := ⟨_, rfl⟩
      have ne : w.heap.size ≠ w.heap.size + 1 := by omega
      have ne2 : W0.heap.size ≠ w.heap.size + 1 := by omega
      have FX : Hid (∀ X, (X = W1 ∨ X = W2) → W1.heap.size ≤ X.heap.size ∧ X.cell? ⟨w.heap.size, 0, none⟩ = some (.int .i64 p1) ∧ X.cell? ⟨w.heap.size, 1, none⟩ = some (.int .i64 m2) ∧ X.cell? ⟨W0.heap.size, 0, none⟩ = some (.int .i64 (p1.tdiv n)) ∧ X.cell? ⟨W0.heap.size, 1, none⟩ = some (.int .i64 (m2.tdiv n))) := Lib.hid (fun X hX => by
        rcases hX with rfl | rfl
        · exact ⟨Nat.le_refl _, r0, r1, yW10_0, yW10_1⟩
        · rw [hW2]
          have o : ∀ (bb oo : Nat), bb ≠ w.heap.size + 1 → ((W1.setCell ⟨w.heap.size + 1, 0, none⟩ (.int .i64 (p1.tdiv n))).setCell ⟨w.heap.size + 1, 1, none⟩ (.int .i64 (m2.tdiv n))).cell? ⟨bb, oo, none⟩ = W1.cell? ⟨bb, oo, none⟩ := fun bb oo hh => by
            rw [World.cell?_setCell_other _ _ _ _ (fun e => hh (by injection e with e1 e2; exact e1.symm)), World.cell?_setCell_other _ _ _ _ (fun e => hh (by injection e with e1 e2; exact e1.symm))]
          exact ⟨by simp [World.setCell], (o _ _ ne).trans r0, (o _ _ ne).trans r1, (o _ _ ne2).trans yW10_0, (o _ _ ne2).trans yW10_1⟩)
      have HW2 := Lib.hid hW2
      have BW2 : Below w.heap.size w W2 := by
        rw [hW2]
        exact Below.setCell (Below.setCell (BW0.trans (BW1.mono BW0.size)) (by simp) _) (by simp) _
      have s0 : W2.cell? ⟨w.heap.size + 1, 0, none⟩ = some (.int .i64 (p1.tdiv n)) := by
        rw [hW2, World.cell?_setCell_other _ _ _ _ (fun e => by injection e with e1 e2; cases e2), World.cell?_setCell_same _ _ _ r2]
      have s1 : W2.cell? ⟨w.heap.size + 1, 1, none⟩ = some (.int .i64 (m2.tdiv n)) := by
        rw [hW2]
        exact World.cell?_setCell_same _ _ _ (show (W1.setCell ⟨w.heap.size + 1, 0, none⟩ (.int .i64 (p1.tdiv n))).cell? ⟨w.heap.size + 1, 1, none⟩ = some (.int .i64 0) by rw [World.cell?_setCell_other _ _ _ _ (fun e => by injection e with e1 e2; cases e2)]; exact r3)
      clear hW2
      go_wp2_with fail
      refine wp_region_Z 6 W1.heap.size W1 W2 (by kernel_rfl) (by repeat (first | exact Below.refl _ _ | apply Below.drew)) ?_
      first | refine wpZ_skip 0 rfl (by kernel_rfl) (by kernel_rfl) (by kernel_rfl) (by rfl) (by decide) ?_ | (refine wpZ_text 0 (v := ?_) rfl (by kernel_rfl) (by kernel_rfl) (by kernel_rfl) (by rfl) (by decide) (fun X hX W k1 => ?_) ?_; rotate_left; (obtain ⟨hX0, x0, x1, x2, x3⟩ := FX.out X hX; obtain ⟨hc1, hf1⟩ := bcellN k1; go_simp; refine comes_v ?_; exact k1))
      (try simp only [Act.put, List.setIfInBounds_toArray, List.set_cons_zero, List.set_cons_succ])
      first | refine wpZ_skip 1 rfl (by kernel_rfl) (by kernel_rfl) (by kernel_rfl) (by rfl) (by decide) ?_ | (refine wpZ_text 1 (v := ?_) rfl (by kernel_rfl) (by kernel_rfl) (by kernel_rfl) (by rfl) (by decide) (fun X hX W k1 => ?_) ?_; rotate_left; (obtain ⟨hX0, x0, x1, x2, x3⟩ := FX.out X hX; obtain ⟨hc1, hf1⟩ := bcellN k1; go_simp; refine comes_v ?_; exact k1))
      (try simp only [Act.put, List.setIfInBounds_toArray, List.set_cons_zero, List.set_cons_succ])
      first | refine wpZ_skip 2 rfl (by kernel_rfl) (by kernel_rfl) (by kernel_rfl) (by rfl) (by decide) ?_ | (refine wpZ_text 2 (v := ?_) rfl (by kernel_rfl) (by kernel_rfl) (by kernel_rfl) (by rfl) (by decide) (fun X hX W k1 => ?_) ?_; rotate_left; (obtain ⟨hX0, x0, x1, x2, x3⟩ := FX.out X hX; obtain ⟨hc1, hf1⟩ := bcellN k1; go_simp; refine comes_v ?_; exact k1))
      (try simp only [Act.put, List.setIfInBounds_toArray, List.set_cons_zero, List.set_cons_succ])
      first | refine wpZ_skip 3 rfl (by kernel_rfl) (by kernel_rfl) (by kernel_rfl) (by rfl) (by decide) ?_ | (refine wpZ_text 3 (v := .agg #[.int .i64 m1, .int .i64 m2]) rfl (by kernel_rfl) (by kernel_rfl) (by kernel_rfl) (by rfl) (by decide) (fun X hX W k1 => ?_) ?_; (obtain ⟨hX0, x0, x1, x2, x3⟩ := FX.out X hX; obtain ⟨hc1, hf1⟩ := bcellN k1; go_simp; exact comes_c ( K.out _) (fun wn hbn => k1.trans (hbn.mono (Nat.le_trans hX0 k1.size)))))
      (try simp only [Act.put, List.setIfInBounds_toArray, List.set_cons_zero, List.set_cons_succ])
      first | refine wpZ_skip 4 rfl (by kernel_rfl) (by kernel_rfl) (by kernel_rfl) (by rfl) (by decide) ?_ | (refine wpZ_text 4 (v := ?_) rfl (by kernel_rfl) (by kernel_rfl) (by kernel_rfl) (by rfl) (by decide) (fun X hX W k1 => ?_) ?_; rotate_left; (obtain ⟨hX0, x0, x1, x2, x3⟩ := FX.out X hX; obtain ⟨hc1, hf1⟩ := bcellN k1; go_simp; refine comes_v ?_; exact k1))
      (try simp only [Act.put, List.setIfInBounds_toArray, List.set_cons_zero, List.set_cons_succ])
      first | refine wpZ_skip 5 rfl (by kernel_rfl) (by kernel_rfl) (by kernel_rfl) (by rfl) (by decide) ?_ | (refine wpZ_text 5 (v := ?_) rfl (by kernel_rfl) (by kernel_rfl) (by kernel_rfl) (by rfl) (by decide) (fun X hX W k1 => ?_) ?_; rotate_left; (obtain ⟨hX0, x0, x1, x2, x3⟩ := FX.out X hX; obtain ⟨hc1, hf1⟩ := bcellN k1; go_simp; refine comes_v ?_; exact k1))
      (try simp only [Act.put, List.setIfInBounds_toArray, List.set_cons_zero, List.set_cons_succ])
      (refine wpZ_store (v := undef) rfl (by kernel_rfl) (by kernel_rfl) (by kernel_rfl) (by rfl) (fun W k1 => ?_) ?_; (obtain ⟨hc1, hf1⟩ := bcellN k1; go_simp; refine ⟨rfl, ?_⟩; rw [HW2.out]; exact below_set2 (below_set2 k1 _ _ zB) _ _ zB))
      (try simp only [Act.put, List.setIfInBounds_toArray, List.set_cons_zero, List.set_cons_succ])
      first | refine wpZ_skip 7 rfl (by kernel_rfl) (by kernel_rfl) (by kernel_rfl) (by rfl) (by decide) ?_ | (refine wpZ_text 7 (v := ?_) rfl (by kernel_rfl) (by kernel_rfl) (by kernel_rfl) (by rfl) (by decide) (fun X hX W k1 => ?_) ?_; rotate_left; (obtain ⟨hX0, x0, x1, x2, x3⟩ := FX.out X hX; obtain ⟨hc1, hf1⟩ := bcellN k1; go_simp; refine comes_v ?_; exact k1))
      (try simp only [Act.put, List.setIfInBounds_toArray, List.set_cons_zero, List.set_cons_succ])
      refine wpZ_done (by kernel_rfl) (by kernel_rfl) ?_ _
      intro W k1; obtain ⟨hc1, hf1⟩ := bcellN k1
      have B1 : Below w.heap.size w W := BW2.trans (k1.mono (by omega))
      go_wp2_with fail
      refine bodyPost_ret (v := .tuple #[.agg #[.int .i64 (p1.tdiv n), .int .i64 (m2.tdiv n)], .bool false]) (by simp [results, Try.results66, go_sem, hc1, zB, s0, s1]) rfl ⟨by simp [c1], ?_⟩
      repeat (first | with_reducible assumption | with_reducible exact Below.refl _ _ | with_reducible apply Below.drew | ((with_reducible refine Below.setCell ?_ ?_ _); rotate_left; (first | exact Nat.le_refl _ | omega | (simp <;> omega))) | ((with_reducible refine Below.alloc ?_ ?_ _); rotate_left; (first | omega | (simp <;> omega))))
    · skip
      go_enter Try.func66, Try.ntmps66
      go_wp2_with fail
      obtain ⟨W0, hW0⟩ : ∃ W0, W0 = ((w.alloc (.cells #[.int .i64 p1, .int .i64 p2] 42)).alloc (.cells #[.int .i64 0, .int .i64 0] 42)) := ⟨_, rfl⟩
      rw [← hW0]
      have yW00_0 : W0.cell? ⟨w.heap.size, 0, none⟩ = some (.int .i64 p1) := by rw [hW0]; go_simp
      have yW00_1 : W0.cell? ⟨w.heap.size, 1, none⟩ = some (.int .i64 p2) := by rw [hW0]; go_simp
      have fW00 : ∀ o, W0.frozen? ⟨w.heap.size, o, none⟩ = false := by intro o; rw [hW0]; (repeat rw [frozen?_alloc_cells]); simp [World.frozen?]
      have zW00 : w.heap.size < W0.heap.size := by rw [hW0]; simp <;> omega
      have yW01_0 : W0.cell? ⟨w.heap.size + 1, 0, none⟩ = some (.int .i64 0) := by rw [hW0]; go_simp
      have yW01_1 : W0.cell? ⟨w.heap.size + 1, 1, none⟩ = some (.int .i64 0) := by rw [hW0]; go_simp
      have fW01 : ∀ o, W0.frozen? ⟨w.heap.size + 1, o, none⟩ = false := by intro o; rw [hW0]; (repeat rw [frozen?_alloc_cells]); simp [World.frozen?]
      have zW01 : w.heap.size + 1 < W0.heap.size := by rw [hW0]; simp <;> omega
      have BW0 : Below w.heap.size w W0 := by rw [hW0]; exact (Below.alloc (Below.alloc (Below.refl _ _) (by simp <;> omega) _) (by simp <;> omega) _)
      have eW0 : Hid (W0.heap.size = w.heap.size + 2) := Lib.hid (by rw [hW0]; simp)
      clear hW0
      go_region
      obtain ⟨W1, hW1⟩ : ∃ W1, W1 = (W0.alloc (.cells #[.int .i64 (p1.tdiv n), .int .i64 (p2.tdiv n)] 42)) := ⟨_, rfl⟩
      rw [← hW1]
      have yW10_0 : W1.cell? ⟨W0.heap.size, 0, none⟩ = some (.int .i64 (p1.tdiv n)) := by rw [hW1]; go_simp
      have yW10_1 : W1.cell? ⟨W0.heap.size, 1, none⟩ = some (.int .i64 (p2.tdiv n)) := by rw [hW1]; go_simp
      have fW10 : ∀ o, W1.frozen? ⟨W0.heap.size, o, none⟩ = false := by intro o; rw [hW1]; (repeat rw [frozen?_alloc_cells]); simp [World.frozen?]
      have zW10 : W0.heap.size < W1.heap.size := by rw [hW1]; simp <;> omega
      have BW1 : Below W0.heap.size W0 W1 := by rw [hW1]; exact (Below.alloc (Below.refl _ _) (by simp <;> omega) _)
      have eW1 : Hid (W1.heap.size = W0.heap.size + 1) := Lib.hid (by rw [hW1]; simp)
      clear hW1
      obtain ⟨hcA, hfA⟩ := bcell BW1
      have zA : w.heap.size < W1.heap.size := by omega
      have zB : w.heap.size + 1 < W1.heap.size := by omega
      have r0 := (hcA _ _ zW00).trans yW00_0
      have r1 := (hcA _ _ zW00).trans yW00_1
      have r2 := (hcA _ _ zW01).trans yW01_0
      have r3 := (hcA _ _ zW01).trans yW01_1
      have r4 : ∀ o, W1.frozen? ⟨w.heap.size + 1, o, none⟩ = false := fun o => (hfA _ _ zW01).trans (fW01 o)
      clear hcA hfA
      obtain ⟨W2, hW2⟩ : ∃ W2, W2 = (W1.setCell ⟨w.heap.size + 1, 0, none⟩ (.int .i64 (p1.tdiv n))).setCell ⟨w.heap.size + 1, 1, none⟩ (.int .i64 (p2.tdiv n)) := ⟨_, rfl⟩
      have ne : w.heap.size ≠ w.heap.size + 1 := by omega
      have ne2 : W0.heap.size ≠ w.heap.size + 1 := by omega
      have FX : Hid (∀ X, (X = W1 ∨ X = W2) → W1.heap.size ≤ X.heap.size ∧ X.cell? ⟨w.heap.size, 0, none⟩ = some (.int .i64 p1) ∧ X.cell? ⟨w.heap.size, 1, none⟩ = some (.int .i64 p2) ∧ X.cell? ⟨W0.heap.size, 0, none⟩ = some (.int .i64 (p1.tdiv n)) ∧ X.cell? ⟨W0.heap.size, 1, none⟩ = some (.int .i64 (p2.tdiv n))) := Lib.hid (fun X hX => by
        rcases hX with rfl | rfl
        · exact ⟨Nat.le_refl _, r0, r1, yW10_0, yW10_1⟩
        · rw [hW2]
          have o : ∀ (bb oo : Nat), bb ≠ w.heap.size + 1 → ((W1.setCell ⟨w.heap.size + 1, 0, none⟩ (.int .i64 (p1.tdiv n))).setCell ⟨w.heap.size + 1, 1, none⟩ (.int .i64 (p2.tdiv n))).cell? ⟨bb, oo, none⟩ = W1.cell? ⟨bb, oo, none⟩ := fun bb oo hh => by
            rw [World.cell?_setCell_other _ _ _ _ (fun e => hh (by injection e with e1 e2; exact e1.symm)), World.cell?_setCell_other _ _ _ _ (fun e => hh (by injection e with e1 e2; exact e1.symm))]
          exact ⟨by simp [World.setCell], (o _ _ ne).trans r0, (o _ _ ne).trans r1, (o _ _ ne2).trans yW10_0, (o _ _ ne2).trans yW10_1⟩)
      have HW2 := Lib.hid hW2
      have BW2 : Below w.heap.size w W2 := by
        rw [hW2]
        exact Below.setCell (Below.setCell (BW0.trans (BW1.mono BW0.size)) (by simp) _) (by simp) _
      have s0 : W2.cell? ⟨w.heap.size + 1, 0, none⟩ = some (.int .i64 (p1.tdiv n)) := by
        rw [hW2, World.cell?_setCell_other _ _ _ _ (fun e => by injection e with e1 e2; cases e2), World.cell?_setCell_same _ _ _ r2]
      have s1 : W2.cell? ⟨w.heap.size + 1, 1, none⟩ = some (.int .i64 (p2.tdiv n)) := by
        rw [hW2]
        exact World.cell?_setCell_same _ _ _ (show (W1.setCell ⟨w.heap.size + 1, 0, none⟩ (.int .i64 (p1.tdiv n))).cell? ⟨w.heap.size + 1, 1, none⟩ = some (.int .i64 0) by rw [World.cell?_setCell_other _ _ _ _ (fun e => by injection e with e1 e2; cases e2)]; exact r3)
      clear hW2
      go_wp2_with fail
      refine wp_region_Z 6 W1.heap.size W1 W2 (by kernel_rfl) (by repeat (first | exact Below.refl _ _ | apply Below.drew)) ?_
      first | refine wpZ_skip 0 rfl (by kernel_rfl) (by kernel_rfl) (by kernel_rfl) (by rfl) (by decide) ?_ | (refine wpZ_text 0 (v := ?_) rfl (by kernel_rfl) (by kernel_rfl) (by kernel_rfl) (by rfl) (by decide) (fun X hX W k1 => ?_) ?_; rotate_left; (obtain ⟨hX0, x0, x1, x2, x3⟩ := FX.out X hX; obtain ⟨hc1, hf1⟩ := bcellN k1; go_simp; refine comes_v ?_; exact k1))
      (try simp only [Act.put, List.setIfInBounds_toArray, List.set_cons_zero, List.set_cons_succ])
      first | refine wpZ_skip 1 rfl (by kernel_rfl) (by kernel_rfl) (by kernel_rfl) (by rfl) (by decide) ?_ | (refine wpZ_text 1 (v := ?_) rfl (by kernel_rfl) (by kernel_rfl) (by kernel_rfl) (by rfl) (by decide) (fun X hX W k1 => ?_) ?_; rotate_left; (obtain ⟨hX0, x0, x1, x2, x3⟩ := FX.out X hX; obtain ⟨hc1, hf1⟩ := bcellN k1; go_simp; refine comes_v ?_; exact k1))
      (try simp only [Act.put, List.setIfInBounds_toArray, List.set_cons_zero, List.set_cons_succ])
      first | refine wpZ_skip 2 rfl (by kernel_rfl) (by kernel_rfl) (by kernel_rfl) (by rfl) (by decide) ?_ | (refine wpZ_text 2 (v := ?_) rfl (by kernel_rfl) (by kernel_rfl) (by kernel_rfl) (by rfl) (by decide) (fun X hX W k1 => ?_) ?_; rotate_left; (obtain ⟨hX0, x0, x1, x2, x3⟩ := FX.out X hX; obtain ⟨hc1, hf1⟩ := bcellN k1; go_simp; refine comes_v ?_; exact k1))
      (try simp only [Act.put, List.setIfInBounds_toArray, List.set_cons_zero, List.set_cons_succ])
      first | refine wpZ_skip 3 rfl (by kernel_rfl) (by kernel_rfl) (by kernel_rfl) (by rfl) (by decide) ?_ | (refine wpZ_text 3 (v := .agg #[.int .i64 m1, .int .i64 m2]) rfl (by kernel_rfl) (by kernel_rfl) (by kernel_rfl) (by rfl) (by decide) (fun X hX W k1 => ?_) ?_; (obtain ⟨hX0, x0, x1, x2, x3⟩ := FX.out X hX; obtain ⟨hc1, hf1⟩ := bcellN k1; go_simp; exact comes_c ( K.out _) (fun wn hbn => k1.trans (hbn.mono (Nat.le_trans hX0 k1.size)))))
      (try simp only [Act.put, List.setIfInBounds_toArray, List.set_cons_zero, List.set_cons_succ])
      first | refine wpZ_skip 4 rfl (by kernel_rfl) (by kernel_rfl) (by kernel_rfl) (by rfl) (by decide) ?_ | (refine wpZ_text 4 (v := ?_) rfl (by kernel_rfl) (by kernel_rfl) (by kernel_rfl) (by rfl) (by decide) (fun X hX W k1 => ?_) ?_; rotate_left; (obtain ⟨hX0, x0, x1, x2, x3⟩ := FX.out X hX; obtain ⟨hc1, hf1⟩ := bcellN k1; go_simp; refine comes_v ?_; exact k1))
      (try simp only [Act.put, List.setIfInBounds_toArray, List.set_cons_zero, List.set_cons_succ])
      first | refine wpZ_skip 5 rfl (by kernel_rfl) (by kernel_rfl) (by kernel_rfl) (by rfl) (by decide) ?_ | (refine wpZ_text 5 (v := ?_) rfl (by kernel_rfl) (by kernel_rfl) (by kernel_rfl) (by rfl) (by decide) (fun X hX W k1 => ?_) ?_; rotate_left; (obtain ⟨hX0, x0, x1, x2, x3⟩ := FX.out X hX; obtain ⟨hc1, hf1⟩ := bcellN k1; go_simp; refine comes_v ?_; exact k1))
      (try simp only [Act.put, List.setIfInBounds_toArray, List.set_cons_zero, List.set_cons_succ])
      (refine wpZ_store (v := undef) rfl (by kernel_rfl) (by kernel_rfl) (by kernel_rfl) (by rfl) (fun W k1 => ?_) ?_; (obtain ⟨hc1, hf1⟩ := bcellN k1; go_simp; refine ⟨rfl, ?_⟩; rw [HW2.out]; exact below_set2 (below_set2 k1 _ _ zB) _ _ zB))
      (try simp only [Act.put, List.setIfInBounds_toArray, List.set_cons_zero, List.set_cons_succ])
      first | refine wpZ_skip 7 rfl (by kernel_rfl) (by kernel_rfl) (by kernel_rfl) (by rfl) (by decide) ?_ | (refine wpZ_text 7 (v := ?_) rfl (by kernel_rfl) (by kernel_rfl) (by kernel_rfl) (by rfl) (by decide) (fun X hX W k1 => ?_) ?_; rotate_left; (obtain ⟨hX0, x0, x1, x2, x3⟩ := FX.out X hX; obtain ⟨hc1, hf1⟩ := bcellN k1; go_simp; refine comes_v ?_; exact k1))
      (try simp only [Act.put, List.setIfInBounds_toArray, List.set_cons_zero, List.set_cons_succ])
      refine wpZ_done (by kernel_rfl) (by kernel_rfl) ?_ _
      intro W k1; obtain ⟨hc1, hf1⟩ := bcellN k1
      have B1 : Below w.heap.size w W := BW2.trans (k1.mono (by omega))
      go_wp2_with fail
      refine bodyPost_ret (v := .tuple #[.agg #[.int .i64 (p1.tdiv n), .int .i64 (p2.tdiv n)], .bool false]) (by simp [results, Try.results66, go_sem, hc1, zB, s0, s1]) rfl ⟨by simp [c1], ?_⟩
      repeat (first | with_reducible assumption | with_reducible exact Below.refl _ _ | with_reducible apply Below.drew | ((with_reducible refine Below.setCell ?_ ?_ _); rotate_left; (first | exact Nat.le_refl _ | omega | (simp <;> omega))) | ((with_reducible refine Below.alloc ?_ ?_ _); rotate_left; (first | omega | (simp <;> omega))))
end Go.Proofs.Ytieimijkkjhegaa
