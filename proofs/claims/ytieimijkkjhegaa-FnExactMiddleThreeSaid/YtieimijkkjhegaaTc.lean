/- contracts: a triangle's corners together; twice its area without a sign -/
import Derived.Test.YtieimijkkjhegaaTb
namespace Go.Proofs.Ytieimijkkjhegaa
open Go.ChangeShapes Go.WideShapes Go.ChangeAt Go.RowKit Go.Joins
set_option linter.unusedVariables false
set_option linter.unusedSimpArgs false
set_option maxRecDepth 4000
theorem twiceSize_any (a1 a2 b1 b2 c1 c2 : Int) (w : World) (ha : Sz a1 a2) (hb : Sz b1 b2) (hc : Sz c1 c2) :
    Calls Try.prog 63 #[.agg #[.int .i64 a1, .int .i64 a2, .int .i64 b1, .int .i64 b2, .int .i64 c1, .int .i64 c2]] w fun e w' => e = .returned (.int .i64 ((twI a1 a2 b1 b2 c1 c2).natAbs : Int)) ∧ Below w.heap.size w w' := by
  have K := Lib.hid (fun W => twice_any a1 a2 b1 b2 c1 c2 W ha hb hc)
  obtain ⟨t1, t2⟩ := twI_bd ha hb hc
  generalize twI a1 a2 b1 b2 c1 c2 = t at *
  clear ha hb hc
  have e1 : IntKind.i64.wrap (-t) = -t := IntWalk.i64_in _ (by omega)
  by_cases h : t < -t
  all_goals
    go_enter Try.func63, Try.ntmps63
    go_wp2_with fail
    obtain ⟨W0, hW0⟩ : ∃ W0, W0 = (w.alloc (.cells #[.int .i64 a1, .int .i64 a2, .int .i64 b1, .int .i64 b2, .int .i64 c1, .int .i64 c2] 76)) := ⟨_, rfl⟩
    rw [← hW0]
    have yW00_0 : W0.cell? ⟨w.heap.size, 0, none⟩ = some (.int .i64 a1) := by rw [hW0]; go_simp
    have yW00_1 : W0.cell? ⟨w.heap.size, 1, none⟩ = some (.int .i64 a2) := by rw [hW0]; go_simp
    have yW00_2 : W0.cell? ⟨w.heap.size, 2, none⟩ = some (.int .i64 b1) := by rw [hW0]; go_simp
    have yW00_3 : W0.cell? ⟨w.heap.size, 3, none⟩ = some (.int .i64 b2) := by rw [hW0]; go_simp
    have yW00_4 : W0.cell? ⟨w.heap.size, 4, none⟩ = some (.int .i64 c1) := by rw [hW0]; go_simp
    have yW00_5 : W0.cell? ⟨w.heap.size, 5, none⟩ = some (.int .i64 c2) := by rw [hW0]; go_simp
    have fW00 : ∀ o, W0.frozen? ⟨w.heap.size, o, none⟩ = false := by intro o; rw [hW0]; (repeat rw [frozen?_alloc_cells]); simp [World.frozen?]
    have zW00 : w.heap.size < W0.heap.size := by rw [hW0]; simp <;> omega
    have BW0 : Below w.heap.size w W0 := by rw [hW0]; exact (Below.alloc (Below.refl _ _) (by simp <;> omega) _)
    have eW0 : Hid (W0.heap.size = w.heap.size + 1) := Lib.hid (by rw [hW0]; simp)
    clear hW0
    refine wp_region_BT 6 (fun W => Below (W0).heap.size (W0) W) (by kernel_rfl) (by kernel_rfl) (by repeat (first | exact Below.refl _ _ | apply Below.drew)) ?_
    simp only [List.take_succ_cons, List.take_zero, List.drop_succ_cons, List.drop_zero]
    first | refine wpH_skip (by rfl) ?_ | (refine wpH_text (v := ?_) (by rfl) (fun W k1 => ?_) ?_; rotate_left; (obtain ⟨hc1, hf1⟩ := bcell k1;  go_simp; refine comes_v ?_; exact k1))
    (try simp only [Act.put, List.setIfInBounds_toArray, List.set_cons_zero, List.set_cons_succ])
    first | refine wpH_skip (by rfl) ?_ | (refine wpH_text (v := .int .i64 t) (by rfl) (fun W k1 => ?_) ?_; (obtain ⟨hc1, hf1⟩ := bcell k1;  go_simp; exact comes_c ( K.out _) (fun wn hbn => k1.trans (hbn.mono k1.size))))
    (try simp only [Act.put, List.setIfInBounds_toArray, List.set_cons_zero, List.set_cons_succ])
    first | refine wpH_skip (by rfl) ?_ | (refine wpH_text (v := ?_) (by rfl) (fun W k1 => ?_) ?_; rotate_left; (obtain ⟨hc1, hf1⟩ := bcell k1;  go_simp; refine comes_v ?_; exact k1))
    (try simp only [Act.put, List.setIfInBounds_toArray, List.set_cons_zero, List.set_cons_succ])
    first | refine wpH_skip (by rfl) ?_ | (refine wpH_text (v := .int .i64 t) (by rfl) (fun W k1 => ?_) ?_; (obtain ⟨hc1, hf1⟩ := bcell k1;  go_simp; exact comes_c ( K.out _) (fun wn hbn => k1.trans (hbn.mono k1.size))))
    (try simp only [Act.put, List.setIfInBounds_toArray, List.set_cons_zero, List.set_cons_succ])
    first | refine wpH_skip (by rfl) ?_ | (refine wpH_text (v := ?_) (by rfl) (fun W k1 => ?_) ?_; rotate_left; (obtain ⟨hc1, hf1⟩ := bcell k1;  go_simp; refine comes_v ?_; exact k1))
    (try simp only [Act.put, List.setIfInBounds_toArray, List.set_cons_zero, List.set_cons_succ])
    first | refine wpH_skip (by rfl) ?_ | (refine wpH_text (v := ?_) (by rfl) (fun W k1 => ?_) ?_; rotate_left; (obtain ⟨hc1, hf1⟩ := bcell k1;  go_simp; refine comes_v ?_; exact k1))
    (try simp only [Act.put, List.setIfInBounds_toArray, List.set_cons_zero, List.set_cons_succ])
    refine wpH_nil ?_
    intro W k1; obtain ⟨hc1, hf1⟩ := bcell k1
    have B1 : Below w.heap.size w W := BW0.trans (k1.mono BW0.size)
    go_wp2_with fail
    go_ret
    exact ⟨ret_int (by omega), B1⟩
end Go.Proofs.Ytieimijkkjhegaa
