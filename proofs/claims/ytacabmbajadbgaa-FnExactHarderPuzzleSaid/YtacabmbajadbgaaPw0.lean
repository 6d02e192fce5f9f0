/- contracts: a part of a puzzle's clues -/
import Derived.Test.YtacabmbajadbgaaPzE
namespace Go.Proofs.Ytacabmbajadbgaa
open Go.ChangeShapes Go.WideShapes Go.ChangeAt Go.RowKit Go.Joins
set_option linter.unusedVariables false
set_option linter.unusedSimpArgs false
set_option maxRecDepth 4000
theorem pbx_two (w : World) (s : Int) (A : Option Addr) (n c : Nat) (T T' : TypeId) : ∃ W, W = (w.alloc (.cells #[.int .i64 s, .slice A n c] T)).alloc (.cells #[.int .i64 0, .slice none 0 0] T') ∧ Below w.heap.size w W ∧ w.heap.size + 1 < W.heap.size ∧ W.cell? ⟨w.heap.size, 0, none⟩ = some (.int .i64 s) ∧ W.cell? ⟨w.heap.size, 1, none⟩ = some (.slice A n c) ∧ W.cell? ⟨w.heap.size + 1, 0, none⟩ = some (.int .i64 0) ∧ W.cell? ⟨w.heap.size + 1, 1, none⟩ = some (.slice none 0 0) ∧ (∀ o, W.frozen? ⟨w.heap.size + 1, o, none⟩ = false) := by
  have e : w.heap[w.heap.size + 1]? = none := Array.getElem?_eq_none (by omega)
  exact ⟨_, rfl, Below.alloc (Below.alloc (Below.refl _ _) (Nat.le_refl _) _) (by simp) _, by simp, by go_simp, by go_simp, by go_simp, by go_simp, fun o => by (repeat rw [frozen?_alloc_cells]); simp [World.frozen?, e]⟩
theorem pbx_set {W : World} {b : Nat} {s : Int} {A : Option Addr} {n c : Nat} {a : Addr} (h : Pbx W b s A n c) (u : Value) (ha : a.block ≠ b) : Pbx (W.setCell a u) b s A n c := by
  have hc : ∀ o, (W.setCell a u).cell? ⟨b, o, none⟩ = W.cell? ⟨b, o, none⟩ := fun o => World.cell?_setCell_other _ _ _ _ (fun e => ha (by rw [e]))
  exact ⟨by simpa [World.setCell] using h.z, (hc 0).trans h.c0, (hc 1).trans h.c1⟩
set_option maxHeartbeats 2000000 in
theorem part_any (s : Int) (bk off c n a b : Nat) (w : World) (hab : a ≤ b) (hbn : b ≤ n) (hnc : n ≤ c) (hc : c ≤ 9223372036854775807) :
    Calls Try.prog 65 #[.agg #[.int .i64 s, .slice (some ⟨bk, off, none⟩) n c], .int .i64 (a : Int), .int .i64 (b : Int)] w fun e w' => (∃ A', e = .returned (.agg #[.int .i64 s, .slice A' (b - a) (b - a)]) ∧ (a < b → A' = some ⟨bk, off + a * 4, none⟩)) ∧ Below w.heap.size w w' := by
  obtain ⟨W, hW, B0, z, c0, c1, r0, r1, fr⟩ := pbx_two w s (some ⟨bk, off, none⟩) n c 28 28
  have h1 : (a : Int) ≤ (b : Int) := by omega
  have h2 : (b : Int) ≤ (c : Int) := by omega
  have z1 : w.heap.size < W.heap.size := by omega
  have hbc : b ≤ c := by omega
  have f0 := fr 0
  have f1 := fr 1
  clear fr
  by_cases hlt : a < b
  · have hne : ¬ b - a = 0 := by omega
    have hne2 : ¬ b = a := by omega
    go_enter Try.func65, Try.ntmps65
    go_wp2_with fail
    rw [← hW]
    clear hW
    go_region
    all_goals
      go_wp2_with fail
      refine bodyPost_ret (v := .agg #[.int .i64 s, .slice (some ⟨bk, off + a * 4, none⟩) (b - a) (b - a)]) (by simp [results, Try.results65, go_sem, c0, c1, r0, r1, z, z1]) rfl ⟨⟨_, rfl, fun _ => rfl⟩, ?_⟩
      repeat (first | with_reducible assumption | with_reducible exact Below.refl _ _ | with_reducible apply Below.drew | ((with_reducible refine Below.setCell ?_ ?_ _); rotate_left; (first | exact Nat.le_refl _ | omega | (simp <;> omega))) | ((with_reducible refine Below.alloc ?_ ?_ _); rotate_left; (first | omega | (simp <;> omega))))
  · obtain rfl : a = b := by omega
    go_enter Try.func65, Try.ntmps65
    go_wp2_with fail
    rw [← hW]
    clear hW
    go_region
    all_goals
      go_wp2_with fail
      refine bodyPost_ret (v := .agg #[.int .i64 s, .slice (some ⟨bk, off, none⟩) (a - a) (a - a)]) (by simp [results, Try.results65, go_sem, c0, c1, r0, r1, z, z1]) rfl ⟨⟨_, rfl, fun h => absurd h (by omega)⟩, ?_⟩
      repeat (first | with_reducible assumption | with_reducible exact Below.refl _ _ | with_reducible apply Below.drew | ((with_reducible refine Below.setCell ?_ ?_ _); rotate_left; (first | exact Nat.le_refl _ | omega | (simp <;> omega))) | ((with_reducible refine Below.alloc ?_ ?_ _); rotate_left; (first | omega | (simp <;> omega))))
end Go.Proofs.Ytacabmbajadbgaa
