/- contracts: slices.Grow and slices.Concat of clues; a puzzle without a clue, the program -/
import Derived.Test.YtacabmbajadbgaaPw4
namespace Go.Proofs.Ytacabmbajadbgaa
open Go.ChangeShapes Go.WideShapes Go.ChangeAt Go.RowKit Go.Joins
set_option linter.unusedVariables false
set_option linter.unusedSimpArgs false
set_option maxRecDepth 4000
set_option maxHeartbeats 2000000 in
theorem part_some (s : Int) (bk off c n a b : Nat) (w : World) (hab : a ≤ b) (hbn : b ≤ n) (hnc : n ≤ c) (hc : c ≤ 9223372036854775807) :
    Calls Try.prog 65 #[.agg #[.int .i64 s, .slice (some ⟨bk, off, none⟩) n c], .int .i64 (a : Int), .int .i64 (b : Int)] w fun e w' => (∃ o', e = .returned (.agg #[.int .i64 s, .slice (some ⟨bk, o', none⟩) (b - a) (b - a)]) ∧ (a < b → o' = off + a * 4)) ∧ Below w.heap.size w w' := by
  obtain ⟨W, hW, B0, z, c0, c1, r0, r1, fr⟩ := pbx_two w s (some ⟨bk, off, none⟩) n c 28 28
  have h1 : (a : Int) ≤ (b : Int) := by omega
  have h2 : (b : Int) ≤ (c : Int) := by omega
  have z1 : w.heap.size < W.heap.size := by omega
  have hbc : b ≤ c := by omega
  have f0 := fr 0
  have f1 := fr 1
  clear fr
  by_cases hlt : a < b
  · have hne : ¬ b - a = 0 := by omega
    have hne2 : ¬ b = a := by omega
    go_enter Try.func65, Try.ntmps65
    go_wp2_with fail
    rw [← hW]
    clear hW
    go_region
    all_goals
      go_wp2_with fail
      refine bodyPost_ret (v := .agg #[.int .i64 s, .slice (some ⟨bk, off + a * 4, none⟩) (b - a) (b - a)]) (by simp [results, Try.results65, go_sem, c0, c1, r0, r1, z, z1]) rfl ⟨⟨_, rfl, fun _ => rfl⟩, ?_⟩
      repeat (first | with_reducible assumption | with_reducible exact Below.refl _ _ | with_reducible apply Below.drew | ((with_reducible refine Below.setCell ?_ ?_ _); rotate_left; (first | exact Nat.le_refl _ | omega | (simp <;> omega))) | ((with_reducible refine Below.alloc ?_ ?_ _); rotate_left; (first | omega | (simp <;> omega))))
  · obtain rfl : a = b := by omega
    go_enter Try.func65, Try.ntmps65
    go_wp2_with fail
    rw [← hW]
    clear hW
    go_region
    all_goals
      go_wp2_with fail
      refine bodyPost_ret (v := .agg #[.int .i64 s, .slice (some ⟨bk, off, none⟩) (a - a) (a - a)]) (by simp [results, Try.results65, go_sem, c0, c1, r0, r1, z, z1]) rfl ⟨⟨_, rfl, fun h => absurd h (by omega)⟩, ?_⟩
      repeat (first | with_reducible assumption | with_reducible exact Below.refl _ _ | with_reducible apply Below.drew | ((with_reducible refine Below.setCell ?_ ?_ _); rotate_left; (first | exact Nat.le_refl _ | omega | (simp <;> omega))) | ((with_reducible refine Below.alloc ?_ ?_ _); rotate_left; (first | omega | (simp <;> omega))))
theorem zeroCells_size (z : Array Value) (n : Nat) : (Builtin.zeroCells z n).size = n * z.size := by unfold Builtin.zeroCells; simp
set_option maxHeartbeats 2000000 in
theorem growC_any (n : Nat) (w : World) (hn : n ≤ 6) :
    Calls Try.prog 115 #[.slice none 0 0, .int .i64 (n : Int)] w fun e w' => (∃ v, e = .returned v ∧ w'.ownsRow w.heap.size 38 4 v 0 []) ∧ Below w.heap.size w w' := by
  rcases Nat.eq_zero_or_pos n with h0 | h0
  · subst h0
    go_enter Try.func115, Try.ntmps115
    go_wp2_with fail
    go_ret
    exact ⟨⟨_, rfl, World.ownsRow_nil _ _ _ _⟩, Below.refl _ _⟩
  · obtain ⟨i0, hi0, hz0, hz1, hz2⟩ := clue_parts
    have hold : (Builtin.firstCells i0.size 0 (.slice none 0 0)).run Try.prog w.drew = .ok ([] : List Value).toArray w.drew := run_firstCells_none w.drew i0.size 0 0 0
    have hzs : (Value.agg #[.int .i64 0, .int .i64 0, .int .i64 0, .int .i64 0]).cells.size = 4 := rfl
    have hrz : ∀ ty, (Builtin.append_ #[26, 3] ty #[.slice none 0 0, .int .i64 (n : Int)]).run Try.prog w = .ok (.slice (some ⟨w.heap.size, 0, none⟩) n (grownCap w n 0 38)) (w.drew.alloc (.cells (([] : List Value).toArray ++ Builtin.zeroCells (Value.agg #[.int .i64 0, .int .i64 0, .int .i64 0, .int .i64 0]).cells n ++ Builtin.zeroCells (Value.agg #[.int .i64 0, .int .i64 0, .int .i64 0, .int .i64 0]).cells (grownCap w n 0 38 - n)) 38)) := fun ty => by
      have h := Lib.run_append_grow_zeros (P := Try.prog) w 26 3 ty 38 i0 _ .i64 .i64 Try.underlying26 Try.underlying3 hi0 hz0 none 0 0 [] hold n h0 (by rw [hz1]; decide) (by omega) (by omega) (by rw [hz2]; omega) (growslice_fits (by omega) (by rw [hz2]; omega))
      rw [Nat.zero_add] at h
      exact h
    have hGn : n ≤ grownCap w n 0 38 := grownCap_ge w _ _ _
    have hGm : grownCap w n 0 38 ≤ maxLen := grownCap_le_maxLen w n 0 38 (by unfold maxLen; omega)
    obtain ⟨G, hG⟩ : ∃ G, G = grownCap w n 0 38 := ⟨_, rfl⟩
    rw [← hG] at hrz hGn hGm
    clear hG
    obtain ⟨cur, hcur⟩ : ∃ cur, cur = (([] : List Value).toArray ++ Builtin.zeroCells (Value.agg #[.int .i64 0, .int .i64 0, .int .i64 0, .int .i64 0]).cells n ++ Builtin.zeroCells (Value.agg #[.int .i64 0, .int .i64 0, .int .i64 0, .int .i64 0]).cells (G - n)) := ⟨_, rfl⟩
    have hcs : cur.size = G * 4 := by
      rw [hcur, Array.size_append, Array.size_append, zeroCells_size, zeroCells_size, hzs]
      simp
      omega
    rw [← hcur] at hrz
    clear hcur hold hzs
    have hG63 : G ≤ 9223372036854775807 := by unfold maxLen at hGm; omega
    have h1 : ¬ ((n : Int) < 0) := by omega
    have h4 : (0 : Int) < (n : Int) := by omega
    have e1 : IntKind.i64.wrap ((n : Int) - 0) = (n : Int) := by rw [IntWalk.i64_in _ (by omega)]; omega
    go_enter Try.func115, Try.ntmps115
    go_wp2_with (at_builtin; refine Lib.wpList_append_run _ rfl _ _ _ _ rfl _ _ rfl rfl _ _ (hrz _) ?_)
    all_goals
      go_ret
      exact ⟨⟨_, rfl, rfl, .inr ⟨w.heap.size, G, cur, rfl, Nat.le_refl _, heap_alloc_new w.drew _, Nat.zero_le _, hGm, hcs, rfl⟩⟩, Below.alloc (Below.refl _ _).drew (Nat.le_refl _) _⟩
end Go.Proofs.Ytacabmbajadbgaa
