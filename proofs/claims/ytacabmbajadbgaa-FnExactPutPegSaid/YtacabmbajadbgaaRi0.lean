/- contracts: rings, the program: with, list, sums -/
import Derived.Test.YtacabmbajadbgaaR
import Derived.Test.YtacabmbajadbgaaK
import Derived.LoopTactic
import Derived.BigRegion
import Derived.Lib.SmallJoins
namespace Go.Proofs.Ytacabmbajadbgaa
open Go.ChangeShapes Go.WideShapes Go.ChangeAt Go.RowKit Go.Joins
set_option linter.unusedVariables false
set_option linter.unusedSimpArgs false
set_option maxRecDepth 4000
/-- a ring as a value: nine numbers and how many count -/
def rv (F : Nat → Int) (c : Int) : Value := .agg #[.int .i64 (F 0), .int .i64 (F 1), .int .i64 (F 2), .int .i64 (F 3), .int .i64 (F 4), .int .i64 (F 5), .int .i64 (F 6), .int .i64 (F 7), .int .i64 (F 8), .int .i64 c]
def upd (F : Nat → Int) (j : Nat) (x : Int) (i : Nat) : Int := if i = j then x else F i
/-- a ring's box -/
structure Rg (w : World) (g : Nat) (F : Nat → Int) (c : Int) : Prop where
  h : w.heap[g]? = some (.cells #[.int .i64 (F 0), .int .i64 (F 1), .int .i64 (F 2), .int .i64 (F 3), .int .i64 (F 4), .int .i64 (F 5), .int .i64 (F 6), .int .i64 (F 7), .int .i64 (F 8), .int .i64 c] 97 (0, 0))
theorem rg_z {w : World} {g : Nat} {F : Nat → Int} {c : Int} (r : Rg w g F c) : g < w.heap.size := (Array.getElem?_eq_some_iff.1 r.h).1
theorem rg_below {w w' : World} {g : Nat} {F : Nat → Int} {c : Int} (r : Rg w g F c) (hb : Below w.heap.size w w') : Rg w' g F c := ⟨(hb.block g (rg_z r)).trans r.h⟩
theorem rg_cell {w : World} {g : Nat} {F : Nat → Int} {c : Int} (r : Rg w g F c) : ∀ i, i < 9 → w.cell? ⟨g, i, none⟩ = some (.int .i64 (F i)) := by
  intro i hi
  have k := fun j => cell_of_row w g j _ 97 (0, 0) r.h
  have h9 : i = 0 ∨ i = 1 ∨ i = 2 ∨ i = 3 ∨ i = 4 ∨ i = 5 ∨ i = 6 ∨ i = 7 ∨ i = 8 := by omega
  rcases h9 with rfl | rfl | rfl | rfl | rfl | rfl | rfl | rfl | rfl
  all_goals exact (k _).trans rfl
theorem rg_count {w : World} {g : Nat} {F : Nat → Int} {c : Int} (r : Rg w g F c) : w.cell? ⟨g, 9, none⟩ = some (.int .i64 c) := (cell_of_row w g 9 _ 97 (0, 0) r.h).trans rfl
theorem rg_new (w : World) (F : Nat → Int) (c : Int) : Rg (w.alloc (.cells #[.int .i64 (F 0), .int .i64 (F 1), .int .i64 (F 2), .int .i64 (F 3), .int .i64 (F 4), .int .i64 (F 5), .int .i64 (F 6), .int .i64 (F 7), .int .i64 (F 8), .int .i64 c] 97)) w.heap.size F c := ⟨heap_alloc_new w _⟩
set_option maxHeartbeats 4000000 in
theorem with_any (F : Nat → Int) (j : Nat) (x : Int) (w : World) (hj : j < 9) :
    Calls Try.prog 106 #[rv F j, .int .i64 x] w fun e w' => e = .returned (rv (upd F j x) ((j + 1 : Nat) : Int)) ∧ Below w.heap.size w w' := by
  have hj9 : j = 0 ∨ j = 1 ∨ j = 2 ∨ j = 3 ∨ j = 4 ∨ j = 5 ∨ j = 6 ∨ j = 7 ∨ j = 8 := by omega
  unfold rv upd
  clear hj
  generalize F 0 = n0
  generalize F 1 = n1
  generalize F 2 = n2
  generalize F 3 = n3
  generalize F 4 = n4
  generalize F 5 = n5
  generalize F 6 = n6
  generalize F 7 = n7
  generalize F 8 = n8
  rcases hj9 with rfl | rfl | rfl | rfl | rfl | rfl | rfl | rfl | rfl
  all_goals
    simp only [reduceIte, Nat.reduceEqDiff, Nat.reduceAdd, Int.cast_ofNat_Int]
    go_enter Try.func106, Try.ntmps106
    go_wp2_with fail
    refine bodyPost_ret (v := _) ?_ rfl ⟨rfl, ?_⟩
    · simp [results, Try.results106, go_sem]
    · repeat (first | with_reducible assumption | with_reducible exact Below.refl _ _ | with_reducible apply Below.drew | ((with_reducible refine Below.setCell ?_ ?_ _); rotate_left; (first | exact Nat.le_refl _ | omega | (simp <;> omega))) | ((with_reducible refine Below.alloc ?_ ?_ _); rotate_left; (first | omega | (simp <;> omega))))
theorem slice9 (c : Nat) (hc : c ≤ 9) (a : Addr) (W : World) : (Instr.sliceAt 95 (.pointer (some a)) none (some (.int .i64 (c : Int))) none).run Try.prog W = .ok (.slice (some a) c 9) W := by
  have ht : Try.prog.underlying 95 = some (.array (Try.prog.arrayLen 95) (Try.prog.elem 95)) := by kernel_rfl
  have hl : Try.prog.arrayLen 95 = 9 := by kernel_rfl
  have hz : (sizeOf (Try.prog.elem 95)).run Try.prog W = .ok 1 W := by first | kernel_rfl | rfl | simp [go_sem]
  rw [run_sliceAt_array_h W 95 a ht .i64 (c : Int) (by omega) (by rw [hl]; omega), hz, hl]
  simp [slicedAt, Result.andThen, Addr.add]
/-- its numbers that count, as a slice of a new box -/
theorem list_any (F : Nat → Int) (c : Nat) (w : World) (hc : c ≤ 9) :
    Calls Try.prog 86 #[rv F c] w fun e w' => e = .returned (.slice (some ⟨w.heap.size, 0, none⟩) c 9) ∧ Below w.heap.size w w' ∧ Rg w' w.heap.size F c := by
  have hN := Lib.hid (rg_new w F c)
  have hB := Lib.hid (Below.alloc (Below.refl w.heap.size w) (Nat.le_refl _) (.cells #[.int .i64 (F 0), .int .i64 (F 1), .int .i64 (F 2), .int .i64 (F 3), .int .i64 (F 4), .int .i64 (F 5), .int .i64 (F 6), .int .i64 (F 7), .int .i64 (F 8), .int .i64 c] 97))
  have hs := fun a W => slice9 c hc a W
  unfold rv
  go_enter Try.func86, Try.ntmps86
  go_wp2_with fail
  go_ret
  exact ⟨rfl, hB.out, hN.out⟩
/-- sums of numbers -/
def sN (F : Nat → Int) : Nat → Int
  | 0 => 0
  | n + 1 => sN F n + F n
theorem sN_bd {F : Nat → Int} {n : Nat} (h : ∀ i, i < n → -6 ≤ F i ∧ F i ≤ 6) : -6 * (n : Int) ≤ sN F n ∧ sN F n ≤ 6 * (n : Int) := by
  induction n with
  | zero => exact ⟨Int.le_refl _, Int.le_refl _⟩
  | succ n ih =>
    have := ih (fun i hi => h i (by omega))
    have := h n (by omega)
    have e : sN F (n + 1) = sN F n + F n := rfl
    omega
end Go.Proofs.Ytacabmbajadbgaa
