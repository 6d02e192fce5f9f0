/- slices.Insert of a number into nine numbers: a new row -/
import Derived.Test.YtacabmbajadbgaaPu3
namespace Go.Proofs.Ytacabmbajadbgaa
open Go.ChangeShapes Go.WideShapes Go.ChangeAt Go.RowKit Go.Joins
set_option linter.unusedVariables false
set_option linter.unusedSimpArgs false
set_option maxRecDepth 4000
theorem insertI_grow (g k vb : Nat) (f : Nat → Int) (d : Int) (w : World) (hk : k ≤ 9) (h : Rg w g f d) (hv : w.heap[vb]? = some (.cells #[.int .i64 1] 3 (0, 0))) :
    Calls Try.prog 89 #[.slice (some ⟨g, 0, none⟩) 9 9, .int .i64 (k : Int), .slice (some ⟨vb, 0, none⟩) 1 1] w fun e w' => ∃ c, e = .returned (.slice (some ⟨w.heap.size, 0, none⟩) 10 c) ∧ Bk w' w.heap.size 10 (inF f k) ∧ Below w.heap.size w w' := by
  have hc : ∀ i, i < 9 → w.cell? ⟨g, 0 + i, none⟩ = some (.int .i64 (f i)) := fun i hi => by rw [Nat.zero_add]; exact rg_cell h i hi
  have hcs : ∀ j v, (iL f 9)[j]? = some v → w.cell? ⟨g, 0 + j, none⟩ = some v := fun j v hj => by
    have hjn : j < 9 := by have := (List.getElem?_eq_some_iff.1 hj).1; rwa [iL_len] at this
    rw [iL_get hjn] at hj; injection hj with hj; rw [← hj]; exact hc j hjn
  have hvs : ∀ j v, ([.int .i64 1] : List Value)[j]? = some v → w.cell? ⟨vb, 0 + j, none⟩ = some v := fun j v hj => by
    rcases j with _ | j
    · injection hj with hj
      rw [← hj]
      unfold World.cell?
      simp [hv]
    · simp at hj
  rcases Nat.lt_or_ge k 9 with hkn | hkn
  · have hD := Any2.slices_Insert_int_grow layInsI g 0 9 9 k vb 0 1 1 (iL f 9) [.int .i64 1] w hkn (by omega) (by omega) (by omega) (by omega) (iL_len f 9) rfl hcs hvs (iL_one f 9) (by simp [Value.oneCell'])
    refine Calls.mono hD ?_
    rintro e w' ⟨rfl, rfl⟩
    generalize grownCap w (9 + 1) 9 (layInsI_ren.t 3) = gc
    generalize hA : ((iL f 9).take k).toArray ++ Builtin.zeroCells (Value.int .i64 0).cells (9 + 1 - k) ++ Builtin.zeroCells (Value.int .i64 0).cells (gc - (9 + 1)) = arr
    have hsz : 10 ≤ arr.size := by
      rw [← hA]
      simp only [Array.size_append, size_zeroCells, List.size_toArray, List.length_take, iL_len]
      have : (Value.int .i64 0).cells.size = 1 := rfl
      rw [this]
      omega
    have hlow : ∀ i, i < k → arr[i]? = some (.int .i64 (f i)) := fun i hi => by
      rw [← hA, Array.append_assoc, Array.getElem?_append_left (by simp [iL_len]; omega)]
      rw [List.getElem?_toArray, List.getElem?_take, if_pos hi, iL_get (by omega)]
    clear hA
    obtain ⟨W1, hW1⟩ : ∃ W1, W1 = (w.alloc (.cells arr (layInsI_ren.t 3))).drew := ⟨_, rfl⟩
    have hcell : ∀ i, W1.cell? ⟨w.heap.size, i, none⟩ = arr[i]? := fun i => by rw [hW1]; exact cell_of_row _ _ _ _ _ _ (heap_alloc_new w _)
    have hsome : ∀ i, i < 10 → (W1.cell? ⟨w.heap.size, i, none⟩).isSome = true := fun i hi => by rw [hcell, Array.getElem?_eq_getElem (by omega)]; rfl
    have hz : w.heap.size < W1.heap.size := by rw [hW1]; show w.heap.size < (w.alloc _).heap.size; simp
    have hfz : ∀ o, W1.frozen? ⟨w.heap.size, o, none⟩ = false := fun o => by
      rw [hW1]
      show (w.alloc _).frozen? _ = false
      rw [frozen?_alloc_cells]; simp [World.frozen?]
    have hB : Below w.heap.size w W1 := by rw [hW1]; exact (Below.alloc (Below.refl _ _) (Nat.le_refl _) _).drew
    rw [← hW1]
    have hlen : ((iL f 9).drop k).length = 9 - k := by rw [List.length_drop, iL_len]
    refine ⟨gc, rfl, ⟨?_, fun i hi => ?_, fun o => ?_⟩, ?_⟩
    · rw [setCells_size]; show _ < (W1.setCells _ _ _).heap.size; rw [setCells_size]; exact hz
    · rcases Nat.lt_trichotomy i k with hi2 | hi2 | hi2
      · rw [World.cell?_setCells_out _ _ _ _ _ (fun _ _ => Or.inl (by first | (simp; done) | (simp; omega)))]
        show (W1.setCells _ _ _).cell? _ = _
        rw [World.cell?_setCells_out _ _ _ _ _ (fun _ _ => Or.inl (by first | (simp; done) | (simp; omega))), hcell, hlow i hi2]
        unfold inF; rw [if_pos hi2]
      · subst hi2
        rw [World.cell?_setCells_out _ _ _ _ _ (fun _ _ => Or.inl (by first | (simp; done) | (simp; omega)))]
        show (W1.setCells _ _ _).cell? _ = _
        have := World.cell?_setCells_in w.heap.size [.int .i64 1] i W1 (fun j hj => by
          obtain rfl : j = 0 := by simpa using hj
          exact hsome _ (by omega)) 0 (by simp)
        simp only [Nat.add_zero] at this
        rw [this]
        unfold inF; rw [if_neg (Nat.lt_irrefl _), if_pos rfl]; rfl
      · have := World.cell?_setCells_in w.heap.size ((iL f 9).drop k) (k + 1) (W1.setCells w.heap.size k [.int .i64 1]).drew (fun j hj => by
          rw [hlen] at hj
          show ((W1.setCells w.heap.size k [.int .i64 1]).cell? _).isSome = true
          rw [World.cell?_setCells_out _ _ _ _ _ (fun _ _ => Or.inr (by first | (simp; done) | (simp; omega)))]
          exact hsome _ (by omega)) (i - (k + 1)) (by rw [hlen]; omega)
        rw [show k + 1 + (i - (k + 1)) = i by omega] at this
        rw [this]
        have e : ((iL f 9).drop k)[i - (k + 1)]? = some (.int .i64 (f (i - 1))) := by
          rw [List.getElem?_drop, show k + (i - (k + 1)) = i - 1 by omega, iL_get (by omega)]
        rw [← List.getElem?_eq_getElem, e]
        unfold inF; rw [if_neg (by omega), if_neg (by omega)]
    · rw [World.frozen?_setCells]
      show (W1.setCells _ _ _).frozen? _ = false
      rw [World.frozen?_setCells]; exact hfz o
    · exact below_setCells (Nat.le_refl _) _ _ _ (below_setCells (Nat.le_refl _) _ _ _ hB).drew
  · obtain rfl : k = 9 := by omega
    have hD := Any2.slices_Insert_int_end_grow layInsI (some ⟨g, 0, none⟩) 9 9 vb 0 1 1 (iL f 9) [.int .i64 1] w (by omega) (by omega) (by omega) (by omega) (iL_len f 9) rfl (fun e => by cases e)
      (fun a ha j v hj => by injection ha with ha; rw [← ha, add_plain]; exact hcs j v hj) hvs (by simp [Value.oneCell'])
    refine Calls.mono hD ?_
    rintro e w' ⟨rfl, rfl⟩
    generalize grownCap w (9 + 1) 9 (layInsI_ren.t 3) = gc
    have hcell : ∀ arr T i, (w.drew.alloc (.cells arr T)).cell? ⟨w.heap.size, i, none⟩ = arr[i]? := fun arr T i => cell_of_row _ _ _ _ _ _ (heap_alloc_new w.drew _)
    refine ⟨gc, rfl, ⟨?_, fun i hi => ?_, fun o => ?_⟩, ?_⟩
    · show w.heap.size < (w.drew.alloc _).heap.size; simp
    · rw [hcell, Array.getElem?_append_left (by simp [iL_len]; omega), List.getElem?_toArray]
      rcases Nat.lt_or_ge i 9 with hi2 | hi2
      · rw [List.getElem?_append_left (by rw [iL_len]; exact hi2), iL_get hi2]
        unfold inF; rw [if_pos hi2]
      · obtain rfl : i = 9 := by omega
        rw [List.getElem?_append_right (by rw [iL_len]; exact Nat.le_refl _), iL_len]
        unfold inF; rw [if_neg (Nat.lt_irrefl _), if_pos rfl]; rfl
    · rw [frozen?_alloc_cells]; simp [World.frozen?]
    · exact Below.alloc (Below.refl _ _).drew (Nat.le_refl _) _
theorem insertI_any (g n k vb : Nat) (f : Nat → Int) (d : Int) (w : World) (h1 : 1 ≤ n) (hn : n ≤ 9) (hk : k ≤ n) (h : Rg w g f d) (hv : w.heap[vb]? = some (.cells #[.int .i64 1] 3 (0, 0))) (hvg : vb ≠ g) :
    Calls Try.prog 89 #[.slice (some ⟨g, 0, none⟩) n 9, .int .i64 (k : Int), .slice (some ⟨vb, 0, none⟩) 1 1] w fun e w' => ∃ g2 c, e = .returned (.slice (some ⟨g2, 0, none⟩) (n + 1) c) ∧ g ≤ g2 ∧ Bk w' g2 (n + 1) (inF f k) ∧ Below g w w' := by
  rcases Nat.lt_or_ge n 9 with h9 | h9
  · refine (insertI_room g n k vb f d w h1 (by omega) hk h hv hvg).mono ?_
    rintro e w' ⟨rfl, h2, h3⟩
    exact ⟨g, 9, rfl, Nat.le_refl _, h2, h3⟩
  · obtain rfl : n = 9 := by omega
    refine (insertI_grow g k vb f d w hk h hv).mono ?_
    rintro e w' ⟨c, rfl, h2, h3⟩
    exact ⟨_, c, rfl, Nat.le_of_lt (rg_z h), h2, h3.mono (Nat.le_of_lt (rg_z h))⟩
end Go.Proofs.Ytacabmbajadbgaa
