/- slices.Insert of a number into a ring's numbers -/
import Derived.Test.YtacabmbajadbgaaPu2
import Derived.Shelf.Spec.SlicesInsertGrow
import Derived.Test.YtacabmbajadbgaaRows
namespace Go.Proofs.Ytacabmbajadbgaa
open Go.ChangeShapes Go.WideShapes Go.ChangeAt Go.RowKit Go.Joins
set_option linter.unusedVariables false
set_option linter.unusedSimpArgs false
set_option maxRecDepth 4000
section
open Go.Shelf
def layInsI_ren : Go.Shelf.Ren := ⟨fun | 21 => 89 | 27 => 107 | 28 => 108 | 35 => 123 | 39 => 130 | n => n, fun | 22 => 41 | 3 => 3 | 4 => 4 | 0 => 0 | n => n, fun | n => n⟩
theorem layInsI : Go.Proofs.Lays2.n21 Try.prog layInsI_ren := {
  mixed := by kernel_rfl
  f21 := Try.func89.trans (congrArg some (by kernel_rfl))
  f27 := Try.func107.trans (congrArg some (by kernel_rfl))
  f28 := Try.func108.trans (congrArg some (by kernel_rfl))
  f35 := Try.func123.trans (congrArg some (by kernel_rfl))
  f39 := Try.func130.trans (congrArg some (by kernel_rfl))
  t0 := Try.underlying0
  a0 := Try.isAgg0
  z0 := Try.sizeOf0
  v0 := Try.zeroValue0
  t3 := Try.underlying3
  a3 := Try.isAgg3
  z3 := Try.sizeOf3
  v3 := Try.zeroValue3
  t4 := Try.underlying4
  a4 := Try.isAgg4
  z4 := Try.sizeOf4
  v4 := Try.zeroValue4
  t22 := Try.underlying41
  a22 := Try.isAgg41
  z22 := Try.sizeOf41
  v22 := Try.zeroValue41
  i3 := by kernel_rfl }
end
theorem setCells_size (b : Nat) : ∀ (vs : List Value) (o : Nat) (w : World), (w.setCells b o vs).heap.size = w.heap.size
  | [], _, _ => rfl
  | v :: r, o, w => by
    show ((w.setCell ⟨b, o, none⟩ v).setCells b (o + 1) r).heap.size = _
    rw [setCells_size b r]; simp [World.setCell]
theorem below_setCells {B b : Nat} {w : World} (hB : B ≤ b) : ∀ (vs : List Value) (o : Nat) (w' : World), Below B w w' → Below B w (w'.setCells b o vs)
  | [], _, _, h => h
  | v :: r, o, w', h => below_setCells hB r (o + 1) _ (h.setCell (p := ⟨b, o, none⟩) hB v)
/-- there is room for one number more -/
theorem insertI_room (g n k vb : Nat) (f : Nat → Int) (d : Int) (w : World) (h1 : 1 ≤ n) (hn : n ≤ 8) (hk : k ≤ n) (h : Rg w g f d) (hv : w.heap[vb]? = some (.cells #[.int .i64 1] 3 (0, 0))) (hvg : vb ≠ g) :
    Calls Try.prog 89 #[.slice (some ⟨g, 0, none⟩) n 9, .int .i64 (k : Int), .slice (some ⟨vb, 0, none⟩) 1 1] w fun e w' => e = .returned (.slice (some ⟨g, 0, none⟩) (n + 1) 9) ∧ Bk w' g (n + 1) (inF f k) ∧ Below g w w' := by
  have hc : ∀ i, i < 9 → w.cell? ⟨g, 0 + i, none⟩ = some (.int .i64 (f i)) := fun i hi => by rw [Nat.zero_add]; exact rg_cell h i hi
  have hvs : ∀ j v, ([.int .i64 1] : List Value)[j]? = some v → w.cell? ⟨vb, 0 + j, none⟩ = some v := fun j v hj => by
    rcases j with _ | j
    · injection hj with hj
      rw [← hj]
      unfold World.cell?
      simp [hv]
    · simp at hj
  have hfv : ∀ o, w.frozen? ⟨vb, o, none⟩ = false := fun o => by unfold World.frozen?; simp [hv]
  have hsv : w.shape? vb = some (3, 1) := by unfold World.shape?; simp [hv]
  have hsg : w.shape? g = some (97, 10) := by unfold World.shape?; simp [h.h]
  rcases Nat.lt_or_ge k n with hkn | hkn
  · have hD := Any2.slices_Insert_int_shift layInsI g 0 n 9 k vb 0 1 1 (iL f n) [.int .i64 1] w hkn (by omega) (by omega) (by omega) hvg (iL_len f n) rfl
      (fun j v hj => by
        have hjn : j < n := by have := (List.getElem?_eq_some_iff.1 hj).1; rwa [iL_len] at this
        rw [iL_get hjn] at hj; injection hj with hj; rw [← hj]; exact hc j (by omega))
      (fun j hj => by rw [hc j (by omega)]; rfl) (fun j hj => rg_frozen h _) hvs (iL_one f n) (by simp [Value.oneCell']) 3 97 1 10 hsv hsg (by decide) (hfv _) (hfv _)
    refine Calls.mono hD ?_
    rintro e w' ⟨rfl, rfl⟩
    have hd : ∀ x, w.drew.cell? x = w.cell? x := fun x => rfl
    have hlen : ((iL f n).drop k).length = n - k := by rw [List.length_drop, iL_len]
    refine ⟨rfl, ⟨?_, fun i hi => ?_, fun o => ?_⟩, ?_⟩
    · rw [setCells_size, setCells_size]; exact (show g < w.heap.size from rg_z h)
    · rcases Nat.lt_trichotomy i k with hi2 | hi2 | hi2
      · rw [World.cell?_setCells_out _ _ _ _ _ (fun _ _ => Or.inl (by simp; omega)), World.cell?_setCells_out _ _ _ _ _ (fun _ _ => Or.inl (by simp; omega)), hd]
        have := hc i (by omega)
        rw [Nat.zero_add] at this
        rw [this]
        unfold inF; rw [if_pos hi2]
      · subst hi2
        have := World.cell?_setCells_in g [.int .i64 1] (0 + i) (w.drew.setCells g (0 + (i + 1)) ((iL f n).drop i)) (fun j hj => by
          obtain rfl : j = 0 := by simpa using hj
          rw [World.cell?_setCells_out _ _ _ _ _ (fun _ _ => Or.inl (by simp)), hd, Nat.add_zero, hc i (by omega)]; rfl) 0 (by simp)
        simp only [Nat.zero_add, Nat.add_zero] at this ⊢
        rw [this]
        unfold inF; rw [if_neg (Nat.lt_irrefl _), if_pos rfl]; rfl
      · rw [World.cell?_setCells_out _ _ _ _ _ (fun _ _ => Or.inr (by simp; omega))]
        have := World.cell?_setCells_in g ((iL f n).drop k) (0 + (k + 1)) w.drew (fun j hj => by
          rw [hlen] at hj
          rw [hd, Nat.add_assoc, hc (k + 1 + j) (by omega)]; rfl) (i - (k + 1)) (by rw [hlen]; omega)
        rw [show 0 + (k + 1) + (i - (k + 1)) = i by omega] at this
        rw [this]
        have e : ((iL f n).drop k)[i - (k + 1)]? = some (.int .i64 (f (i - 1))) := by
          rw [List.getElem?_drop, show k + (i - (k + 1)) = i - 1 by omega, iL_get (by omega)]
        rw [← List.getElem?_eq_getElem, e]
        unfold inF; rw [if_neg (by omega), if_neg (by omega)]
    · rw [World.frozen?_setCells, World.frozen?_setCells]; exact rg_frozen h o
    · exact below_setCells (Nat.le_refl _) _ _ _ (below_setCells (Nat.le_refl _) _ _ _ (Below.refl _ _).drew)
  · obtain rfl : k = n := by omega
    have hD := Any2.slices_Insert_int_end_room layInsI g 0 k 9 vb 0 1 1 [.int .i64 1] w (by omega) (by omega) (by omega) rfl
      (fun j hj => by obtain rfl : j = 0 := by omega
                      rw [Nat.add_zero, hc k (by omega)]; rfl) (fun j hj => rg_frozen h _) hvs (by simp [Value.oneCell'])
    refine Calls.mono hD ?_
    rintro e w' ⟨rfl, rfl⟩
    refine ⟨rfl, ⟨?_, fun i hi => ?_, fun o => ?_⟩, ?_⟩
    · rw [setCells_size]; exact rg_z h
    · rcases Nat.lt_or_ge i k with hi2 | hi2
      · rw [World.cell?_setCells_out _ _ _ _ _ (fun _ _ => Or.inl (by simp; omega))]
        have := hc i (by omega)
        rw [Nat.zero_add] at this
        rw [this]
        unfold inF; rw [if_pos hi2]
      · obtain rfl : i = k := by omega
        have := World.cell?_setCells_in g [.int .i64 1] (0 + i) w (fun j hj => by
          obtain rfl : j = 0 := by simpa using hj
          rw [Nat.add_zero, hc i (by omega)]; rfl) 0 (by simp)
        simp only [Nat.zero_add, Nat.add_zero] at this ⊢
        rw [this]
        unfold inF; rw [if_neg (Nat.lt_irrefl _), if_pos rfl]; rfl
    · rw [World.frozen?_setCells]; exact rg_frozen h o
    · exact below_setCells (Nat.le_refl _) _ _ _ (Below.refl _ _)
end Go.Proofs.Ytacabmbajadbgaa
