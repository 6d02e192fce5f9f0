/- plain: the pegs of two lists together -/
import Derived.Test.YthpbnfmfedggjaaBn
namespace Go.Proofs.Ythpbnfmfedggjaa
open Go.ChangeShapes Go.WideShapes Go.ChangeAt Go.RowKit Go.Joins
set_option linter.unusedVariables false
set_option linter.unusedSimpArgs false
set_option maxRecDepth 4000
/-- those of r that are not in l, behind l: the first k of r are looked at -/
def joinK (l r : List (Int × Int)) (k : Nat) : List (Int × Int) := l ++ (r.take k).filter fun x => decide (x ∉ l)
def joinL (l r : List (Int × Int)) : List (Int × Int) := joinK l r r.length
theorem joinK_zero (l r : List (Int × Int)) : joinK l r 0 = l := by unfold joinK; simp
theorem joinK_in {l r : List (Int × Int)} {k : Nat} (hk : k < r.length) (h : vx r k ∈ l) : joinK l r (k + 1) = joinK l r k := by
  unfold joinK
  rw [List.take_add_one, vx_get hk]
  simp [h]
theorem joinK_out {l r : List (Int × Int)} {k : Nat} (hk : k < r.length) (h : vx r k ∉ l) : joinK l r (k + 1) = joinK l r k ++ [vx r k] := by
  unfold joinK
  rw [List.take_add_one, vx_get hk]
  simp [h]
theorem joinK_len (l r : List (Int × Int)) (k : Nat) : (joinK l r k).length ≤ l.length + k := by
  unfold joinK
  rw [List.length_append]
  have := List.length_filter_le (fun x => decide (x ∉ l)) (r.take k)
  rw [List.length_take] at this
  omega
theorem joinK_has {l r : List (Int × Int)} {k : Nat} (hr : Dif r) (hk : k < r.length) : decide (vx r k ∈ joinK l r k) = decide (vx r k ∈ l) := by
  rw [decide_eq_decide]
  unfold joinK
  rw [List.mem_append, List.mem_filter]
  constructor
  · rintro (h | ⟨h, _⟩)
    · exact h
    · exfalso
      obtain ⟨i, hi, e⟩ := List.mem_iff_getElem.1 h
      rw [List.length_take] at hi
      rw [List.getElem_take] at e
      have e2 := vx_get (l := r) (i := i) (by omega)
      rw [List.getElem?_eq_getElem (by omega)] at e2
      injection e2 with e2
      exact (hr.fine k hk).2 i (by omega) (by rw [← e, e2])
  · exact Or.inl
noncomputable def joB (l r : List (Int × Int)) : Bool := difB l && difB r && difB (joinL l r)
theorem jo_le (l r : List (Int × Int)) : (sel (joB l r) (band (joinL l r))).length ≤ 1048576 := by
  unfold sel
  split
  · rename_i h
    unfold joB at h
    simp only [Bool.and_eq_true] at h
    have := band_few (dif_of h.2)
    omega
  · simp
end Go.Proofs.Ythpbnfmfedggjaa
