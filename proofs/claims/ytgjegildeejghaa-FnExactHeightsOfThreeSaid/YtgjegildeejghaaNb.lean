/- lists of points as cells that are appended; a list told from a corner on -/
import Derived.Test.YtgjegildeejghaaNa
import Derived.Test.YtgjegildeejghaaNbp
import Derived.Test.YtgjegildeejghaaRt
import Derived.WideShapes
import Derived.Laws.OwnMore
namespace Go.Proofs.Ytgjegildeejghaa
open Go.ChangeShapes Go.WideShapes Go.ChangeAt Go.RowKit Go.Joins
set_option linter.unusedVariables false
set_option linter.unusedSimpArgs false
set_option maxRecDepth 4000
/-- the list told from corner k on -/
def rotF (l : List (Int × Int)) (k i : Nat) : Int × Int := vx l ((k + i) % l.length)
theorem rot_list (l : List (Int × Int)) (k : Nat) (hk : k < l.length) : l.drop k ++ l.take k = firsts (rotF l k) l.length := by
  apply List.ext_getElem?
  intro i
  by_cases hi : i < l.length
  · rw [firsts_get _ _ _ hi]
    unfold rotF
    by_cases h1 : i < l.length - k
    · rw [List.getElem?_append_left (by simpa using h1), List.getElem?_drop, Nat.mod_eq_of_lt (by omega)]
      exact vx_get (by omega)
    · rw [List.getElem?_append_right (by simpa using (by omega : l.length - k ≤ i)), List.length_drop, List.getElem?_take, if_pos (by omega)]
      rw [show (k + i) % l.length = i - (l.length - k) by
        rw [show k + i = (i - (l.length - k)) + l.length by omega, Nat.add_mod_right, Nat.mod_eq_of_lt (by omega)]]
      exact vx_get (by omega)
  · rw [List.getElem?_eq_none (by simp; omega), List.getElem?_eq_none (by rw [firsts_len]; omega)]
theorem pt_drop (l : List (Int × Int)) (k i : Nat) (h : k + i < l.length) : pt (l.drop k) i = vx l (k + i) := by
  unfold pt
  rw [List.getElem?_drop, vx_get h]
  rfl
theorem pt_take (l : List (Int × Int)) (k i : Nat) (h : i < k) (hk : k ≤ l.length) : pt (l.take k) i = vx l i := by
  unfold pt
  rw [List.getElem?_take, if_pos h, vx_get (by omega)]
  rfl
/-- what lies behind corner k, as cells -/
theorem drop_cells {w : World} {b off k : Nat} {l : List (Int × Int)} (hk : k ≤ l.length) (h : ∀ i, i < l.length → w.cell? ⟨b, off + i * 2, none⟩ = some (.int .i64 (vx l i).1) ∧ w.cell? ⟨b, off + i * 2 + 1, none⟩ = some (.int .i64 (vx l i).2)) :
    ∀ j u, (flat (l.drop k))[j]? = some u → w.cell? ((⟨b, off + k * 2, none⟩ : Addr).add j) = some u :=
  flat_cells fun i hi => by
    rw [List.length_drop] at hi
    rw [pt_drop l k i (by omega)]
    have := h (k + i) (by omega)
    rw [show off + k * 2 + i * 2 = off + (k + i) * 2 by omega]
    exact this
theorem take_cells {w : World} {b off k : Nat} {l : List (Int × Int)} (hk : k ≤ l.length) (h : ∀ i, i < l.length → w.cell? ⟨b, off + i * 2, none⟩ = some (.int .i64 (vx l i).1) ∧ w.cell? ⟨b, off + i * 2 + 1, none⟩ = some (.int .i64 (vx l i).2)) :
    ∀ j u, (flat (l.take k))[j]? = some u → w.cell? ((⟨b, off, none⟩ : Addr).add j) = some u :=
  flat_cells fun i hi => by
    rw [List.length_take] at hi
    rw [pt_take l k i (by omega) hk]
    exact h i (by omega)
/-- a row to which the list from corner k on is appended, and then the corners ahead -/
theorem row_rot {w : World} {base k : Nat} {v : Value} {l : List (Int × Int)} (hk : k < l.length) (h : w.ownsRow base 46 2 v (0 + (l.length - k) + k) (([] ++ flat (l.drop k)) ++ flat (l.take k))) : Row w base v (rotF l k) l.length := by
  unfold Row
  rw [← rot_list l k hk, flat_app]
  rw [List.nil_append, show 0 + (l.length - k) + k = l.length by omega] at h
  exact h
end Go.Proofs.Ytgjegildeejghaa
