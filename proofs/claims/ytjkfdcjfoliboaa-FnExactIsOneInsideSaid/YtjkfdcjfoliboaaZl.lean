/- plain: where a point is; contract: the model's search -/
import Derived.Test.YtjkfdcjfoliboaaZi
import Derived.Test.YtjkfdcjfoliboaaSax
import Derived.Deep.CutRange
import Derived.BigRegion
import Derived.Deep.LoopGhost
namespace Go.Proofs.Ytjkfdcjfoliboaa
open Go.ChangeShapes Go.WideShapes Go.ChangeAt Go.RowKit Go.Joins
set_option linter.unusedVariables false
set_option linter.unusedSimpArgs false
set_option maxRecDepth 4000
/-- where a point is: 1 inside, 0 on the lines, -1 otherwise -/
noncomputable def whN (l : List (Int × Int)) (p : Int × Int) : Int := @ite _ (MJ.Bd (vx l) p) (Classical.propDecidable _) 0 (if MJ.WN (vx l) l.length p = 0 then -1 else 1)
theorem whN_on {l : List (Int × Int)} {p : Int × Int} (h : MJ.Bd (vx l) p) : whN l p = 0 := by unfold whN; exact @if_pos _ (Classical.propDecidable _) h _ _ _
theorem whN_off {l : List (Int × Int)} {p : Int × Int} (h : ¬ MJ.Bd (vx l) p) : whN l p = if MJ.WN (vx l) l.length p = 0 then -1 else 1 := by unfold whN; exact @if_neg _ (Classical.propDecidable _) h _ _ _
def onE (l : List (Int × Int)) (p : Int × Int) (k : Nat) : Bool := onB (vx l k).1 (vx l k).2 (vx l (k + 1)).1 (vx l (k + 1)).2 p.1 p.2
theorem onE_bd {l : List (Int × Int)} {p : Int × Int} {k : Nat} (h : onE l p k = true) : MJ.Bd (vx l) p := ⟨k, (on_is _ _ _).1 h⟩
theorem off_bd {l : List (Int × Int)} {p : Int × Int} (h0 : 0 < l.length) (h : ∀ k, k < l.length → onE l p k = false) : ¬ MJ.Bd (vx l) p := by
  rintro ⟨k, hk⟩
  have e := h (k % l.length) (Nat.mod_lt _ h0)
  unfold onE at e
  rw [vx_per, vx_add1, ((on_is _ _ _).2 hk)] at e
  cases e
/-- a line's crossing -/
def crN (l : List (Int × Int)) (p : Int × Int) (k : Nat) : Int := MJ.cr (vx l k) (vx l (k + 1)) p
def xsN (l : List (Int × Int)) (p : Int × Int) (k : Nat) : Int := MJ.sm (fun j => crN l p j * crN l p j) k
def wnN (l : List (Int × Int)) (p : Int × Int) (k : Nat) : Int := MJ.sm (crN l p) k
theorem whN_wn {l : List (Int × Int)} {p : Int × Int} (h0 : 0 < l.length) (h : ∀ k, k < l.length → onE l p k = false) : whN l p = if wnN l p l.length = 0 then -1 else 1 := whN_off (off_bd h0 h)
theorem whN_xs {l : List (Int × Int)} {p : Int × Int} (hg : Good l) (h : ∀ k, k < l.length → onE l p k = false) : whN l p = if xsN l p l.length % 2 = 1 then 1 else -1 := by
  have hb := off_bd (good_pos hg) h
  rw [whN_off hb]
  have o := MJ.odd_iff (good_poly hg) hb
  change _ ↔ xsN l p l.length % 2 = 1 at o
  by_cases h1 : MJ.WN (vx l) l.length p = 0
  · rw [if_pos h1, if_neg (fun w => (o.2 w) h1)]
  · rw [if_neg h1, if_pos (o.1 h1)]
/-- the crossing as the model tells it -/
theorem cr_low {a b p : Int × Int} (h : a.2 ≤ b.2) : (MJ.cr a b p = 1 ↔ (a.2 ≤ p.2 ∧ p.2 < b.2 ∧ 0 < twP a b p)) ∧ (¬ (a.2 ≤ p.2 ∧ p.2 < b.2 ∧ 0 < twP a b p) → MJ.cr a b p = 0) := by
  rw [MJ.cr_up h, tw_is]
  by_cases c : a.2 ≤ p.2 ∧ p.2 < b.2 ∧ 0 < twP a b p
  · rw [if_pos c]; exact ⟨⟨fun _ => c, fun _ => rfl⟩, fun w => absurd c w⟩
  · rw [if_neg c]; exact ⟨⟨fun w => by omega, fun w => absurd w c⟩, fun _ => rfl⟩
theorem cr_high {a b p : Int × Int} (h : b.2 < a.2) : (MJ.cr a b p = -1 ↔ (b.2 ≤ p.2 ∧ p.2 < a.2 ∧ 0 < twP b a p)) ∧ (¬ (b.2 ≤ p.2 ∧ p.2 < a.2 ∧ 0 < twP b a p) → MJ.cr a b p = 0) := by
  have := cr_low (a := b) (b := a) (p := p) (by omega)
  rw [MJ.cr_swap a b p] at this
  constructor
  · rw [← this.1]; omega
  · intro w; have := this.2 w; omega
theorem xs_step1 {l : List (Int × Int)} {p : Int × Int} {k : Nat} (h : crN l p k = 1 ∨ crN l p k = -1) : decide (xsN l p (k + 1) % 2 = 1) = !decide (xsN l p k % 2 = 1) := by
  have e : xsN l p (k + 1) = xsN l p k + 1 := by
    show xsN l p k + crN l p k * crN l p k = _
    rcases h with h | h <;> rw [h] <;> rfl
  rw [e, Bool.eq_iff_iff]
  simp only [decide_eq_true_eq, Bool.not_eq_true', decide_eq_false_iff_not]
  omega
theorem xs_step0 {l : List (Int × Int)} {p : Int × Int} {k : Nat} (h : crN l p k = 0) : decide (xsN l p (k + 1) % 2 = 1) = decide (xsN l p k % 2 = 1) := by
  have e : xsN l p (k + 1) = xsN l p k := by
    show xsN l p k + crN l p k * crN l p k = _
    rw [h]; omega
  rw [e]
/-- two blocks of a point each are written anew -/
theorem two_set {wb wc : World} {g h : Nat} {a1 a2 b1 b2 : Int} {u1 u2 u3 u4 : Value} (hne : g ≠ h) (hg : wb.heap.size ≤ g) (hh : wb.heap.size ≤ h) (hB : Below wb.heap.size wb wc)
    (c1 : wc.cell? ⟨g, 0, none⟩ = some u1) (c2 : wc.cell? ⟨g, 1, none⟩ = some u2) (c3 : wc.cell? ⟨h, 0, none⟩ = some u3) (c4 : wc.cell? ⟨h, 1, none⟩ = some u4) :
    ∃ w4, w4 = (((wc.setCell ⟨g, 0, none⟩ (.int .i64 b1)).setCell ⟨g, 1, none⟩ (.int .i64 b2)).setCell ⟨h, 0, none⟩ (.int .i64 a1)).setCell ⟨h, 1, none⟩ (.int .i64 a2) ∧
      Below wb.heap.size wb w4 ∧ w4.heap.size = wc.heap.size ∧ w4.cell? ⟨g, 0, none⟩ = some (.int .i64 b1) ∧ w4.cell? ⟨g, 1, none⟩ = some (.int .i64 b2) ∧ w4.cell? ⟨h, 0, none⟩ = some (.int .i64 a1) ∧ w4.cell? ⟨h, 1, none⟩ = some (.int .i64 a2) ∧
      (∀ x o, x < wb.heap.size → w4.cell? ⟨x, o, none⟩ = wb.cell? ⟨x, o, none⟩) := by
  have ne : ∀ (W : World) (x y : Nat) (o o' : Nat) (v : Value), (x ≠ y ∨ o ≠ o') → (W.setCell ⟨x, o, none⟩ v).cell? ⟨y, o', none⟩ = W.cell? ⟨y, o', none⟩ := fun W x y o o' v h =>
    World.cell?_setCell_other W _ _ _ (fun e => by injection e with e1 e2; rcases h with h | h; exact h e1; exact h e2)
  have sm : ∀ (W : World) (x o : Nat) (u v : Value), W.cell? ⟨x, o, none⟩ = some u → (W.setCell ⟨x, o, none⟩ v).cell? ⟨x, o, none⟩ = some v := fun W x o u v h => World.cell?_setCell_same W _ _ h
  have B4 : Below wb.heap.size wb ((((wc.setCell ⟨g, 0, none⟩ (.int .i64 b1)).setCell ⟨g, 1, none⟩ (.int .i64 b2)).setCell ⟨h, 0, none⟩ (.int .i64 a1)).setCell ⟨h, 1, none⟩ (.int .i64 a2)) :=
    Below.setCell (Below.setCell (Below.setCell (Below.setCell hB hg _) hg _) hh _) hh _
  refine ⟨_, rfl, B4, by simp [World.setCell], ?_, ?_, ?_, ?_, fun x o hx => (bcell B4).1 x o hx⟩
  · rw [ne _ _ _ _ _ _ (.inl (Ne.symm hne)), ne _ _ _ _ _ _ (.inl (Ne.symm hne)), ne _ _ _ _ _ _ (.inr (by omega))]; exact sm _ _ _ _ _ c1
  · rw [ne _ _ _ _ _ _ (.inl (Ne.symm hne)), ne _ _ _ _ _ _ (.inl (Ne.symm hne))]; exact sm _ _ _ u2 _ (by rw [ne _ _ _ _ _ _ (.inr (by omega))]; exact c2)
  · rw [ne _ _ _ _ _ _ (.inr (by omega))]; exact sm _ _ _ u3 _ (by rw [ne _ _ _ _ _ _ (.inl hne), ne _ _ _ _ _ _ (.inl hne)]; exact c3)
  · exact sm _ _ _ u4 _ (by rw [ne _ _ _ _ _ _ (.inr (by omega)), ne _ _ _ _ _ _ (.inl hne), ne _ _ _ _ _ _ (.inl hne)]; exact c4)
end Go.Proofs.Ytjkfdcjfoliboaa
