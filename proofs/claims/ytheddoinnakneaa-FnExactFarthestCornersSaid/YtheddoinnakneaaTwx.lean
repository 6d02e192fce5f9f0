/- two boxes of points, each in a block of its own, that are written -/
import Derived.Test.YtheddoinnakneaaRt
import Derived.BigRegion
import Derived.OwnWalk
namespace Go.Proofs.Ytheddoinnakneaa
open Go.ChangeShapes Go.WideShapes Go.ChangeAt Go.RowKit Go.Joins
set_option linter.unusedVariables false
set_option linter.unusedSimpArgs false
set_option maxRecDepth 4000
/-- two boxes of points, each in a block of its own, and one that is looked at; the other old blocks are as in w -/
structure Two (w wr : World) (g h : Nat) (p q : Int × Int) : Prop where
  below : Below w.heap.size w wr
  g0 : wr.cell? ⟨g, 0, none⟩ = some (.int .i64 p.1)
  g1 : wr.cell? ⟨g, 1, none⟩ = some (.int .i64 p.2)
  h0 : wr.cell? ⟨h, 0, none⟩ = some (.int .i64 q.1)
  h1 : wr.cell? ⟨h, 1, none⟩ = some (.int .i64 q.2)
  gf : ∀ o, wr.frozen? ⟨g, o, none⟩ = false
  hf : ∀ o, wr.frozen? ⟨h, o, none⟩ = false
  lo1 : w.heap.size ≤ g
  lo2 : w.heap.size ≤ h
  up1 : g < wr.heap.size
  up2 : h < wr.heap.size
  ne : g ≠ h
theorem two_below {w wr W : World} {g h : Nat} {p q : Int × Int} (t : Two w wr g h p q) (hb : Below wr.heap.size wr W) : Two w W g h p q := by
  obtain ⟨t1, t2, t3, t4, t5, t6, t7, t8, t9, t10, t11, t12⟩ := t
  have hc := (bcell hb).1
  have hf := (bcell hb).2
  have hz := hb.size
  exact ⟨t1.trans (hb.mono t1.size), by rw [hc _ _ t10]; exact t2, by rw [hc _ _ t10]; exact t3, by rw [hc _ _ t11]; exact t4, by rw [hc _ _ t11]; exact t5, fun o => by rw [hf _ _ t10]; exact t6 o, fun o => by rw [hf _ _ t11]; exact t7 o, t8, t9, by omega, by omega, t12⟩
theorem two_low {w wr : World} {g h : Nat} {p q : Int × Int} (t : Two w wr g h p q) (x y : Int) : Two w ((wr.setCell ⟨g, 0, none⟩ (.int .i64 x)).setCell ⟨g, 1, none⟩ (.int .i64 y)) g h (x, y) q := by
  obtain ⟨t1, t2, t3, t4, t5, t6, t7, t8, t9, t10, t11, t12⟩ := t
  have o : ∀ oo, ((wr.setCell ⟨g, 0, none⟩ (.int .i64 x)).setCell ⟨g, 1, none⟩ (.int .i64 y)).cell? ⟨h, oo, none⟩ = wr.cell? ⟨h, oo, none⟩ := fun oo => by
    rw [World.cell?_setCell_other _ _ _ _ (fun e => t12 (by injection e)), World.cell?_setCell_other _ _ _ _ (fun e => t12 (by injection e))]
  refine ⟨(t1.setCell t8 _).setCell t8 _, ?_, ?_, by rw [o]; exact t4, by rw [o]; exact t5, fun oo => by rw [World.frozen?_setCell, World.frozen?_setCell]; exact t6 oo, fun oo => by rw [World.frozen?_setCell, World.frozen?_setCell]; exact t7 oo, t8, t9, by simpa [World.setCell] using t10, by simpa [World.setCell] using t11, t12⟩
  · rw [World.cell?_setCell_other _ _ _ _ (fun e => by injection e with e1 e2; cases e2), World.cell?_setCell_same _ _ _ t2]
  · refine World.cell?_setCell_same (wr.setCell ⟨g, 0, none⟩ (.int .i64 x)) ⟨g, 1, none⟩ (.int .i64 y) (show (wr.setCell ⟨g, 0, none⟩ (.int .i64 x)).cell? ⟨g, 1, none⟩ = some (.int .i64 p.2) from ?_)
    rw [World.cell?_setCell_other _ _ _ _ (fun e => by injection e with e1 e2; cases e2)]
    exact t3
theorem two_swap {w wr : World} {g h : Nat} {p q : Int × Int} (t : Two w wr g h p q) : Two w wr h g q p := by
  obtain ⟨t1, t2, t3, t4, t5, t6, t7, t8, t9, t10, t11, t12⟩ := t
  exact ⟨t1, t4, t5, t2, t3, t7, t6, t9, t8, t11, t10, fun e => t12 e.symm⟩
theorem two_high {w wr : World} {g h : Nat} {p q : Int × Int} (t : Two w wr g h p q) (x y : Int) : Two w ((wr.setCell ⟨h, 0, none⟩ (.int .i64 x)).setCell ⟨h, 1, none⟩ (.int .i64 y)) g h p (x, y) :=
  two_swap (two_low (two_swap t) x y)
theorem two_new {w w1 : World} {p : Int × Int} {t : TypeId} (hb : Below w.heap.size w w1) : Two w ((w1.alloc (.cells #[.int .i64 p.1, .int .i64 p.2] t)).alloc (.cells #[.int .i64 p.1, .int .i64 p.2] t)) w1.heap.size (w1.heap.size + 1) p p := by
  have hz := hb.size
  refine ⟨Below.alloc (Below.alloc hb hz _) (by simp; omega) _, by go_simp, by go_simp, by go_simp, by go_simp, fun o => ?_, fun o => ?_, hz, by omega, by simp; omega, by simp, by omega⟩
  · rw [frozen?_alloc_cells, frozen?_alloc_cells]; simp [World.frozen?]
  · rw [frozen?_alloc_cells, frozen?_alloc_cells]; simp [World.frozen?]
end Go.Proofs.Ytheddoinnakneaa
