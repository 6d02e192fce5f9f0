/- a new block and what is stored in it -/
import Derived.Test.YtieimijkkjhegaaMg
import Derived.Test.YtieimijkkjhegaaRt
import Derived.Test.YtieimijkkjhegaaRn
namespace Go.Proofs.Ytieimijkkjhegaa
open Go.ChangeShapes Go.WideShapes Go.ChangeAt Go.RowKit Go.Joins
set_option linter.unusedVariables false
set_option linter.unusedSimpArgs false
set_option maxRecDepth 4000
theorem own2_new (w : World) (t : TypeId) : Own2 (w.alloc (.cells #[.int .i64 0, .int .i64 0] t)) w.heap.size 0 0 :=
  ⟨⟨by simp, by go_simp, by go_simp⟩, fun o => by rw [frozen?_alloc_cells]; simp [World.frozen?]⟩
theorem own6_new (w : World) (t : TypeId) : Own6 (w.alloc (.cells #[.int .i64 0, .int .i64 0, .int .i64 0, .int .i64 0, .int .i64 0, .int .i64 0] t)) w.heap.size 0 0 0 0 0 0 :=
  ⟨⟨by simp, by go_simp, by go_simp, by go_simp, by go_simp, by go_simp, by go_simp⟩, fun o => by rw [frozen?_alloc_cells]; simp [World.frozen?]⟩
theorem al_below {W0 W1 W : World} {obj : Obj} (k1 : Below W0.heap.size W0 W1) (k2 : Below (W1.alloc obj).heap.size (W1.alloc obj) W) : Below W0.heap.size W0 W ∧ W0.heap.size ≤ W1.heap.size ∧ W1.heap.size < W.heap.size := by
  have h1 := k1.size
  have hA := Below.alloc k1 h1 obj
  refine ⟨hA.trans (k2.mono hA.size), h1, ?_⟩
  have := k2.size
  simp at this
  omega
theorem own2_sets {w : World} {g : Nat} {a b : Int} (h : Own2 w g a b) (x y : Int) : Own2 ((w.setCell ⟨g, 0, none⟩ (.int .i64 x)).setCell ⟨g, 1, none⟩ (.int .i64 y)) g x y :=
  ⟨at2_set1 (at2_set0 h.1 x) y, fun o => by rw [World.frozen?_setCell, World.frozen?_setCell]; exact h.2 o⟩
theorem own6_sets {w : World} {g : Nat} {a b c d e f : Int} (h : Own6 w g a b c d e f) (x0 x1 x2 x3 x4 x5 : Int) : Own6 ((((((w.setCell ⟨g, 0, none⟩ (.int .i64 x0)).setCell ⟨g, 1, none⟩ (.int .i64 x1)).setCell ⟨g, 2, none⟩ (.int .i64 x2)).setCell ⟨g, 3, none⟩ (.int .i64 x3)).setCell ⟨g, 4, none⟩ (.int .i64 x4)).setCell ⟨g, 5, none⟩ (.int .i64 x5)) g x0 x1 x2 x3 x4 x5 :=
  ⟨at6_set5 (at6_set4 (at6_set3 (at6_set2 (at6_set1 (at6_set0 h.1 x0) x1) x2) x3) x4) x5, fun o => by simp only [World.frozen?_setCell]; exact h.2 o⟩
theorem al2 {W0 W1 W : World} {t : TypeId} (k1 : Below W0.heap.size W0 W1) (k2 : Below (W1.alloc (.cells #[.int .i64 0, .int .i64 0] t)).heap.size (W1.alloc (.cells #[.int .i64 0, .int .i64 0] t)) W) (x y : Int) :
    Own2 ((W.setCell ⟨W1.heap.size, 0, none⟩ (.int .i64 x)).setCell ⟨W1.heap.size, 1, none⟩ (.int .i64 y)) W1.heap.size x y ∧ Below W0.heap.size W0 ((W.setCell ⟨W1.heap.size, 0, none⟩ (.int .i64 x)).setCell ⟨W1.heap.size, 1, none⟩ (.int .i64 y)) :=
  ⟨own2_sets (own2_below (own2_new W1 t) k2 (own2_new W1 t).1.1) x y, ((al_below k1 k2).1.setCell (p := ⟨W1.heap.size, 0, none⟩) k1.size _).setCell (p := ⟨W1.heap.size, 1, none⟩) k1.size _⟩
theorem al6 {W0 W1 W : World} {t : TypeId} (k1 : Below W0.heap.size W0 W1) (k2 : Below (W1.alloc (.cells #[.int .i64 0, .int .i64 0, .int .i64 0, .int .i64 0, .int .i64 0, .int .i64 0] t)).heap.size (W1.alloc (.cells #[.int .i64 0, .int .i64 0, .int .i64 0, .int .i64 0, .int .i64 0, .int .i64 0] t)) W) (x0 x1 x2 x3 x4 x5 : Int) :
    Own6 ((((((W.setCell ⟨W1.heap.size, 0, none⟩ (.int .i64 x0)).setCell ⟨W1.heap.size, 1, none⟩ (.int .i64 x1)).setCell ⟨W1.heap.size, 2, none⟩ (.int .i64 x2)).setCell ⟨W1.heap.size, 3, none⟩ (.int .i64 x3)).setCell ⟨W1.heap.size, 4, none⟩ (.int .i64 x4)).setCell ⟨W1.heap.size, 5, none⟩ (.int .i64 x5)) W1.heap.size x0 x1 x2 x3 x4 x5 ∧
      Below W0.heap.size W0 ((((((W.setCell ⟨W1.heap.size, 0, none⟩ (.int .i64 x0)).setCell ⟨W1.heap.size, 1, none⟩ (.int .i64 x1)).setCell ⟨W1.heap.size, 2, none⟩ (.int .i64 x2)).setCell ⟨W1.heap.size, 3, none⟩ (.int .i64 x3)).setCell ⟨W1.heap.size, 4, none⟩ (.int .i64 x4)).setCell ⟨W1.heap.size, 5, none⟩ (.int .i64 x5)) :=
  ⟨own6_sets (own6_below (own6_new W1 t) k2 (own6_new W1 t).1.1) x0 x1 x2 x3 x4 x5, ((((((al_below k1 k2).1.setCell (p := ⟨W1.heap.size, 0, none⟩) k1.size _).setCell (p := ⟨W1.heap.size, 1, none⟩) k1.size _).setCell (p := ⟨W1.heap.size, 2, none⟩) k1.size _).setCell (p := ⟨W1.heap.size, 3, none⟩) k1.size _).setCell (p := ⟨W1.heap.size, 4, none⟩) k1.size _).setCell (p := ⟨W1.heap.size, 5, none⟩) k1.size _⟩
end Go.Proofs.Ytieimijkkjhegaa
