/- rows newly made; lists handed on -/
import Derived.Test.YtieimijkkjhegaaLc
namespace Go.Proofs.Ytieimijkkjhegaa
open Go.ChangeShapes Go.WideShapes Go.ChangeAt Go.RowKit Go.Joins
set_option linter.unusedVariables false
set_option linter.unusedSimpArgs false
set_option maxRecDepth 4000
theorem retL_of_rwX {w w' : World} {lo B k c : Nat} {A : Option Addr} {f : Nat → Int × Int} (h : Rw w' lo B A k f) (hl : w.heap.size ≤ lo) (hB : B ≤ w'.heap.size) (h1 : k ≤ c) (h2 : c ≤ maxLen) (hb : Below w.heap.size w w') :
    RetL w (firsts f k) true (.returned (.tuple #[.slice A k c, .bool true])) w' := by
  refine ⟨A, c, by rw [firsts_len], by rw [firsts_len]; exact h1, h2, hb, ?_⟩
  rw [firsts_len]
  exact rw_same (rw_more h hl hB) fun i hi => (firsts_pt f k i hi).symm
theorem row_madeX {w W : World} (hb : Below w.heap.size w W) (f : Nat → Int × Int) (n : Nat) (hn : n ≤ 1000) :
    Row (W.alloc (.cells (madeCells #[.int .i64 0, .int .i64 0] (n * 2)) 42)) w.heap.size (.slice (some ⟨W.heap.size, 0, none⟩) 0 n) f 0 :=
  World.ownsRow_made (base := w.heap.size) (e := 42) (size := 2) W _ n hb.size (by unfold maxLen; omega) (size_madeCells _ _)
end Go.Proofs.Ytieimijkkjhegaa
