/- contracts: what the program makes of a list that is a triangle, and of others -/
import Derived.Test.YtieimijkkjhegaaTb0
namespace Go.Proofs.Ytieimijkkjhegaa
open Go.ChangeShapes Go.WideShapes Go.ChangeAt Go.RowKit Go.Joins
set_option linter.unusedVariables false
set_option linter.unusedSimpArgs false
set_option maxRecDepth 4000
theorem threeOf_t (A : Option Addr) (c : Nat) (l : List (Int × Int)) (a1 a2 b1 b2 c1 c2 : Int) (w : World) (hR : Rd w w.heap.size A l) (ht : Tri l a1 a2 b1 b2 c1 c2) :
    Calls Try.prog 61 #[.slice A l.length c] w fun e w' => e = .returned (.tuple #[.agg #[.int .i64 a1, .int .i64 a2, .int .i64 b1, .int .i64 b2, .int .i64 c1, .int .i64 c2], .bool true]) ∧ Below w.heap.size w w' :=
  threeOf_yes A c l a1 a2 b1 b2 c1 c2 w hR ht
theorem threeOf_f (A : Option Addr) (c : Nat) (l : List (Int × Int)) (w : World) (hn : l.length ≤ 1048576) (hR : Rd w w.heap.size A l) (ht : ¬ tB l = true) :
    Calls Try.prog 61 #[.slice A l.length c] w fun e w' => e = .returned (.tuple #[.agg #[.int .i64 0, .int .i64 0, .int .i64 0, .int .i64 0, .int .i64 0, .int .i64 0], .bool false]) ∧ Below w.heap.size w w' :=
  threeOf_no A c l w hn hR (by simpa using ht)
theorem tri_sz {l : List (Int × Int)} {a1 a2 b1 b2 c1 c2 : Int} (h : Tri l a1 a2 b1 b2 c1 c2) : Sz a1 a2 ∧ Sz b1 b2 ∧ Sz c1 c2 := by
  have := tri_bd h
  unfold Sz
  omega
theorem tri_area {l : List (Int × Int)} {a1 a2 b1 b2 c1 c2 : Int} (h : Tri l a1 a2 b1 b2 c1 c2) : areaN l = twI a1 a2 b1 b2 c1 c2 := by
  rw [h.1]
  have e : areaN [(a1, a2), (b1, b2), (c1, c2)] = ((0 + cr (a1, a2) (b1, b2)) + cr (b1, b2) (c1, c2)) + cr (c1, c2) (a1, a2) := by
    unfold areaN Sh
    simp only [List.length_cons, List.length_nil, Nat.zero_add, sumTo]
    have e0 : vx [(a1, a2), (b1, b2), (c1, c2)] 0 = (a1, a2) := rfl
    have e1 : vx [(a1, a2), (b1, b2), (c1, c2)] 1 = (b1, b2) := rfl
    have e2 : vx [(a1, a2), (b1, b2), (c1, c2)] (1 + 1) = (c1, c2) := rfl
    have e3 : vx [(a1, a2), (b1, b2), (c1, c2)] (1 + 1 + 1) = (a1, a2) := vx_add [(a1, a2), (b1, b2), (c1, c2)] 0
    rw [e0, e1, e2, e3]
  rw [e]
  unfold cr twI
  grind
def bsel (b v : Bool) : Bool := b && v
theorem bsel_t (v : Bool) : bsel true v = v := rfl
theorem bsel_f (v : Bool) : bsel false v = false := rfl
end Go.Proofs.Ytieimijkkjhegaa
