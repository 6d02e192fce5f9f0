/- contract: the circle through a triangle's corners, the program -/
import Derived.Test.YtgjegildeejghaaCb
import Derived.Test.YtgjegildeejghaaTn
import Derived.BigRegion
namespace Go.Proofs.Ytgjegildeejghaa
open Go.ChangeShapes Go.WideShapes Go.ChangeAt Go.RowKit Go.Joins
set_option linter.unusedVariables false
set_option linter.unusedSimpArgs false
set_option maxRecDepth 4000
theorem turnedM_any (p1 p2 : Int) (w : World) (h1 : Mid p1) (h2 : Mid p2) :
    Calls Try.prog 95 #[.agg #[.int .i64 p1, .int .i64 p2]] w fun e w' => e = .returned (.agg #[.int .i64 (-p2), .int .i64 (p1)]) ∧ Below w.heap.size w w' := by
  obtain ⟨x1, x2⟩ := h1
  obtain ⟨x3, x4⟩ := h2
  go_enter Try.func95, Try.ntmps95
  go_wp2
  exact bodyPost_ret (v := .agg #[.int .i64 (-p2), .int .i64 (p1)]) (by simp [results, Try.results95, go_sem]) rfl ⟨rfl, (by repeat (first | exact Below.refl _ _ | assumption | apply Below.drew | refine Below.alloc ?_ (by simp <;> omega) _))⟩
/-- the part of corner number i in the middle of the circle; the first of them together -/
def mpF (l : List (Int × Int)) (i : Nat) : Int × Int := (-((vx l (i + 2)).2 - (vx l (i + 1)).2) * ((vx l i).1 * (vx l i).1 + (vx l i).2 * (vx l i).2), ((vx l (i + 2)).1 - (vx l (i + 1)).1) * ((vx l i).1 * (vx l i).1 + (vx l i).2 * (vx l i).2))
def msF (l : List (Int × Int)) : Nat → Int × Int
  | 0 => (0, 0)
  | i + 1 => ((msF l i).1 + (mpF l i).1, (msF l i).2 + (mpF l i).2)
theorem msF_all {l : List (Int × Int)} {a1 a2 b1 b2 c1 c2 : Int} (h : Tri l a1 a2 b1 b2 c1 c2) : msF l 3 = (cxI a1 a2 b1 b2 c1 c2, cyI a1 a2 b1 b2 c1 c2) := by
  have v0 : vx l 0 = (a1, a2) := by rw [h.1]; rfl
  have v1 : vx l 1 = (b1, b2) := by rw [h.1]; rfl
  have v2 : vx l 2 = (c1, c2) := by rw [h.1]; rfl
  have v3 : vx l 3 = (a1, a2) := by rw [h.1]; exact vx_add [(a1, a2), (b1, b2), (c1, c2)] 0
  have v4 : vx l 4 = (b1, b2) := by rw [h.1]; exact vx_add [(a1, a2), (b1, b2), (c1, c2)] 1
  unfold msF msF msF msF mpF
  simp only [Nat.zero_add, show 1 + 2 = 3 from rfl, show 1 + 1 = 2 from rfl, show 2 + 1 = 3 from rfl, show 2 + 2 = 4 from rfl, v0, v1, v2, v3, v4]
  unfold cxI cyI
  refine Prod.ext ?_ ?_
  · show _ = _
    grind
  · show _ = _
    grind
end Go.Proofs.Ytgjegildeejghaa
