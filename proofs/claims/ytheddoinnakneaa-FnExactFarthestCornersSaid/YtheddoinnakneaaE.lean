/- contracts: lines between pegs, points on them, lines that meet -/
import Derived.Test.YtheddoinnakneaaL
import Derived.Lib.Hide
namespace Go.Proofs.Ytheddoinnakneaa
open Go.ChangeShapes Go.WideShapes Go.ChangeAt Go.RowKit Go.Joins
set_option linter.unusedVariables false
set_option linter.unusedSimpArgs false
set_option maxRecDepth 4000
/-- the sign of a number -/
def sgn (n : Int) : Int := if 0 < n then 1 else if n < 0 then -1 else 0
/-- a point on the line between two -/
def onB (a1 a2 b1 b2 p1 p2 : Int) : Bool := decide (twI a1 a2 b1 b2 p1 p2 = 0) && decide ((a1 - p1) * (b1 - p1) ≤ 0) && decide ((a2 - p2) * (b2 - p2) ≤ 0)
theorem pgOn_any (a1 a2 b1 b2 p1 p2 : Int) (w : World) (ha : Sz a1 a2) (hb : Sz b1 b2) (hp : Sz p1 p2) :
    Calls Try.prog 121 #[.agg #[.int .i64 a1, .int .i64 a2], .agg #[.int .i64 b1, .int .i64 b2], .agg #[.int .i64 p1, .int .i64 p2]] w fun e w' => e = .returned (.bool (onB a1 a2 b1 b2 p1 p2)) ∧ Below w.heap.size w w' := by
  have q1 := mul_bd (x := a1 - p1) (y := b1 - p1) (m := 200000) (n := 200000) (by unfold Sz at *; omega) (by unfold Sz at *; omega) (by unfold Sz at *; omega) (by unfold Sz at *; omega)
  have q2 := mul_bd (x := a2 - p2) (y := b2 - p2) (m := 200000) (n := 200000) (by unfold Sz at *; omega) (by unfold Sz at *; omega) (by unfold Sz at *; omega) (by unfold Sz at *; omega)
  have ct := fun W => pgTurn_any a1 a2 b1 b2 p1 p2 W ha hb hp
  obtain ⟨x1, x2, x3, x4⟩ := ha
  obtain ⟨x5, x6, x7, x8⟩ := hb
  obtain ⟨x9, x10, x11, x12⟩ := hp
  obtain ⟨q3, q4⟩ := q1
  obtain ⟨q5, q6⟩ := q2
  by_cases h1 : twI a1 a2 b1 b2 p1 p2 = 0
  · by_cases h2 : (a1 - p1) * (b1 - p1) ≤ 0
    · by_cases h3 : (a2 - p2) * (b2 - p2) ≤ 0
      all_goals
        have CT := Lib.hid ct
        clear ct
        go_enter Try.func121, Try.ntmps121
        go_wp2_with fail
        refine (CT.out _).mono ?_; rintro e w1 ⟨rfl, hb1⟩
        obtain ⟨hc1, hf1⟩ := bcell hb1
        have z1_0 : w.heap.size < w1.heap.size := by (have := hb1.size; simp at this; omega)
        have z1_1 : w.heap.size + 1 < w1.heap.size := by (have := hb1.size; simp at this; omega)
        have z1_2 : w.heap.size + 2 < w1.heap.size := by (have := hb1.size; simp at this; omega)
        have B1 : Below w.heap.size w w1 := (Below.alloc (Below.alloc (Below.alloc (Below.refl _ _) (by simp <;> omega) _) (by simp <;> omega) _) (by simp <;> omega) _).trans (hb1.mono (by simp <;> omega))
        go_wp2_with fail
        go_ret
        exact ⟨ret_bool (by simp [onB, h1, h2, h3]), B1⟩
    · have CT := Lib.hid ct
      clear ct
      go_enter Try.func121, Try.ntmps121
      go_wp2_with fail
      refine (CT.out _).mono ?_; rintro e w1 ⟨rfl, hb1⟩
      obtain ⟨hc1, hf1⟩ := bcell hb1
      have z1_0 : w.heap.size < w1.heap.size := by (have := hb1.size; simp at this; omega)
      have z1_1 : w.heap.size + 1 < w1.heap.size := by (have := hb1.size; simp at this; omega)
      have z1_2 : w.heap.size + 2 < w1.heap.size := by (have := hb1.size; simp at this; omega)
      have B1 : Below w.heap.size w w1 := (Below.alloc (Below.alloc (Below.alloc (Below.refl _ _) (by simp <;> omega) _) (by simp <;> omega) _) (by simp <;> omega) _).trans (hb1.mono (by simp <;> omega))
      go_wp2_with fail
      go_ret
      exact ⟨ret_bool (by simp [onB, h1] <;> omega), B1⟩
  · have CT := Lib.hid ct
    clear ct
    go_enter Try.func121, Try.ntmps121
    go_wp2_with fail
    refine (CT.out _).mono ?_; rintro e w1 ⟨rfl, hb1⟩
    obtain ⟨hc1, hf1⟩ := bcell hb1
    have z1_0 : w.heap.size < w1.heap.size := by (have := hb1.size; simp at this; omega)
    have z1_1 : w.heap.size + 1 < w1.heap.size := by (have := hb1.size; simp at this; omega)
    have z1_2 : w.heap.size + 2 < w1.heap.size := by (have := hb1.size; simp at this; omega)
    have B1 : Below w.heap.size w w1 := (Below.alloc (Below.alloc (Below.alloc (Below.refl _ _) (by simp <;> omega) _) (by simp <;> omega) _) (by simp <;> omega) _).trans (hb1.mono (by simp <;> omega))
    go_wp2_with fail
    go_ret
    exact ⟨ret_bool (by simp [onB, h1]), B1⟩
end Go.Proofs.Ytheddoinnakneaa
