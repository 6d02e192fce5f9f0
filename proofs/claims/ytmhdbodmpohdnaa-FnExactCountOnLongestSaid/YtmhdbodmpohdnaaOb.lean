/- boards: what both sides make of their numbers; the greatest triangle, upright rectangles -/
import Derived.Test.YtmhdbodmpohdnaaLax
import Derived.Test.YtmhdbodmpohdnaaMps
namespace Go.Proofs.Ytmhdbodmpohdnaa
open Go.ChangeShapes Go.WideShapes Go.ChangeAt Go.RowKit Go.Joins
set_option linter.unusedVariables false
set_option linter.unusedSimpArgs false
set_option maxRecDepth 4000
/-- are both numbers those of a board? -/
def bdB (m w h : Int) : Bool := decide (1 ≤ w) && decide (w ≤ m) && (decide (1 ≤ h) && decide (h ≤ m))
def bdV (b : Bool) (x : Int) : Int := if b = true then x else 0
theorem bdV_t (x : Int) : bdV true x = x := rfl
theorem bdV_f (x : Int) : bdV false x = 0 := rfl
theorem bdB_true {m w h : Int} (q : bdB m w h = true) : 1 ≤ w ∧ w ≤ m ∧ 1 ≤ h ∧ h ≤ m := by
  unfold bdB at q
  simp at q
  omega
theorem bdB_false {m w h : Int} (q : bdB m w h = false) : ¬ (1 ≤ w ∧ w ≤ m ∧ 1 ≤ h ∧ h ≤ m) := by
  unfold bdB at q
  simp at q
  omega
theorem ctBoard_any (w h m : Int) (W : World) :
    Calls Try.prog 40 #[.int .i64 w, .int .i64 h, .int .i64 m] W fun e w' => e = .returned (.bool (bdB m w h)) ∧ Below W.heap.size W w' := by
  by_cases h1 : (decide (1 ≤ w) && decide (w ≤ m)) = true
  all_goals
    go_enter Try.func40, Try.ntmps40
    go_wp2_with (go_at_call 43; refine (l1In_any _ _ _ _).mono ?_; rintro e w' ⟨rfl, rfl⟩)
    go_ret
    exact ⟨by simp [bdB, h1], (by repeat (first | exact Below.refl _ _ | assumption | apply Below.drew | refine Below.alloc ?_ (by simp <;> omega) _))⟩
theorem l1Least_any (a b : Int) (w : World) : Calls Try.prog 42 #[.int .i64 a, .int .i64 b] w fun e w' => e = .returned (.int .i64 (min a b)) ∧ w = w' := by
  by_cases h : a < b
  all_goals
    go_enter Try.func42, Try.ntmps42
    go_wp2
    go_ret
    exact ⟨ret_int (by omega), rfl⟩
theorem boardUpTo_t (m w h : Int) (W : World) (hb : bdB m w h = true) :
    Calls Try.prog 41 #[.int .i64 m, .int .i64 w, .int .i64 h] W fun e w' => e = .returned (.tuple #[.agg #[.int .i64 w, .int .i64 h], .bool true]) ∧ Below W.heap.size W w' := by
  obtain ⟨h1, h2, h3, h4⟩ := bdB_true hb
  have g1 : ¬ w < 1 := by omega
  have g2 : ¬ m < w := by omega
  have g3 : ¬ h < 1 := by omega
  have g4 : ¬ m < h := by omega
  clear hb
  go_enter Try.func41, Try.ntmps41
  go_wp2
  refine bodyPost_ret (v := .tuple #[.agg #[.int .i64 w, .int .i64 h], .bool true]) (by simp [results, Try.results41, go_sem]) rfl ⟨rfl, ?_⟩
  repeat (first | with_reducible assumption | with_reducible exact Below.refl _ _ | with_reducible apply Below.drew | ((with_reducible refine Below.setCell ?_ ?_ _); rotate_left; (first | exact Nat.le_refl _ | omega | (simp <;> omega))) | ((with_reducible refine Below.alloc ?_ ?_ _); rotate_left; (first | omega | (simp <;> omega))))
theorem boardUpTo_f (m w h : Int) (W : World) (hb : bdB m w h = false) :
    Calls Try.prog 41 #[.int .i64 m, .int .i64 w, .int .i64 h] W fun e w' => e = .returned (.tuple #[.agg #[.int .i64 0, .int .i64 0], .bool false]) ∧ Below W.heap.size W w' := by
  have h1 := bdB_false hb
  clear hb
  by_cases g1 : w < 1
  · go_enter Try.func41, Try.ntmps41
    go_wp2
    refine bodyPost_ret (v := .tuple #[.agg #[.int .i64 0, .int .i64 0], .bool false]) (by simp [results, Try.results41, go_sem]) rfl ⟨rfl, ?_⟩
    repeat (first | with_reducible assumption | with_reducible exact Below.refl _ _ | with_reducible apply Below.drew | ((with_reducible refine Below.setCell ?_ ?_ _); rotate_left; (first | exact Nat.le_refl _ | omega | (simp <;> omega))) | ((with_reducible refine Below.alloc ?_ ?_ _); rotate_left; (first | omega | (simp <;> omega))))
  · by_cases g2 : m < w
    · go_enter Try.func41, Try.ntmps41
      go_wp2
      refine bodyPost_ret (v := .tuple #[.agg #[.int .i64 0, .int .i64 0], .bool false]) (by simp [results, Try.results41, go_sem]) rfl ⟨rfl, ?_⟩
      repeat (first | with_reducible assumption | with_reducible exact Below.refl _ _ | with_reducible apply Below.drew | ((with_reducible refine Below.setCell ?_ ?_ _); rotate_left; (first | exact Nat.le_refl _ | omega | (simp <;> omega))) | ((with_reducible refine Below.alloc ?_ ?_ _); rotate_left; (first | omega | (simp <;> omega))))
    · by_cases g3 : h < 1
      · go_enter Try.func41, Try.ntmps41
        go_wp2
        refine bodyPost_ret (v := .tuple #[.agg #[.int .i64 0, .int .i64 0], .bool false]) (by simp [results, Try.results41, go_sem]) rfl ⟨rfl, ?_⟩
        repeat (first | with_reducible assumption | with_reducible exact Below.refl _ _ | with_reducible apply Below.drew | ((with_reducible refine Below.setCell ?_ ?_ _); rotate_left; (first | exact Nat.le_refl _ | omega | (simp <;> omega))) | ((with_reducible refine Below.alloc ?_ ?_ _); rotate_left; (first | omega | (simp <;> omega))))
      · have g4 : m < h := by omega
        go_enter Try.func41, Try.ntmps41
        go_wp2
        refine bodyPost_ret (v := .tuple #[.agg #[.int .i64 0, .int .i64 0], .bool false]) (by simp [results, Try.results41, go_sem]) rfl ⟨rfl, ?_⟩
        repeat (first | with_reducible assumption | with_reducible exact Below.refl _ _ | with_reducible apply Below.drew | ((with_reducible refine Below.setCell ?_ ?_ _); rotate_left; (first | exact Nat.le_refl _ | omega | (simp <;> omega))) | ((with_reducible refine Below.alloc ?_ ?_ _); rotate_left; (first | omega | (simp <;> omega))))
/-- upright rectangles -/
def uprN (w h : Int) : Int := w * (w - 1) / 2 * (h * (h - 1) / 2)
theorem upr_bd {w : Int} (h1 : 1 ≤ w) (h2 : w ≤ 12) : 0 ≤ w * (w - 1) ∧ w * (w - 1) ≤ 132 := by
  have a1 := mul_bd (x := w) (y := w - 1) (m := 12) (n := 11) (by omega) (by omega) (by omega) (by omega)
  have a0 := Int.mul_nonneg (show 0 ≤ w by omega) (show 0 ≤ w - 1 by omega)
  omega
theorem gr_bd {w h : Int} (h1 : 1 ≤ w) (h2 : w ≤ 12) (h3 : 1 ≤ h) (h4 : h ≤ 12) : 0 ≤ (w - 1) * (h - 1) ∧ (w - 1) * (h - 1) ≤ 121 := by
  have a1 := mul_bd (x := w - 1) (y := h - 1) (m := 11) (n := 11) (by omega) (by omega) (by omega) (by omega)
  have a0 := Int.mul_nonneg (show 0 ≤ w - 1 by omega) (show 0 ≤ h - 1 by omega)
  omega
theorem upp_bd {x y : Int} (h1 : 0 ≤ x) (h2 : x ≤ 132) (h3 : 0 ≤ y) (h4 : y ≤ 132) : 0 ≤ x / 2 * (y / 2) ∧ x / 2 * (y / 2) ≤ 10000 := by
  have a1 := mul_bd (x := x / 2) (y := y / 2) (m := 100) (n := 100) (by omega) (by omega) (by omega) (by omega)
  have a0 := Int.mul_nonneg (show 0 ≤ x / 2 by omega) (show 0 ≤ y / 2 by omega)
  omega
end Go.Proofs.Ytmhdbodmpohdnaa
