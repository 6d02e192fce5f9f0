/- plain: how many straight lines a board has -/
import Derived.Test.YtmhdbodmpohdnaaOp1
import Derived.Test.YtmhdbodmpohdnaaOp2
import Derived.Test.YtmhdbodmpohdnaaOp3
namespace Go.Proofs.Ytmhdbodmpohdnaa
open Go.ChangeShapes Go.WideShapes Go.ChangeAt Go.RowKit Go.Joins
set_option linter.unusedVariables false
set_option linter.unusedSimpArgs false
set_option maxRecDepth 4000
theorem tot_is {w h : Nat} (h1 : 1 ≤ w) (h2 : w ≤ 12) (h3 : 1 ≤ h) (h4 : h ≤ 12) : (((stS w h (w * h)).length : Nat) : Int) = lnI w h 2 := by
  rw [tot_eq]
  obtain ⟨k, hk, rfl⟩ : ∃ k, k < 12 ∧ h = k + 1 := ⟨h - 1, by omega, by omega⟩
  rcases (show w = 1 ∨ w = 2 ∨ w = 3 ∨ w = 4 ∨ w = 5 ∨ w = 6 ∨ w = 7 ∨ w = 8 ∨ w = 9 ∨ w = 10 ∨ w = 11 ∨ w = 12 by omega) with rfl | rfl | rfl | rfl | rfl | rfl | rfl | rfl | rfl | rfl | rfl | rfl
  · exact tot_1 ⟨k, hk⟩
  · exact tot_2 ⟨k, hk⟩
  · exact tot_3 ⟨k, hk⟩
  · exact tot_4 ⟨k, hk⟩
  · exact tot_5 ⟨k, hk⟩
  · exact tot_6 ⟨k, hk⟩
  · exact tot_7 ⟨k, hk⟩
  · exact tot_8 ⟨k, hk⟩
  · exact tot_9 ⟨k, hk⟩
  · exact tot_10 ⟨k, hk⟩
  · exact tot_11 ⟨k, hk⟩
  · exact tot_12 ⟨k, hk⟩
theorem lon_is {w h : Nat} (h1 : 1 ≤ w) (h2 : w ≤ 12) (h3 : 1 ≤ h) (h4 : h ≤ 12) : ((cntT (max (w : Int) (h : Int)) (stS w h (w * h)) : Nat) : Int) = if w = 1 ∧ h = 1 then 0 else lnI w h (max (w : Int) (h : Int)) := by
  rw [lon_eq]
  obtain ⟨k, hk, rfl⟩ : ∃ k, k < 12 ∧ h = k + 1 := ⟨h - 1, by omega, by omega⟩
  have key : ∀ (w : Nat) (X Y : Int), X = (if w = 1 ∧ k = 0 then 0 else Y) → X = if w = 1 ∧ k + 1 = 1 then 0 else Y := fun w X Y e => by
    rw [e]
    by_cases g : w = 1 ∧ k = 0
    · rw [if_pos g, if_pos (by omega)]
    · rw [if_neg g, if_neg (by omega)]
  rcases (show w = 1 ∨ w = 2 ∨ w = 3 ∨ w = 4 ∨ w = 5 ∨ w = 6 ∨ w = 7 ∨ w = 8 ∨ w = 9 ∨ w = 10 ∨ w = 11 ∨ w = 12 by omega) with rfl | rfl | rfl | rfl | rfl | rfl | rfl | rfl | rfl | rfl | rfl | rfl
  · exact key 1 _ _ (lon_1 ⟨k, hk⟩)
  · exact key 2 _ _ (lon_2 ⟨k, hk⟩)
  · exact key 3 _ _ (lon_3 ⟨k, hk⟩)
  · exact key 4 _ _ (lon_4 ⟨k, hk⟩)
  · exact key 5 _ _ (lon_5 ⟨k, hk⟩)
  · exact key 6 _ _ (lon_6 ⟨k, hk⟩)
  · exact key 7 _ _ (lon_7 ⟨k, hk⟩)
  · exact key 8 _ _ (lon_8 ⟨k, hk⟩)
  · exact key 9 _ _ (lon_9 ⟨k, hk⟩)
  · exact key 10 _ _ (lon_10 ⟨k, hk⟩)
  · exact key 11 _ _ (lon_11 ⟨k, hk⟩)
  · exact key 12 _ _ (lon_12 ⟨k, hk⟩)
end Go.Proofs.Ytmhdbodmpohdnaa
