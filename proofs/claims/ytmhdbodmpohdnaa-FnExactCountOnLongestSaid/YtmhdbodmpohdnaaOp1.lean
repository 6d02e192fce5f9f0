/- plain: each board looked at, all lines -/
import Derived.Test.YtmhdbodmpohdnaaOp0
namespace Go.Proofs.Ytmhdbodmpohdnaa
open Go.ChangeShapes Go.WideShapes Go.ChangeAt Go.RowKit Go.Joins
set_option linter.unusedVariables false
set_option linter.unusedSimpArgs false
set_option maxRecDepth 4000
set_option maxRecDepth 100000 in
theorem tot_1 : ∀ h : Fin 12, ((tot 1 (h.val + 1) (1 * (h.val + 1)) : Nat) : Int) = lnI 1 (h.val + 1) 2 := by decide +kernel
set_option maxRecDepth 100000 in
theorem tot_2 : ∀ h : Fin 12, ((tot 2 (h.val + 1) (2 * (h.val + 1)) : Nat) : Int) = lnI 2 (h.val + 1) 2 := by decide +kernel
set_option maxRecDepth 100000 in
theorem tot_3 : ∀ h : Fin 12, ((tot 3 (h.val + 1) (3 * (h.val + 1)) : Nat) : Int) = lnI 3 (h.val + 1) 2 := by decide +kernel
set_option maxRecDepth 100000 in
theorem tot_4 : ∀ h : Fin 12, ((tot 4 (h.val + 1) (4 * (h.val + 1)) : Nat) : Int) = lnI 4 (h.val + 1) 2 := by decide +kernel
set_option maxRecDepth 100000 in
theorem tot_5 : ∀ h : Fin 12, ((tot 5 (h.val + 1) (5 * (h.val + 1)) : Nat) : Int) = lnI 5 (h.val + 1) 2 := by decide +kernel
set_option maxRecDepth 100000 in
theorem tot_6 : ∀ h : Fin 12, ((tot 6 (h.val + 1) (6 * (h.val + 1)) : Nat) : Int) = lnI 6 (h.val + 1) 2 := by decide +kernel
set_option maxRecDepth 100000 in
theorem tot_7 : ∀ h : Fin 12, ((tot 7 (h.val + 1) (7 * (h.val + 1)) : Nat) : Int) = lnI 7 (h.val + 1) 2 := by decide +kernel
set_option maxRecDepth 100000 in
theorem tot_8 : ∀ h : Fin 12, ((tot 8 (h.val + 1) (8 * (h.val + 1)) : Nat) : Int) = lnI 8 (h.val + 1) 2 := by decide +kernel
set_option maxRecDepth 100000 in
theorem tot_9 : ∀ h : Fin 12, ((tot 9 (h.val + 1) (9 * (h.val + 1)) : Nat) : Int) = lnI 9 (h.val + 1) 2 := by decide +kernel
set_option maxRecDepth 100000 in
theorem tot_10 : ∀ h : Fin 12, ((tot 10 (h.val + 1) (10 * (h.val + 1)) : Nat) : Int) = lnI 10 (h.val + 1) 2 := by decide +kernel
set_option maxRecDepth 100000 in
theorem tot_11 : ∀ h : Fin 12, ((tot 11 (h.val + 1) (11 * (h.val + 1)) : Nat) : Int) = lnI 11 (h.val + 1) 2 := by decide +kernel
set_option maxRecDepth 100000 in
theorem tot_12 : ∀ h : Fin 12, ((tot 12 (h.val + 1) (12 * (h.val + 1)) : Nat) : Int) = lnI 12 (h.val + 1) 2 := by decide +kernel
end Go.Proofs.Ytmhdbodmpohdnaa
