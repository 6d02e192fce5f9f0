/- plain: each board looked at, the longest lines, from ten columns on -/
import Derived.Test.YtmhdbodmpohdnaaOp0
namespace Go.Proofs.Ytmhdbodmpohdnaa
open Go.ChangeShapes Go.WideShapes Go.ChangeAt Go.RowKit Go.Joins
set_option linter.unusedVariables false
set_option linter.unusedSimpArgs false
set_option maxRecDepth 4000
set_option maxRecDepth 100000 in
theorem lon_10 : ∀ h : Fin 12, ((lon 10 (h.val + 1) (max ((10 : Nat) : Int) ((h.val + 1 : Nat) : Int)) (10 * (h.val + 1)) : Nat) : Int) = if 10 = 1 ∧ h.val = 0 then 0 else lnI 10 (h.val + 1) (max ((10 : Nat) : Int) ((h.val + 1 : Nat) : Int)) := by decide +kernel
set_option maxRecDepth 100000 in
theorem lon_11 : ∀ h : Fin 12, ((lon 11 (h.val + 1) (max ((11 : Nat) : Int) ((h.val + 1 : Nat) : Int)) (11 * (h.val + 1)) : Nat) : Int) = if 11 = 1 ∧ h.val = 0 then 0 else lnI 11 (h.val + 1) (max ((11 : Nat) : Int) ((h.val + 1 : Nat) : Int)) := by decide +kernel
set_option maxRecDepth 100000 in
theorem lon_12 : ∀ h : Fin 12, ((lon 12 (h.val + 1) (max ((12 : Nat) : Int) ((h.val + 1 : Nat) : Int)) (12 * (h.val + 1)) : Nat) : Int) = if 12 = 1 ∧ h.val = 0 then 0 else lnI 12 (h.val + 1) (max ((12 : Nat) : Int) ((h.val + 1 : Nat) : Int)) := by decide +kernel
end Go.Proofs.Ytmhdbodmpohdnaa
