/- plain: each board looked at, the longest lines, up to nine columns -/
import Derived.Test.YtmhdbodmpohdnaaOp0
namespace Go.Proofs.Ytmhdbodmpohdnaa
open Go.ChangeShapes Go.WideShapes Go.ChangeAt Go.RowKit Go.Joins
set_option linter.unusedVariables false
set_option linter.unusedSimpArgs false
set_option maxRecDepth 4000
set_option maxRecDepth 100000 in
theorem lon_1 : ∀ h : Fin 12, ((lon 1 (h.val + 1) (max ((1 : Nat) : Int) ((h.val + 1 : Nat) : Int)) (1 * (h.val + 1)) : Nat) : Int) = if 1 = 1 ∧ h.val = 0 then 0 else lnI 1 (h.val + 1) (max ((1 : Nat) : Int) ((h.val + 1 : Nat) : Int)) := by decide +kernel
set_option maxRecDepth 100000 in
theorem lon_2 : ∀ h : Fin 12, ((lon 2 (h.val + 1) (max ((2 : Nat) : Int) ((h.val + 1 : Nat) : Int)) (2 * (h.val + 1)) : Nat) : Int) = if 2 = 1 ∧ h.val = 0 then 0 else lnI 2 (h.val + 1) (max ((2 : Nat) : Int) ((h.val + 1 : Nat) : Int)) := by decide +kernel
set_option maxRecDepth 100000 in
theorem lon_3 : ∀ h : Fin 12, ((lon 3 (h.val + 1) (max ((3 : Nat) : Int) ((h.val + 1 : Nat) : Int)) (3 * (h.val + 1)) : Nat) : Int) = if 3 = 1 ∧ h.val = 0 then 0 else lnI 3 (h.val + 1) (max ((3 : Nat) : Int) ((h.val + 1 : Nat) : Int)) := by decide +kernel
set_option maxRecDepth 100000 in
theorem lon_4 : ∀ h : Fin 12, ((lon 4 (h.val + 1) (max ((4 : Nat) : Int) ((h.val + 1 : Nat) : Int)) (4 * (h.val + 1)) : Nat) : Int) = if 4 = 1 ∧ h.val = 0 then 0 else lnI 4 (h.val + 1) (max ((4 : Nat) : Int) ((h.val + 1 : Nat) : Int)) := by decide +kernel
set_option maxRecDepth 100000 in
theorem lon_5 : ∀ h : Fin 12, ((lon 5 (h.val + 1) (max ((5 : Nat) : Int) ((h.val + 1 : Nat) : Int)) (5 * (h.val + 1)) : Nat) : Int) = if 5 = 1 ∧ h.val = 0 then 0 else lnI 5 (h.val + 1) (max ((5 : Nat) : Int) ((h.val + 1 : Nat) : Int)) := by decide +kernel
set_option maxRecDepth 100000 in
theorem lon_6 : ∀ h : Fin 12, ((lon 6 (h.val + 1) (max ((6 : Nat) : Int) ((h.val + 1 : Nat) : Int)) (6 * (h.val + 1)) : Nat) : Int) = if 6 = 1 ∧ h.val = 0 then 0 else lnI 6 (h.val + 1) (max ((6 : Nat) : Int) ((h.val + 1 : Nat) : Int)) := by decide +kernel
set_option maxRecDepth 100000 in
theorem lon_7 : ∀ h : Fin 12, ((lon 7 (h.val + 1) (max ((7 : Nat) : Int) ((h.val + 1 : Nat) : Int)) (7 * (h.val + 1)) : Nat) : Int) = if 7 = 1 ∧ h.val = 0 then 0 else lnI 7 (h.val + 1) (max ((7 : Nat) : Int) ((h.val + 1 : Nat) : Int)) := by decide +kernel
set_option maxRecDepth 100000 in
theorem lon_8 : ∀ h : Fin 12, ((lon 8 (h.val + 1) (max ((8 : Nat) : Int) ((h.val + 1 : Nat) : Int)) (8 * (h.val + 1)) : Nat) : Int) = if 8 = 1 ∧ h.val = 0 then 0 else lnI 8 (h.val + 1) (max ((8 : Nat) : Int) ((h.val + 1 : Nat) : Int)) := by decide +kernel
set_option maxRecDepth 100000 in
theorem lon_9 : ∀ h : Fin 12, ((lon 9 (h.val + 1) (max ((9 : Nat) : Int) ((h.val + 1 : Nat) : Int)) (9 * (h.val + 1)) : Nat) : Int) = if 9 = 1 ∧ h.val = 0 then 0 else lnI 9 (h.val + 1) (max ((9 : Nat) : Int) ((h.val + 1 : Nat) : Int)) := by decide +kernel
end Go.Proofs.Ytmhdbodmpohdnaa
