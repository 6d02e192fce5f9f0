/- contracts: AreAround, the program -/
import Derived.Test.YtacabmbajadbgaaRi2
import Derived.Test.YtacabmbajadbgaaRi3
namespace Go.Proofs.Ytacabmbajadbgaa
open Go.ChangeShapes Go.WideShapes Go.ChangeAt Go.RowKit Go.Joins
set_option linter.unusedVariables false
set_option linter.unusedSimpArgs false
set_option maxRecDepth 4000
theorem dmk_congr {F G : Nat → Int} {c : Nat} (h : ∀ i, i < c → F i = G i) (hc : 0 < c) : ∀ i, dmk F c i = dmk G c i ∧ dmk F c (i + 1) = dmk G c (i + 1) := by
  intro i
  induction i with
  | zero => exact ⟨rfl, rfl⟩
  | succ i ih =>
    refine ⟨ih.2, ?_⟩
    show (F ((i + 1) % c) * (dmk F c (i + 1)).1 - (dmk F c i).1, F ((i + 1) % c) * (dmk F c (i + 1)).2 - (dmk F c i).2) = (G ((i + 1) % c) * (dmk G c (i + 1)).1 - (dmk G c i).1, G ((i + 1) % c) * (dmk G c (i + 1)).2 - (dmk G c i).2)
    rw [ih.1, ih.2, h _ (Nat.mod_lt _ hc)]
theorem sN_congr {F G : Nat → Int} {c : Nat} (h : ∀ i, i < c → F i = G i) : sN F c = sN G c := by
  induction c with
  | zero => rfl
  | succ c ih => show sN F c + F c = sN G c + G c; rw [ih (fun i hi => h i (by omega)), h c (by omega)]
theorem arI_congr {F G : Nat → Int} {c : Nat} (h : ∀ i, i < c → F i = G i) (hc : 0 < c) : arI F c = arI G c := by
  unfold arI
  rw [(dmk_congr h hc c).1, (dmk_congr h hc c).2, sN_congr h]
theorem allIn_six {f : Nat → Int} {n : Nat} (h : allIn (-6) 2 f n = true) : ∀ i, i < n → -6 ≤ f i ∧ f i ≤ 2 := by
  intro i hi
  by_cases hq : inQ (-6) 2 (f i) = true
  · unfold inQ at hq
    simpa [Bool.and_eq_true] using hq
  · rw [allIn_false hi (by simpa using hq)] at h; cases h
theorem numB_T {f : Nat → Int} {n : Nat} (h : numB f n = true) : 3 ≤ n ∧ n ≤ 9 ∧ Six f n := by
  unfold numB at h
  simp only [Bool.and_eq_true] at h
  have h1 := h.1
  unfold inQ at h1
  simp only [Bool.and_eq_true, decide_eq_true_eq] at h1
  exact ⟨by omega, by omega, fun i hi => by have := allIn_six h.2 i hi; omega⟩
theorem cF_eq (f : Nat → Int) (n : Nat) : ∀ i, i < n → cF f n i = f i := fun i hi => by unfold cF; rw [if_pos hi]
def arB2 (f : Nat → Int) (n : Nat) : Bool := numB f n && arI f n
end Go.Proofs.Ytacabmbajadbgaa
