/- contracts: DoesFit on both sides -/
import Derived.Test.YtacabmbajadbgaaPz9
namespace Go.Proofs.Ytacabmbajadbgaa
open Go.ChangeShapes Go.WideShapes Go.ChangeAt Go.RowKit Go.Joins
set_option linter.unusedVariables false
set_option linter.unusedSimpArgs false
set_option maxRecDepth 4000
def dfB (s k a b c p1 p2 : Int) : Bool := (inQ 1 12 s && clueB s k a b c) && (inQ 0 s p1 && inQ 0 s p2)
theorem df_fit {s k a b c p1 p2 : Int} (h : dfB s k a b c p1 p2 = true) : kindB k = true ∧ Fit a b p1 p2 ∧ 1 ≤ s ∧ s ≤ 12 := by
  unfold dfB clueB at h
  simp only [Bool.and_eq_true] at h
  obtain ⟨⟨h1, hk, ha, hb, hc⟩, hp, hq⟩ := h
  have h12 := inQ_12 h1
  have a1 := inQ_t ha
  have b1 := inQ_t hb
  have p1' := inQ_t hp
  have q1' := inQ_t hq
  have ma : mA k s ≤ 24 := by unfold mA; split <;> omega
  have mb : mB k s ≤ 24 := by unfold mB; split <;> omega
  exact ⟨hk, ⟨by omega, by omega, by omega, by omega⟩, h12.1, h12.2⟩
end Go.Proofs.Ytacabmbajadbgaa
