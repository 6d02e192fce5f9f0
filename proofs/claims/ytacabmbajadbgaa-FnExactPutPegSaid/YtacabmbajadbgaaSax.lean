/- what a call may read of a list of points -/
import Derived.Test.YtacabmbajadbgaaS
import Derived.Test.YtacabmbajadbgaaR
namespace Go.Proofs.Ytacabmbajadbgaa
open Go.ChangeShapes Go.WideShapes Go.ChangeAt Go.RowKit Go.Joins
set_option linter.unusedVariables false
set_option linter.unusedSimpArgs false
set_option maxRecDepth 4000
theorem bt_keep {w W W' : World} (h : Below w.heap.size w W) (hb : Below W.heap.size W W') : Below w.heap.size w W' := h.trans (hb.mono h.size)
/-- what a call may read of a list of points -/
def Pts (w : World) (b off n : Nat) (l : List (Int × Int)) : Prop :=
  ∀ W, Below w.heap.size w W → ∀ i, i < n → W.cell? ⟨b, off + i * 2, none⟩ = some (.int .i64 (vx l i).1) ∧ W.cell? ⟨b, off + i * 2 + 1, none⟩ = some (.int .i64 (vx l i).2)
theorem pts_of {w : World} {A : Option Addr} {l : List (Int × Int)} (h0 : 0 < l.length) (hR : Rd w w.heap.size A l) : ∃ b off, A = some ⟨b, off, none⟩ ∧ b < w.heap.size ∧ Hid (Pts w b off l.length l) := by
  obtain ⟨b, off, e, hb, hc⟩ := hR h0
  refine ⟨b, off, e, hb, Lib.hid fun W hW i hi => ?_⟩
  have h1 := hc i _ (vx_get hi)
  exact ⟨(hW.cell (p := ⟨b, off + i * 2, none⟩) hb).trans h1.1, (hW.cell (p := ⟨b, off + i * 2 + 1, none⟩) hb).trans h1.2⟩
theorem pgs_sz {l : List (Int × Int)} (h : ∀ i, i < l.length → isPg (vx l i) = true) (i : Nat) (h0 : 0 < l.length) : Sz (vx l i).1 (vx l i).2 := sz_of (vx_pg h h0 i)
end Go.Proofs.Ytacabmbajadbgaa
