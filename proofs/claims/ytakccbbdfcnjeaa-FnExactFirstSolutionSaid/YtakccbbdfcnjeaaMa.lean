/- lists of numbers that are read; l1All at any of them; moves of the model -/
import Derived.Test.YtakccbbdfcnjeaaMl
import Derived.Test.YtakccbbdfcnjeaaZ
import Derived.LoopTactic
import Derived.BigRegion
namespace Go.Proofs.Ytakccbbdfcnjeaa
open Go.ChangeShapes Go.WideShapes Go.ChangeAt Go.RowKit Go.Joins
set_option linter.unusedVariables false
set_option linter.unusedSimpArgs false
set_option maxRecDepth 4000
/-- the slice's cells from address A on hold the numbers f 0, .., f (n - 1), below block z -/
def RdI (w : World) (z : Nat) (A : Option Addr) (n : Nat) (f : Nat → Int) : Prop :=
  0 < n → ∃ b off, A = some ⟨b, off, none⟩ ∧ b < z ∧ ∀ i, i < n → w.cell? ⟨b, off + i, none⟩ = some (.int .i64 (f i))
theorem rdi_below {w w' : World} {z : Nat} {A : Option Addr} {n : Nat} {f : Nat → Int} (h : RdI w z A n f) (hb : Below w.heap.size w w') (hz : z ≤ w.heap.size) : RdI w' w'.heap.size A n f := fun hn => by
  obtain ⟨b, off, e, h1, h2⟩ := h hn
  have := hb.size
  exact ⟨b, off, e, by omega, fun i hi => ((bcell hb).1 _ _ (by omega)).trans (h2 i hi)⟩
def inQ (lo hi k : Int) : Bool := decide (lo ≤ k) && decide (k ≤ hi)
def allIn (lo hi : Int) (f : Nat → Int) : Nat → Bool
  | 0 => true
  | n + 1 => allIn lo hi f n && inQ lo hi (f n)
theorem allIn_false {lo hi : Int} {f : Nat → Int} {k n : Nat} (h : k < n) (hf : inQ lo hi (f k) = false) : allIn lo hi f n = false := by
  induction n with
  | zero => omega
  | succ m ih =>
    by_cases hk : k = m
    · subst hk; show (_ && _) = false; rw [hf]; simp
    · show (_ && _) = false; rw [ih (by omega)]; rfl
end Go.Proofs.Ytakccbbdfcnjeaa
