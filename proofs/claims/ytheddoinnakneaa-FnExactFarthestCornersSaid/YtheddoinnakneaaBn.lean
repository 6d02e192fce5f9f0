/- contracts: BandOf on both sides -/
import Derived.Test.YtheddoinnakneaaBg
import Derived.Test.YtheddoinnakneaaBm
import Derived.Test.YtheddoinnakneaaBd
import Derived.Test.YtheddoinnakneaaLs
namespace Go.Proofs.Ytheddoinnakneaa
open Go.ChangeShapes Go.WideShapes Go.ChangeAt Go.RowKit Go.Joins
set_option linter.unusedVariables false
set_option linter.unusedSimpArgs false
set_option maxRecDepth 4000
/-- the band -/
def band (l : List (Int × Int)) : List (Int × Int) := MH.hull (srt l)
theorem band_few {l : List (Int × Int)} (h : Dif l) : (band l).length ≤ 60 := by
  have h1 := hull_len (s := srt l)
  rw [srt_len] at h1
  have := h.few.2
  unfold band
  omega
theorem dif_pegs {l : List (Int × Int)} (h : Dif l) : ∀ x ∈ l, isPg x = true := by
  intro x hx
  obtain ⟨i, hi, e⟩ := in_iff.1 hx
  rw [← e]
  exact (h.fine i hi).1
theorem retL_own {w w' : World} {v : Value} {m : List (Int × Int)} (h : w'.ownsRow w.heap.size 56 2 v m.length (flat m)) (hb : Below w.heap.size w w') : RetL w m true (.returned (.tuple #[v, .bool true])) w' := by
  obtain ⟨A, c, rfl, h1, h2, h3⟩ := rw_of_own h
  exact ⟨A, c, rfl, h1, h2, hb, h3⟩
theorem band_le (l : List (Int × Int)) : (sel (difB l) (band l)).length ≤ 1048576 := by
  unfold sel
  split
  · rename_i h
    have := band_few (dif_of h)
    omega
  · simp
end Go.Proofs.Ytheddoinnakneaa
