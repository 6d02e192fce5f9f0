/- contract: the program's own copy of a list -/
import Derived.Test.YthpbnfmfedggjaaLayC
import Derived.Test.YthpbnfmfedggjaaBm0
import Derived.Test.YthpbnfmfedggjaaSax
import Derived.Test.YthpbnfmfedggjaaNbp
namespace Go.Proofs.Ythpbnfmfedggjaa
open Go.ChangeShapes Go.WideShapes Go.ChangeAt Go.RowKit Go.Joins
set_option linter.unusedVariables false
set_option linter.unusedSimpArgs false
set_option maxRecDepth 4000
set_option maxHeartbeats 4000000 in
theorem clone_any (A : Option Addr) (c n : Nat) (l : List (Int × Int)) (w : World) (hln : l.length = n) (h1 : 1 ≤ n) (hn : n ≤ 1000000) (hR : Rd w w.heap.size A l) :
    Calls Try.prog 64 #[.slice A n c] w fun e w' =>
      ∃ g cap, e = .returned (.slice (some ⟨g, 0, none⟩) n cap) ∧ w'.ownsRow w.heap.size 38 2 (.slice (some ⟨g, 0, none⟩) n cap) n (flat l) ∧ Below w.heap.size w w' := by
  obtain ⟨i0, hi0, hz0, hz1, hz2⟩ := info_parts peg_info
  obtain ⟨b, off, rfl, hb, hc⟩ := hR (by omega)
  have hC := AnyE.slices_Clone layClone i0 (.agg #[.int .i64 0, .int .i64 0]) 2 16 hi0 hz0 hz1 hz2 rfl (by decide) (fun _ => by kernel_rfl) b off n c (flat l) w (by rw [flat_len, hln]) (by unfold maxLen; omega) (by omega)
    (fun j u hu => by
      have := flat_cells (w := w) (b := b) (off := off) (l := l) (fun i hi => hc i _ (pt_get hi)) j u hu
      rw [add_plain] at this
      exact this)
    (fun u hu => by
      obtain ⟨p, _, hp⟩ := List.mem_flatMap.1 hu
      simp at hp
      rcases hp with rfl | rfl <;> rfl)
  refine Calls.mono hC ?_
  rintro e w' ⟨v, rfl, ho, hnil, hb2⟩
  rcases own_val ho with ⟨rfl, _⟩ | ⟨g, cap, rfl, _⟩
  · exact absurd rfl hnil
  · exact ⟨g, cap, rfl, ho, hb2⟩
end Go.Proofs.Ythpbnfmfedggjaa
