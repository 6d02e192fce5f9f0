/- lists of numbers that come in: copied, opened, looked at -/
import Derived.Test.YtakccbbdfcnjeaaKi
import Derived.Test.YtakccbbdfcnjeaaMa
import Derived.Test.YtakccbbdfcnjeaaN
import Derived.Test.YtakccbbdfcnjeaaZ
import Derived.ChangeSlices
namespace Go.Proofs.Ytakccbbdfcnjeaa
open Go.ChangeShapes Go.WideShapes Go.ChangeAt Go.RowKit Go.Joins
set_option linter.unusedVariables false
set_option linter.unusedSimpArgs false
set_option maxRecDepth 4000
open Go.Deep
theorem rdi_of_rw {w : World} {lo B : Nat} {A : Option Addr} {n : Nat} {f : Nat → Int} (h : RwI w lo B A n f) (hB : B ≤ w.heap.size) : RdI w w.heap.size A n f := fun hn => by
  obtain ⟨b, off, e, h1, h2, h3⟩ := h hn
  exact ⟨b, off, e, by omega, fun i hi => (h3 i hi).1⟩
theorem int_info : (Try.prog.info? 3).map (fun i => (i.zero, i.size, i.bytes)) = some (some (.int .i64 0), 1, 8) := by kernel_rfl
/-- a new block of numbers: number g, the first k of them set -/
def SetI (w : World) (g n k : Nat) (f : Nat → Int) : Prop :=
  g < w.heap.size ∧ (∀ i, i < n → (∃ u, w.cell? ⟨g, i, none⟩ = some u) ∧ w.frozen? ⟨g, i, none⟩ = false) ∧ ∀ i, i < k → w.cell? ⟨g, i, none⟩ = some (.int .i64 (f i))
theorem seti_new (w : World) (t : TypeId) (n : Nat) (f : Nat → Int) : SetI (w.alloc (.cells (madeCells #[.int .i64 0] (n * 1)) t)) w.heap.size n 0 f := by
  refine ⟨by simp, fun i hi => ?_, fun i h => absurd h (Nat.not_lt_zero _)⟩
  have hs := size_madeCells #[.int .i64 0] (n * 1)
  exact ⟨⟨_, by rw [cell_of_row (w.alloc _) w.heap.size i _ t (0, 0) (heap_alloc_new w _)]; exact Array.getElem?_eq_getElem (by omega)⟩, by rw [frozen?_alloc_cells]; simp [World.frozen?]⟩
theorem seti_store {w : World} {g n k : Nat} {f : Nat → Int} (h : SetI w g n k f) (hk : k < n) : SetI (w.setCell ⟨g, k, none⟩ (.int .i64 (f k))) g n (k + 1) f := by
  obtain ⟨h1, h2, h3⟩ := h
  refine ⟨by simpa [World.setCell] using h1, fun i hi => ?_, fun i hi => ?_⟩
  · obtain ⟨⟨u, e⟩, z⟩ := h2 i hi
    exact ⟨cell?_setCell_some e, by rw [World.frozen?_setCell]; exact z⟩
  · by_cases hik : i = k
    · subst hik
      obtain ⟨⟨u, e⟩, _⟩ := h2 i hk
      exact World.cell?_setCell_same w _ _ e
    · rw [World.cell?_setCell_other w _ _ _ (fun e => hik (by injection e with e1 e2; exact e2.symm))]
      exact h3 i (by omega)
theorem rwi_of_seti {w : World} {lo g n : Nat} {f : Nat → Int} (h : SetI w g n n f) (hl : lo ≤ g) : RwI w lo w.heap.size (some ⟨g, 0, none⟩) n f := fun _ => by
  obtain ⟨h1, h2, h3⟩ := h
  exact ⟨g, 0, rfl, hl, h1, fun i hi => by rw [Nat.zero_add]; exact ⟨h3 i hi, (h2 i hi).2⟩⟩
section
variable {H : Type} {enc : TypeId × Value → H}
/-- an argument that is a list of numbers -/
theorem open_numbers {w : World} {r : Reach} {b0 base : Nat} {spare : Nat → Bool} {v : Value} {d : DataW H} {p : List MemPlace} (hv : Value.okWide Try.prog w r b0 138 v)
    (h : DataW.Trod enc Try.prog w base spare true 138 v d p) : ∃ (A : Option Addr) (c n : Nat) (f : Nat → Int), v = .slice A n c ∧ n ≤ c ∧ c ≤ maxLen ∧ RdI w w.heap.size A n f := by
  obtain ⟨a0, len, cap, rfl⟩ := okWide_slice Try.underlying138 hv
  obtain ⟨fuel, hf⟩ := h
  rcases open_ints Try.underlying138 Try.underlying3 (by kernel_rfl) hf with ⟨hcs, _⟩ | ⟨a, len', cap', zs, hcs, _, hl, hm, hzl, _, hi, _⟩
  · simp [Value.cells] at hcs
    obtain ⟨rfl, rfl, rfl⟩ := hcs
    exact ⟨none, 0, 0, fun _ => 0, rfl, by simp, by simp, fun h => absurd h (by simp)⟩
  · simp [Value.cells] at hcs
    obtain ⟨rfl, rfl, rfl⟩ := hcs
    have hml : len ≤ zs.length := by rw [hzl]; split <;> omega
    refine ⟨some a, cap, len, fun i => zs.getD i 0, rfl, hl, hm, fun hpos => ?_⟩
    have k0 := hi 0 (by omega)
    obtain ⟨b, off, spot⟩ := a
    have hspot : spot = none := by simpa [Addr.add] using World.cell?_spot k0
    subst hspot
    refine ⟨b, off, rfl, ?_, fun i hq => ?_⟩
    · have := lt_of_cell k0
      rw [add_plain] at this
      exact this
    · have := hi i (by omega)
      rw [add_plain] at this
      exact this
end
end Go.Proofs.Ytakccbbdfcnjeaa
