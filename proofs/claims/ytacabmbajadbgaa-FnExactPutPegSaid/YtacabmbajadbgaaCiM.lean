/- lists of numbers that come in: copied, opened, looked at -/
import Derived.Test.YtacabmbajadbgaaKi
import Derived.Test.YtacabmbajadbgaaMa
import Derived.Test.YtacabmbajadbgaaN
import Derived.Test.YtacabmbajadbgaaZ
import Derived.ChangeSlices
namespace Go.Proofs.Ytacabmbajadbgaa
open Go.ChangeShapes Go.WideShapes Go.ChangeAt Go.RowKit Go.Joins
set_option linter.unusedVariables false
set_option linter.unusedSimpArgs false
set_option maxRecDepth 4000
open Go.Deep
theorem rdi_of_rw {w : World} {lo B : Nat} {A : Option Addr} {n : Nat} {f : Nat → Int} (h : RwI w lo B A n f) (hB : B ≤ w.heap.size) : RdI w w.heap.size A n f := fun hn => by
  obtain ⟨b, off, e, h1, h2, h3⟩ := h hn
  exact ⟨b, off, e, by omega, fun i hi => (h3 i hi).1⟩
theorem int_info : (Try.prog.info? 3).map (fun i => (i.zero, i.size, i.bytes)) = some (some (.int .i64 0), 1, 8) := by kernel_rfl
/-- a new block of numbers: number g, the first k of them set -/
def SetI (w : World) (g n k : Nat) (f : Nat → Int) : Prop :=
  g < w.heap.size ∧ (∀ i, i < n → (∃ u, w.cell? ⟨g, i, none⟩ = some u) ∧ w.frozen? ⟨g, i, none⟩ = false) ∧ ∀ i, i < k → w.cell? ⟨g, i, none⟩ = some (.int .i64 (f i))
theorem seti_new (w : World) (t : TypeId) (n : Nat) (f : Nat → Int) : SetI (w.alloc (.cells (madeCells #[.int .i64 0] (n * 1)) t)) w.heap.size n 0 f := by
  refine ⟨by simp, fun i hi => ?_, fun i h => absurd h (Nat.not_lt_zero _)⟩
  have hs := size_madeCells #[.int .i64 0] (n * 1)
  exact ⟨⟨_, by rw [cell_of_row (w.alloc _) w.heap.size i _ t (0, 0) (heap_alloc_new w _)]; exact Array.getElem?_eq_getElem (by omega)⟩, by rw [frozen?_alloc_cells]; simp [World.frozen?]⟩
theorem seti_store {w : World} {g n k : Nat} {f : Nat → Int} (h : SetI w g n k f) (hk : k < n) : SetI (w.setCell ⟨g, k, none⟩ (.int .i64 (f k))) g n (k + 1) f := by
  obtain ⟨h1, h2, h3⟩ := h
  refine ⟨by simpa [World.setCell] using h1, fun i hi => ?_, fun i hi => ?_⟩
  · obtain ⟨⟨u, e⟩, z⟩ := h2 i hi
    exact ⟨cell?_setCell_some e, by rw [World.frozen?_setCell]; exact z⟩
  · by_cases hik : i = k
    · subst hik
      obtain ⟨⟨u, e⟩, _⟩ := h2 i hk
      exact World.cell?_setCell_same w _ _ e
    · rw [World.cell?_setCell_other w _ _ _ (fun e => hik (by injection e with e1 e2; exact e2.symm))]
      exact h3 i (by omega)
theorem rwi_of_seti {w : World} {lo g n : Nat} {f : Nat → Int} (h : SetI w g n n f) (hl : lo ≤ g) : RwI w lo w.heap.size (some ⟨g, 0, none⟩) n f := fun _ => by
  obtain ⟨h1, h2, h3⟩ := h
  exact ⟨g, 0, rfl, hl, h1, fun i hi => by rw [Nat.zero_add]; exact ⟨h3 i hi, (h2 i hi).2⟩⟩
set_option maxHeartbeats 1000000 in
theorem toIntS_any (A : Option Addr) (c n : Nat) (f : Nat → Int) (w : World) (hn : n ≤ 1048576) (hR : RdI w w.heap.size A n f) :
    Calls Try.prog 40 #[.slice A n c] w fun e w' => e = .returned (.slice (some ⟨w.heap.size, 0, none⟩) n n) ∧ Below w.heap.size w w' ∧ RwI w' w.heap.size w'.heap.size (some ⟨w.heap.size, 0, none⟩) n f := by
  obtain ⟨i0, hi0, hz0, hz1, hz2⟩ := info_parts int_info
  have hmk := fun W => run_make (P := Try.prog) W 41 3 i0 _ Try.underlying41 hi0 hz0 .i64 .i64 (n : Int) (n : Int) (by omega) (by omega) (by rw [hz2]; omega) (by omega)
  have HR := Lib.hid hR
  clear hR
  go_enter Try.func40, Try.ntmps40
  go_wp2_with fail
  have hS0 := Lib.hid (seti_new w 3 n f)
  have hB0 : Below w.heap.size w (w.alloc (.cells (madeCells #[.int .i64 0] (n * 1)) 3)) := (Below.refl _ _).alloc (Nat.le_refl _) _
  clear hmk
  simp only [Nat.mul_one] at hS0 hB0
  go_loopg [4] n (fun g i wr => ∃ k : Nat, k ≤ n ∧ g = n - k ∧ i = .int .i64 k ∧ Below w.heap.size w wr ∧ Hid (SetI wr w.heap.size n k f))
  case atStart => exact ⟨0, Nat.zero_le _, rfl, rfl, hB0, hS0⟩
  case round =>
    clear hB0 hS0
    obtain ⟨k, hk, hg, rfl, hB, hS⟩ := hrel
    rename World => wo
    have HGK := Lib.hid hg
    clear hg
    by_cases hlt : k < n
    · obtain ⟨b, off, rfl, hb, hcell⟩ := HR.out (by omega)
      have hq : wo.cell? ⟨b, off + k, none⟩ = some (.int .i64 (f k)) := (hB.cell (p := ⟨b, off + k, none⟩) hb).trans (hcell k hlt)
      have S1 := hS.out
      obtain ⟨g1, g2, g3⟩ := S1
      obtain ⟨⟨u1, d1⟩, d3⟩ := g2 k hlt
      have S2 := Lib.hid (seti_store hS.out hlt)
      have B2 := Lib.hid (hB.setCell (p := ⟨w.heap.size, k, none⟩) (Nat.le_refl _) (.int .i64 (f k)))
      clear g2 g3 hS hcell
      go_wp2_with fail
      go_roundg (n - (k + 1))
      case measure => have := HGK.out; omega
      case rel => exact ⟨k + 1, by omega, rfl, by go_num, B2.out, S2⟩
    · have hkn : n = k := by omega
      subst hkn
      go_wp2_with fail
      go_ret
      exact ⟨rfl, hB, rwi_of_seti hS.out (Nat.le_refl _)⟩
section
variable {H : Type} {enc : TypeId × Value → H}
/-- an argument that is a list of numbers -/
theorem open_numbers {w : World} {r : Reach} {b0 base : Nat} {spare : Nat → Bool} {v : Value} {d : DataW H} {p : List MemPlace} (hv : Value.okWide Try.prog w r b0 41 v)
    (h : DataW.Trod enc Try.prog w base spare true 41 v d p) : ∃ (A : Option Addr) (c n : Nat) (f : Nat → Int), v = .slice A n c ∧ n ≤ c ∧ c ≤ maxLen ∧ RdI w w.heap.size A n f := by
  obtain ⟨a0, len, cap, rfl⟩ := okWide_slice Try.underlying41 hv
  obtain ⟨fuel, hf⟩ := h
  rcases open_ints Try.underlying41 Try.underlying3 (by kernel_rfl) hf with ⟨hcs, _⟩ | ⟨a, len', cap', zs, hcs, _, hl, hm, hzl, _, hi, _⟩
  · simp [Value.cells] at hcs
    obtain ⟨rfl, rfl, rfl⟩ := hcs
    exact ⟨none, 0, 0, fun _ => 0, rfl, by simp, by simp, fun h => absurd h (by simp)⟩
  · simp [Value.cells] at hcs
    obtain ⟨rfl, rfl, rfl⟩ := hcs
    have hml : len ≤ zs.length := by rw [hzl]; split <;> omega
    refine ⟨some a, cap, len, fun i => zs.getD i 0, rfl, hl, hm, fun hpos => ?_⟩
    have k0 := hi 0 (by omega)
    obtain ⟨b, off, spot⟩ := a
    have hspot : spot = none := by simpa [Addr.add] using World.cell?_spot k0
    subst hspot
    refine ⟨b, off, rfl, ?_, fun i hq => ?_⟩
    · have := lt_of_cell k0
      rw [add_plain] at this
      exact this
    · have := hi i (by omega)
      rw [add_plain] at this
      exact this
end
end Go.Proofs.Ytacabmbajadbgaa
