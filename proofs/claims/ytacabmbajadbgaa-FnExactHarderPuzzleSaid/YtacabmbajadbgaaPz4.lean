/- a clue, an argument of a law, opened -/
import Derived.Test.YtacabmbajadbgaaPz1
import Derived.Test.YtacabmbajadbgaaL
import Derived.Deep.Fields
namespace Go.Proofs.Ytacabmbajadbgaa
open Go.ChangeShapes Go.WideShapes Go.ChangeAt Go.RowKit Go.Joins
set_option linter.unusedVariables false
set_option linter.unusedSimpArgs false
set_option maxRecDepth 4000
open Go.Deep
section
variable {H : Type} {enc : TypeId × Value → H}
theorem array4 {cs : Array Value} (h : cs.size = 4) : ∃ a b c d, cs = #[a, b, c, d] := by
  obtain ⟨l⟩ := cs
  match l, h with
  | [a, b, c, d], _ => exact ⟨a, b, c, d, rfl⟩
theorem read_clue {w : World} {base : Nat} {spare : Nat → Bool} {held : Bool} {fuel : Nat} {c0 c1 c2 c3 : Value} {x : DataW H × List MemPlace}
    (h : DataW.trod enc Try.prog w base spare held fuel 36 [c0, c1, c2, c3] = some x) : ∃ a b c d : Int, c0 = .int .i64 a ∧ c1 = .int .i64 b ∧ c2 = .int .i64 c ∧ c3 = .int .i64 d := by
  obtain ⟨xs, n, _, _, _, hlen, hg⟩ := DataW.trod_struct Try.underlying36 h
  match xs, hlen with
  | [y0, y1, y2, y3], _ =>
    have h0 := hg 0 _ rfl
    have h1 := hg 1 _ rfl
    have h2 := hg 2 _ rfl
    have h3 := hg 3 _ rfl
    have hC : Try.prog.cellsOf 3 = 1 := by kernel_rfl
    simp [hC] at h0 h1 h2 h3
    obtain ⟨a, e0, _, _⟩ := DataW.trod_int Try.underlying3 h0
    obtain ⟨b, e1, _, _⟩ := DataW.trod_int Try.underlying3 h1
    obtain ⟨c, e2, _, _⟩ := DataW.trod_int Try.underlying3 h2
    obtain ⟨d, e3, _, _⟩ := DataW.trod_int Try.underlying3 h3
    simp at e0 e1 e2 e3
    exact ⟨a, b, c, d, e0, e1, e2, e3⟩
theorem open_clue {w : World} {r : Reach} {b0 base : Nat} {spare : Nat → Bool} {v : Value} {d : DataW H} {p : List MemPlace} (hv : Value.okWide Try.prog w r b0 36 v)
    (h : DataW.Trod enc Try.prog w base spare true 36 v d p) : ∃ k a b c : Int, v = .agg #[.int .i64 k, .int .i64 a, .int .i64 b, .int .i64 c] := by
  obtain ⟨cs, rfl, hsz⟩ := okWide_struct Try.underlying36 hv
  obtain ⟨c0, c1, c2, c3, rfl⟩ := array4 (hsz.trans (by kernel_rfl))
  obtain ⟨fuel, hf⟩ := h
  obtain ⟨a, b, c, d, rfl, rfl, rfl, rfl⟩ := read_clue hf
  exact ⟨a, b, c, d, rfl⟩
/-- clues that come in, from a trodden slice -/
theorem clues_of_trod {w : World} {base : Nat} {spare : Nat → Bool} {fuel : Nat} {v : Value} {x : DataW H × List MemPlace}
    (hf : DataW.trod enc Try.prog w base spare true fuel 22 [v] = some x) : ∃ (A : Option Addr) (c n : Nat) (f : Nat → Int), v = .slice A n c ∧ n ≤ c ∧ c ≤ maxLen ∧ RdI w w.heap.size A (n * 4) f := by
  rcases open_slice Try.underlying22 hf with ⟨hcs, _⟩ | ⟨a, len, cap, m, n, D, Pl, hcs, _, hl, hm, hmm, _, hi⟩
  · obtain rfl : v = .slice none 0 0 := by simpa using hcs
    exact ⟨none, 0, 0, fun _ => 0, rfl, by simp, by simp, fun h => absurd h (by simp)⟩
  · obtain rfl : v = .slice (some a) len cap := by simpa using hcs
    have hml : len ≤ m := by rw [hmm]; split <;> omega
    have hC : Try.prog.cellsOf 36 = 4 := by kernel_rfl
    have hsn : 0 < len → a.spot = none := fun h => by
      obtain ⟨cs', hc, ht⟩ := hi 0 (by omega)
      rw [hC] at hc
      obtain ⟨_, hcl, hat⟩ := World.cells?_some hc
      have hsp := World.cell?_spot ((hat 0 (by omega)).trans (List.getElem?_eq_getElem (show 0 < cs'.length by omega)))
      simpa [Addr.add] using hsp
    have key : ∀ i, ∃ z : Int, i < len * 4 → w.cell? (a.add i) = some (.int .i64 z) := fun i => by
      by_cases hlt : i < len * 4
      · obtain ⟨cs', hc, ht⟩ := hi (i / 4) (by omega)
        rw [hC] at hc
        obtain ⟨_, hcl, hat⟩ := World.cells?_some hc
        match cs', hcl with
        | [c0, c1, c2, c3], _ =>
          obtain ⟨x0, x1, x2, x3, rfl, rfl, rfl, rfl⟩ := read_clue ht
          have hlt4 : i % 4 < 4 := Nat.mod_lt _ (by omega)
          have h0 := hat (i % 4) hlt4
          have ea : a.spot = none → (a.add (i / 4 * 4)).add (i % 4) = a.add i := fun hs => by
            obtain ⟨b, off, spot⟩ := a
            simp only at hs
            subst hs
            rw [add_plain, add_plain, add_plain, show off + i / 4 * 4 + i % 4 = off + i by omega]
          have h4 : i % 4 = 0 ∨ i % 4 = 1 ∨ i % 4 = 2 ∨ i % 4 = 3 := by omega
          have pick : ∀ z : Int, w.cell? ((a.add (i / 4 * 4)).add (i % 4)) = some (.int .i64 z) → w.cell? (a.add i) = some (.int .i64 z) := fun z hz => by
            have e1 := ea (hsn (by omega))
            rw [e1] at hz
            exact hz
          rcases h4 with h | h | h | h
          · exact ⟨x0, fun _ => pick x0 (by rw [h0, h]; rfl)⟩
          · exact ⟨x1, fun _ => pick x1 (by rw [h0, h]; rfl)⟩
          · exact ⟨x2, fun _ => pick x2 (by rw [h0, h]; rfl)⟩
          · exact ⟨x3, fun _ => pick x3 (by rw [h0, h]; rfl)⟩
      · exact ⟨0, fun h => absurd h hlt⟩
    obtain ⟨g, hg⟩ : ∃ g : Nat → Int, ∀ i, i < len * 4 → w.cell? (a.add i) = some (.int .i64 (g i)) := ⟨fun i => Classical.choose (key i), fun i => Classical.choose_spec (key i)⟩
    refine ⟨some a, cap, len, g, rfl, hl, hm, fun hpos => ?_⟩
    have k0 := hg 0 hpos
    obtain ⟨b, off, spot⟩ := a
    have hspot : spot = none := by simpa [Addr.add] using World.cell?_spot k0
    subst hspot
    refine ⟨b, off, rfl, ?_, fun i hi => ?_⟩
    · have := lt_of_cell k0
      rw [add_plain] at this
      exact this
    · have hs := hg i hi
      rw [add_plain] at hs
      exact hs
theorem open_puzzle {w : World} {r : Reach} {b0 base : Nat} {spare : Nat → Bool} {v : Value} {d : DataW H} {p : List MemPlace} (hv : Value.okWide Try.prog w r b0 24 v)
    (h : DataW.Trod enc Try.prog w base spare true 24 v d p) : ∃ (s : Int) (A : Option Addr) (c n : Nat) (f : Nat → Int), v = .agg #[.int .i64 s, .slice A n c] ∧ n ≤ c ∧ c ≤ maxLen ∧ RdI w w.heap.size A (n * 4) f := by
  obtain ⟨cs, rfl, hsz⟩ := okWide_struct Try.underlying24 hv
  have hsz2 : cs.size = 2 := hsz.trans (by kernel_rfl)
  obtain ⟨fuel, hf⟩ := h
  obtain ⟨xs, n, _, _, hl, hlen, hg⟩ := DataW.trod_struct Try.underlying24 hf
  obtain ⟨k0, k1, rfl⟩ : ∃ k0 k1, cs = #[k0, k1] := by
    obtain ⟨l⟩ := cs
    match l, hsz2 with
    | [a, b], _ => exact ⟨a, b, rfl⟩
  match xs, hlen with
  | [y0, y1], _ =>
    have h0 := hg 0 _ rfl
    have h1 := hg 1 _ rfl
    have hC : Try.prog.cellsOf 3 = 1 := by kernel_rfl
    have hD : Try.prog.cellsOf 22 = 1 := by kernel_rfl
    simp [Value.cells, hC, hD] at h0 h1
    obtain ⟨s, e0, _, _⟩ := DataW.trod_int Try.underlying3 h0
    simp at e0
    subst e0
    obtain ⟨A, c, n, f, rfl, q1, q2, q3⟩ := clues_of_trod h1
    exact ⟨s, A, c, n, f, rfl, q1, q2, q3⟩
end
end Go.Proofs.Ytacabmbajadbgaa
