/- what a puzzle is; contracts: puzzles, the model -/
import Derived.Test.YtacabmbajadbgaaPz2
import Derived.Test.YtacabmbajadbgaaPz1
namespace Go.Proofs.Ytacabmbajadbgaa
open Go.ChangeShapes Go.WideShapes Go.ChangeAt Go.RowKit Go.Joins
set_option linter.unusedVariables false
set_option linter.unusedSimpArgs false
set_option maxRecDepth 4000
/-- are the first n clues of a row clues? -/
def allC (s : Int) (f : Nat → Int) : Nat → Bool
  | 0 => true
  | n + 1 => allC s f n && clueB s (f (n * 4)) (f (n * 4 + 1)) (f (n * 4 + 2)) (f (n * 4 + 3))
theorem allC_iff (s : Int) (f : Nat → Int) (n : Nat) : allC s f n = true ↔ ∀ i, i < n → clueB s (f (i * 4)) (f (i * 4 + 1)) (f (i * 4 + 2)) (f (i * 4 + 3)) = true := by
  induction n with
  | zero => exact ⟨fun _ i h => absurd h (Nat.not_lt_zero _), fun _ => rfl⟩
  | succ n ih =>
    have e : allC s f (n + 1) = (allC s f n && clueB s (f (n * 4)) (f (n * 4 + 1)) (f (n * 4 + 2)) (f (n * 4 + 3))) := rfl
    rw [e, Bool.and_eq_true, ih]
    constructor
    · rintro ⟨h1, h2⟩ i hi
      by_cases h : i = n
      · subst h; exact h2
      · exact h1 i (by omega)
    · intro h
      exact ⟨fun i hi => h i (by omega), h n (by omega)⟩
theorem allC_f {s : Int} {f : Nat → Int} {n k : Nat} (hk : k < n) (h : clueB s (f (k * 4)) (f (k * 4 + 1)) (f (k * 4 + 2)) (f (k * 4 + 3)) = false) : allC s f n = false := by
  cases hb : allC s f n
  · rfl
  · rw [(allC_iff s f n).1 hb k hk] at h
    exact absurd h (by simp)
def puzB (s : Int) (n : Nat) (f : Nat → Int) : Bool := inQ 1 12 s && (decide (n ≤ 6) && allC s f n)
theorem inQ_12 {s : Int} (h : inQ 1 12 s = true) : 1 ≤ s ∧ s ≤ 12 := by unfold inQ at h; simpa using h
theorem puzB_t {s : Int} {n : Nat} {f : Nat → Int} (h : puzB s n f = true) : 1 ≤ s ∧ s ≤ 12 ∧ n ≤ 6 ∧ ∀ i, i < n → clueB s (f (i * 4)) (f (i * 4 + 1)) (f (i * 4 + 2)) (f (i * 4 + 3)) = true := by
  unfold puzB at h
  simp only [Bool.and_eq_true, decide_eq_true_eq] at h
  exact ⟨(inQ_12 h.1).1, (inQ_12 h.1).2, h.2.1, (allC_iff s f n).1 h.2.2⟩
/-- a puzzle's box -/
structure Pbx (W : World) (b : Nat) (s : Int) (A : Option Addr) (n c : Nat) : Prop where
  z : b < W.heap.size
  c0 : W.cell? ⟨b, 0, none⟩ = some (.int .i64 s)
  c1 : W.cell? ⟨b, 1, none⟩ = some (.slice A n c)
theorem pbx_new (W : World) (s : Int) (A : Option Addr) (n c : Nat) (t : TypeId) : Pbx (W.alloc (.cells #[.int .i64 s, .slice A n c] t)) W.heap.size s A n c := ⟨by simp, by go_simp, by go_simp⟩
theorem pbx_below {W W' : World} {b : Nat} {s : Int} {A : Option Addr} {n c : Nat} (h : Pbx W b s A n c) (hb : Below W.heap.size W W') : Pbx W' b s A n c := ⟨Nat.lt_of_lt_of_le h.z hb.size, ((bcell hb).1 _ _ h.z).trans h.c0, ((bcell hb).1 _ _ h.z).trans h.c1⟩
/-- the four numbers of clue i, read -/
theorem clue_read {w W : World} {b off n : Nat} {f : Nat → Int} (hb : b < w.heap.size) (hc : ∀ i, i < n * 4 → w.cell? ⟨b, off + i, none⟩ = some (.int .i64 (f i))) (hB : Below w.heap.size w W) {i : Nat} (hi : i < n) :
    W.cell? ⟨b, off + i * 4, none⟩ = some (.int .i64 (f (i * 4))) ∧ W.cell? ⟨b, off + i * 4 + 1, none⟩ = some (.int .i64 (f (i * 4 + 1))) ∧ W.cell? ⟨b, off + i * 4 + 2, none⟩ = some (.int .i64 (f (i * 4 + 2))) ∧ W.cell? ⟨b, off + i * 4 + 3, none⟩ = some (.int .i64 (f (i * 4 + 3))) :=
  ⟨(hB.cell (p := ⟨b, off + i * 4, none⟩) hb).trans (hc (i * 4) (by omega)), (hB.cell (p := ⟨b, off + i * 4 + 1, none⟩) hb).trans (hc (i * 4 + 1) (by omega)), (hB.cell (p := ⟨b, off + i * 4 + 2, none⟩) hb).trans (hc (i * 4 + 2) (by omega)), (hB.cell (p := ⟨b, off + i * 4 + 3, none⟩) hb).trans (hc (i * 4 + 3) (by omega))⟩
end Go.Proofs.Ytacabmbajadbgaa
