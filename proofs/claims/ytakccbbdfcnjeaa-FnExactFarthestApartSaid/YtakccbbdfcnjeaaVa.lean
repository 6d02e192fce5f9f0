/- plain: the two points of a list that are farthest apart -/
import Derived.Test.YtakccbbdfcnjeaaMA
namespace Go.Proofs.Ytakccbbdfcnjeaa
open Go.ChangeShapes Go.WideShapes Go.ChangeAt Go.RowKit Go.Joins
set_option linter.unusedVariables false
set_option linter.unusedSimpArgs false
set_option maxRecDepth 4000
abbrev Fa3 := (Int × Int) × (Int × Int) × Int
def farStep (p : Int × Int) (a : Fa3) (q : Int × Int) : Fa3 := if a.2.2 < MH.sq q p then (p, q, MH.sq q p) else a
def farRow (s : List (Int × Int)) (i : Nat) (a : Fa3) : Nat → Fa3
  | 0 => a
  | m + 1 => farStep (pt s i) (farRow s i a m) (pt s (i + 1 + m))
def farAll (s : List (Int × Int)) (a : Fa3) : Nat → Fa3
  | 0 => a
  | k + 1 => farRow s k (farAll s a k) (s.length - (k + 1))
theorem sq_nn (p q : Int × Int) : 0 ≤ MH.sq p q := by
  unfold MH.sq
  have h1 : 0 ≤ (p.1 - q.1) * (p.1 - q.1) := by rcases Int.le_total 0 (p.1 - q.1) with h | h; exact Int.mul_nonneg h h; exact Int.mul_nonneg_of_nonpos_of_nonpos h h
  have h2 : 0 ≤ (p.2 - q.2) * (p.2 - q.2) := by rcases Int.le_total 0 (p.2 - q.2) with h | h; exact Int.mul_nonneg h h; exact Int.mul_nonneg_of_nonpos_of_nonpos h h
  omega
theorem sq_pos {p q : Int × Int} (h : p ≠ q) : 0 < MH.sq p q := by
  have h0 := sq_nn p q
  rcases Int.lt_or_eq_of_le h0 with h1 | h1
  · exact h1
  · exfalso
    apply h
    unfold MH.sq at h1
    have a1 : 0 ≤ (p.1 - q.1) * (p.1 - q.1) := by rcases Int.le_total 0 (p.1 - q.1) with h | h; exact Int.mul_nonneg h h; exact Int.mul_nonneg_of_nonpos_of_nonpos h h
    have a2 : 0 ≤ (p.2 - q.2) * (p.2 - q.2) := by rcases Int.le_total 0 (p.2 - q.2) with h | h; exact Int.mul_nonneg h h; exact Int.mul_nonneg_of_nonpos_of_nonpos h h
    have b1 : (p.1 - q.1) * (p.1 - q.1) = 0 := by omega
    have b2 : (p.2 - q.2) * (p.2 - q.2) = 0 := by omega
    have c1 : p.1 - q.1 = 0 := by rcases Int.mul_eq_zero.1 b1 with h | h <;> exact h
    have c2 : p.2 - q.2 = 0 := by rcases Int.mul_eq_zero.1 b2 with h | h <;> exact h
    exact Prod.ext (by omega) (by omega)
theorem sq_comm (p q : Int × Int) : MH.sq p q = MH.sq q p := by unfold MH.sq; grind
theorem far_row_same {s : List (Int × Int)} (h : pt s 0 ≠ pt s 1) : ∀ m, farRow s 0 ((0, 0), (0, 0), 0) (m + 1) = farRow s 0 (pt s 0, pt s 1, MH.sq (pt s 1) (pt s 0)) (m + 1)
  | 0 => by
    have := sq_pos (Ne.symm h)
    unfold farRow farRow farStep
    rw [if_pos (by simpa using this), if_neg (by simp)]
  | m + 1 => by
    rw [farRow, far_row_same h m, ← farRow]
theorem far_same {s : List (Int × Int)} (h2 : 2 ≤ s.length) (h : pt s 0 ≠ pt s 1) : ∀ k, farAll s ((0, 0), (0, 0), 0) (k + 1) = farAll s (pt s 0, pt s 1, MH.sq (pt s 1) (pt s 0)) (k + 1)
  | 0 => by
    unfold farAll farAll
    obtain ⟨m, hm⟩ : ∃ m, s.length - (0 + 1) = m + 1 := ⟨s.length - 2, by omega⟩
    rw [hm]
    exact far_row_same h m
  | k + 1 => by rw [farAll, far_same h2 h k, ← farAll]
/-- what is told so far: two points of the list, and the square of how far they are apart; or nothing -/
def FarOk (a : Fa3) : Prop := isPg a.1 = true ∧ isPg a.2.1 = true ∧ 0 ≤ a.2.2 ∧ a.2.2 ≤ 12800
theorem sq_le {p q : Int × Int} (hp : isPg p = true) (hq : isPg q = true) : MH.sq p q ≤ 12800 := by
  have h1 : -40 ≤ p.1 ∧ p.1 ≤ 40 ∧ -40 ≤ p.2 ∧ p.2 ≤ 40 := by unfold isPg isPegB at hp; simp at hp; omega
  have h2 : -40 ≤ q.1 ∧ q.1 ≤ 40 ∧ -40 ≤ q.2 ∧ q.2 ≤ 40 := by unfold isPg isPegB at hq; simp at hq; omega
  unfold MH.sq
  have a1 := mul_bd (x := p.1 - q.1) (y := p.1 - q.1) (m := 80) (n := 80) (by omega) (by omega) (by omega) (by omega)
  have a2 := mul_bd (x := p.2 - q.2) (y := p.2 - q.2) (m := 80) (n := 80) (by omega) (by omega) (by omega) (by omega)
  omega
theorem far_step_ok {p q : Int × Int} {a : Fa3} (hp : isPg p = true) (hq : isPg q = true) (h : FarOk a) : FarOk (farStep p a q) := by
  unfold farStep
  split
  · exact ⟨hp, hq, sq_nn _ _, sq_le hq hp⟩
  · exact h
theorem far_row_ok {s : List (Int × Int)} {i : Nat} {a : Fa3} (hs : ∀ x ∈ s, isPg x = true) (hi : i < s.length) (h : FarOk a) : ∀ m, i + 1 + m ≤ s.length → FarOk (farRow s i a m)
  | 0, _ => h
  | m + 1, hm => far_step_ok (hs _ (pt_mem hi)) (hs _ (pt_mem (by omega))) (far_row_ok hs hi h m (by omega))
theorem far_all_ok {s : List (Int × Int)} {a : Fa3} (hs : ∀ x ∈ s, isPg x = true) (h : FarOk a) : ∀ k, k ≤ s.length → FarOk (farAll s a k)
  | 0, _ => h
  | k + 1, hk => far_row_ok hs (by omega) (far_all_ok hs h k (by omega)) _ (by omega)
theorem far_zero : FarOk ((0, 0), (0, 0), 0) := ⟨rfl, rfl, by decide, by decide⟩
theorem far_first {s : List (Int × Int)} (hs : ∀ x ∈ s, isPg x = true) (h2 : 2 ≤ s.length) : FarOk (pt s 0, pt s 1, MH.sq (pt s 1) (pt s 0)) :=
  ⟨hs _ (pt_mem (by omega)), hs _ (pt_mem (by omega)), sq_nn _ _, sq_le (hs _ (pt_mem (by omega))) (hs _ (pt_mem (by omega)))⟩
/-- the last number belongs to the two points -/
def FarSq (a : Fa3) : Prop := a.2.2 = MH.sq a.2.1 a.1
theorem far_step_sq {p q : Int × Int} {a : Fa3} (h : FarSq a) : FarSq (farStep p a q) := by
  unfold farStep
  split
  · rfl
  · exact h
theorem far_row_sq {s : List (Int × Int)} {i : Nat} {a : Fa3} (h : FarSq a) : ∀ m, FarSq (farRow s i a m)
  | 0 => h
  | m + 1 => far_step_sq (far_row_sq h m)
theorem far_all_sq {s : List (Int × Int)} {a : Fa3} (h : FarSq a) : ∀ k, FarSq (farAll s a k)
  | 0 => h
  | k + 1 => far_row_sq (far_all_sq h k) _
theorem srt_two {l : List (Int × Int)} (hd : l.Nodup) (h2 : 2 ≤ l.length) : pt (srt l) 0 ≠ pt (srt l) 1 := by
  have hs := srt_sorted hd
  have hl := srt_len l
  intro e
  have h0 := pt_get (l := srt l) (i := 0) (by omega)
  have h1 := pt_get (l := srt l) (i := 1) (by omega)
  have := (List.pairwise_iff_getElem.1 hs) 0 1 (by omega) (by omega) (by omega)
  rw [List.getElem?_eq_getElem (by omega)] at h0 h1
  injection h0 with h0
  injection h1 with h1
  rw [h0, h1, ← e] at this
  unfold lxP at this
  omega
/-- what the call tells: two points and a number, or nothing -/
noncomputable def fzB (l : List (Int × Int)) : Bool := difB l && decide (2 ≤ l.length)
noncomputable def fzV (l : List (Int × Int)) : Fa3 := if fzB l = true then farAll (srt l) ((0, 0), (0, 0), 0) l.length else ((0, 0), (0, 0), 0)
end Go.Proofs.Ytakccbbdfcnjeaa
