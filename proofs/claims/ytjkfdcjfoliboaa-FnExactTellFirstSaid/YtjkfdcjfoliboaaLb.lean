/- contract: the program's list told from a corner, to either side -/
import Derived.Test.YtjkfdcjfoliboaaLa
import Derived.Laws.MakeOwn
import Derived.StillTailTactics
namespace Go.Proofs.Ytjkfdcjfoliboaa
open Go.ChangeShapes Go.WideShapes Go.ChangeAt Go.RowKit Go.Joins
set_option linter.unusedVariables false
set_option linter.unusedSimpArgs false
set_option maxRecDepth 4000
theorem retP_set {w w' : World} {n : Nat} {f : Nat → Int × Int} (h : Set w' w.heap.size n n (firsts f n)) (hb : Below w.heap.size w w') (hn : n ≤ 1048576) : RetP w (firsts f n) (.returned (.slice (some ⟨w.heap.size, 0, none⟩) n n)) w' := by
  refine ⟨some ⟨w.heap.size, 0, none⟩, n, by rw [firsts_len], by rw [firsts_len]; exact Nat.le_refl _, by unfold maxLen; omega, hb, ?_⟩
  have h' : Set w' w.heap.size (firsts f n).length (firsts f n).length (firsts f n) := by rw [firsts_len]; exact h
  exact rw_more (rw_of_set h') (Nat.le_refl _) (by have := h.1; omega)
set_option maxHeartbeats 2000000 in
theorem tellFrom_any (A : Option Addr) (c : Nat) (l : List (Int × Int)) (first : Nat) (s : Int) (j : Nat → Nat) (w : World) (h1 : 1 ≤ l.length) (hn : l.length ≤ 10) (hR : Rd w w.heap.size A l)
    (hf : first < l.length) (hs : s = 1 ∨ s = -1) (hj : ∀ i, i < l.length → ((first : Int) + (i : Int) * s + (l.length : Int)) % (l.length : Int) = (j i : Int)) :
    Calls Try.prog 51 #[.slice A l.length c, .int .i64 first, .int .i64 s] w (RetP w (firsts (fun i => vx l (j i)) l.length)) := by
  obtain ⟨i0, hi0, hz0, hz1, hz2⟩ := info_parts peg_info
  have hmk := fun W => run_make (P := Try.prog) W 26 34 i0 _ Try.underlying26 hi0 hz0 .i64 .i64 (l.length : Int) (l.length : Int) (by omega) (by omega) (by rw [hz2]; omega) (by omega)
  obtain ⟨b, off, rfl, hb, HC⟩ := pts_of (by omega) hR
  have HJ := Lib.hid hj
  clear hR hj
  generalize hN : l.length = n at *
  have HN := Lib.hid hN
  have SN := Lib.hid hs
  clear hN
  go_enter Try.func51, Try.ntmps51
  go_wp2_with fail
  have hS0 := Lib.hid (set_new w 34 n (firsts (fun i => vx l (j i)) n))
  have hB0 : Below w.heap.size w (w.alloc (.cells (madeCells #[.int .i64 0, .int .i64 0] (n * 2)) 34)) := (Below.refl _ _).alloc (Nat.le_refl _) _
  clear hmk hs
  go_loopg [16] n (fun g i wr => ∃ k : Nat, k ≤ n ∧ g = n - k ∧ i = .int .i64 k ∧ Below w.heap.size w wr ∧ Hid (Set wr w.heap.size n k (firsts (fun i => vx l (j i)) n)))
  case atStart => exact ⟨0, Nat.zero_le _, rfl, rfl, hB0, hS0⟩
  case round =>
    clear hB0 hS0
    obtain ⟨k, hk, hg, rfl, hB, hS⟩ := hrel
    rename World => wo
    have HGK := Lib.hid hg
    clear hg
    by_cases hlt : k < n
    · have hjk := HJ.out k hlt
      have hjn : j k < n := by
        have := Int.emod_lt_of_pos ((first : Int) + (k : Int) * s + (n : Int)) (show (0 : Int) < (n : Int) by omega)
        omega
      have hks : -(k : Int) ≤ (k : Int) * s ∧ (k : Int) * s ≤ (k : Int) := by rcases SN.out with h | h <;> rw [h] <;> omega
      have e1 : IntKind.i64.wrap ((k : Int) * s) = (k : Int) * s := IntWalk.i64_in _ (by omega)
      have e2 : IntKind.i64.wrap ((first : Int) + (k : Int) * s) = (first : Int) + (k : Int) * s := IntWalk.i64_in _ (by omega)
      have e3 : IntKind.i64.wrap ((first : Int) + (k : Int) * s + (n : Int)) = (first : Int) + (k : Int) * s + (n : Int) := IntWalk.i64_in _ (by omega)
      have e4 : ¬ n = 0 := by omega
      have e5 : ((first : Int) + (k : Int) * s + (n : Int)).tmod (n : Int) = (j k : Int) := by rw [Int.tmod_eq_emod_of_nonneg (by omega)]; exact hjk
      have q1 := (HC.out wo hB (j k) hjn).1
      have q2 := (HC.out wo hB (j k) hjn).2
      have S1 := hS.out
      obtain ⟨g1, g2, g3⟩ := S1
      obtain ⟨⟨u1, d1⟩, ⟨u2, d2⟩, d3, d4⟩ := g2 k hlt
      have S2 := Lib.hid (set_store hS.out hlt (firsts_get (fun i => vx l (j i)) n k hlt))
      have B2 := Lib.hid ((hB.setCell (p := ⟨w.heap.size, k * 2, none⟩) (Nat.le_refl _) (.int .i64 (vx l (j k)).1)).setCell (p := ⟨w.heap.size, k * 2 + 1, none⟩) (Nat.le_refl _) (.int .i64 (vx l (j k)).2))
      clear g2 g3 hS hjk hks
      go_wp2_with fail
      go_roundg (n - (k + 1))
      case measure => have := HGK.out; omega
      case rel => exact ⟨k + 1, by omega, rfl, by go_num, B2.out, S2⟩
    · have hkn : n = k := by omega
      subst hkn
      go_wp2_with fail
      go_ret
      exact retP_set hS.out hB (by omega)
end Go.Proofs.Ytjkfdcjfoliboaa
