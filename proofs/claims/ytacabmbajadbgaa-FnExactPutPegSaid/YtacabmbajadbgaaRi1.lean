/- rings: the points that numbers make; the program's pegs -/
import Derived.Test.YtacabmbajadbgaaRi0
import Derived.Test.YtacabmbajadbgaaLa
import Derived.Test.YtacabmbajadbgaaTb01
import Derived.Test.YtacabmbajadbgaaTbq
import Derived.Test.YtacabmbajadbgaaRa
import Derived.StillTailTactics
import Derived.Maps.AppendAt
namespace Go.Proofs.Ytacabmbajadbgaa
open Go.ChangeShapes Go.WideShapes Go.ChangeAt Go.RowKit Go.Joins
set_option linter.unusedVariables false
set_option linter.unusedSimpArgs false
set_option maxRecDepth 4000
/-- the points that c numbers make -/
def dmk (F : Nat → Int) (c : Nat) : Nat → Int × Int
  | 0 => (1, 0)
  | 1 => (0, 1)
  | i + 2 => (F ((i + 1) % c) * (dmk F c (i + 1)).1 - (dmk F c i).1, F ((i + 1) % c) * (dmk F c (i + 1)).2 - (dmk F c i).2)
def Six (F : Nat → Int) (c : Nat) : Prop := ∀ i, i < c → -6 ≤ F i ∧ F i ≤ 6
theorem six_mul {k b m : Int} (hk : -6 ≤ k ∧ k ≤ 6) (hb : -m ≤ b ∧ b ≤ m) (hm : 0 ≤ m) : -(6 * m) ≤ k * b ∧ k * b ≤ 6 * m := by
  have h : k = -6 ∨ k = -5 ∨ k = -4 ∨ k = -3 ∨ k = -2 ∨ k = -1 ∨ k = 0 ∨ k = 1 ∨ k = 2 ∨ k = 3 ∨ k = 4 ∨ k = 5 ∨ k = 6 := by omega
  rcases h with rfl | rfl | rfl | rfl | rfl | rfl | rfl | rfl | rfl | rfl | rfl | rfl | rfl
  all_goals omega
theorem dmk_b {F : Nat → Int} {c : Nat} (h : Six F c) (hc : 0 < c) : ∀ i : Nat, ∃ m M : Int, 0 ≤ m ∧ 0 ≤ M ∧ m = 7 ^ i ∧ M = 7 ^ (i + 1) ∧ (-m ≤ (dmk F c i).1 ∧ (dmk F c i).1 ≤ m) ∧ (-m ≤ (dmk F c i).2 ∧ (dmk F c i).2 ≤ m) ∧ (-M ≤ (dmk F c (i + 1)).1 ∧ (dmk F c (i + 1)).1 ≤ M) ∧ (-M ≤ (dmk F c (i + 1)).2 ∧ (dmk F c (i + 1)).2 ≤ M) := by
  intro i
  induction i with
  | zero => exact ⟨1, 7, by decide, by decide, by decide, by decide, by simp [dmk], by simp [dmk], by simp [dmk], by simp [dmk]⟩
  | succ i ih =>
    obtain ⟨m, M, h0, h1, e1, e2, b1, b2, b3, b4⟩ := ih
    have e3 : (7 : Int) ^ (i + 1 + 1) = 7 * M := by rw [e2, Int.pow_succ (7 : Int) (i + 1), Int.mul_comm]
    have eM : M = 7 * m := by rw [e2, e1, Int.pow_succ, Int.mul_comm]
    have hk := h ((i + 1) % c) (Nat.mod_lt _ hc)
    have k1 := six_mul hk b3 h1
    have k2 := six_mul hk b4 h1
    refine ⟨M, 7 * M, h1, by omega, e2, e3.symm, b3, b4, ?_, ?_⟩
    · show -(7 * M) ≤ F ((i + 1) % c) * (dmk F c (i + 1)).1 - (dmk F c i).1 ∧ F ((i + 1) % c) * (dmk F c (i + 1)).1 - (dmk F c i).1 ≤ 7 * M
      omega
    · show -(7 * M) ≤ F ((i + 1) % c) * (dmk F c (i + 1)).2 - (dmk F c i).2 ∧ F ((i + 1) % c) * (dmk F c (i + 1)).2 - (dmk F c i).2 ≤ 7 * M
      omega
theorem dmk_bd {F : Nat → Int} {c : Nat} (h : Six F c) (hc : 0 < c) (i : Nat) (hi : i ≤ 10) : (-282475249 ≤ (dmk F c i).1 ∧ (dmk F c i).1 ≤ 282475249) ∧ (-282475249 ≤ (dmk F c i).2 ∧ (dmk F c i).2 ≤ 282475249) := by
  obtain ⟨m, M, h0, h1, e1, e2, b1, b2, _, _⟩ := dmk_b h hc i
  have e3 : (7 : Int) ^ i = ((7 ^ i : Nat) : Int) := by simp
  have : 7 ^ i ≤ 7 ^ 10 := Nat.pow_le_pow_right (by decide) hi
  have e4 : (7 : Nat) ^ 10 = 282475249 := by decide
  rw [e3] at e1
  omega
theorem dmk_succ (F : Nat → Int) (c i : Nat) : dmk F c (i + 2) = ((dmk F c (i + 1)).1 * F ((i + 1) % c) - (dmk F c i).1, (dmk F c (i + 1)).2 * F ((i + 1) % c) - (dmk F c i).2) := by
  show (F ((i + 1) % c) * (dmk F c (i + 1)).1 - (dmk F c i).1, F ((i + 1) % c) * (dmk F c (i + 1)).2 - (dmk F c i).2) = _
  rw [Int.mul_comm, Int.mul_comm (F ((i + 1) % c)) (dmk F c (i + 1)).2]
theorem row_two (w : World) (base : Nat) (F : Nat → Int) (c : Nat) (hb : base ≤ w.heap.size) : Row (w.alloc (.cells #[.int .i64 1, .int .i64 0, .int .i64 0, .int .i64 1] 53)) base (.slice (some ⟨w.heap.size, 0, none⟩) 2 2) (dmk F c) 2 :=
  ⟨rfl, .inr ⟨w.heap.size, 2, _, rfl, hb, heap_alloc_new w _, Nat.le_refl _, by unfold maxLen; omega, rfl, rfl⟩⟩
/-- a row's points lie in its block -/
theorem row_cells {w : World} {base : Nat} {v : Value} {f : Nat → Int × Int} {k : Nat} (h : Row w base v f k) (hk : 0 < k) : ∃ g cap, v = .slice (some ⟨g, 0, none⟩) k cap ∧ g < w.heap.size ∧ ∀ i, i < k → w.cell? ⟨g, i * 2, none⟩ = some (.int .i64 (f i).1) ∧ w.cell? ⟨g, i * 2 + 1, none⟩ = some (.int .i64 (f i).2) := by
  have h' := h
  obtain ⟨h1, h2⟩ := h
  rcases h2 with ⟨_, h0⟩ | ⟨g, cap, cur, hv, hg, hh, hc, hm, hs, ht⟩
  · omega
  · obtain ⟨A, c, e, q1, q2, q3⟩ := row_out h'
    have e2 := hv.symm.trans e
    injection e2 with e3 e4 e5
    obtain ⟨b, off, eA, z1, z2, z3⟩ := q3 hk
    rw [eA] at e3
    injection e3 with e6
    injection e6 with e7 e8
    subst e7
    subst e8
    refine ⟨g, cap, hv, z2, fun i hi => ?_⟩
    have hz := z3 i hi
    rw [Nat.zero_add] at hz
    exact hz.1
end Go.Proofs.Ytacabmbajadbgaa
