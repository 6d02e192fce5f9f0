/- what a clue is; contracts: clues, the model -/
import Derived.Test.YtacabmbajadbgaaMa
namespace Go.Proofs.Ytacabmbajadbgaa
open Go.ChangeShapes Go.WideShapes Go.ChangeAt Go.RowKit Go.Joins
set_option linter.unusedVariables false
set_option linter.unusedSimpArgs false
set_option maxRecDepth 4000
/-- the greatest numbers of a clue -/
def mA (k s : Int) : Int := if k = 2 then 2 * s else s
def mB (k s : Int) : Int := if k = 3 ∨ k = 4 ∨ k = 5 then s else 0
def mC (k s : Int) : Int := if k = 3 then s * s else if k = 4 then 2 * s * s else if k = 5 then 1 else 0
def kindB (k : Int) : Bool := decide (k = 0) || decide (k = 1) || decide (k = 2) || decide (k = 3) || decide (k = 4) || decide (k = 5)
def clueB (s k a b c : Int) : Bool := kindB k && (inQ 0 (mA k s) a && (inQ 0 (mB k s) b && inQ 0 (mC k s) c))
theorem kinds (k : Int) : k = 0 ∨ k = 1 ∨ k = 2 ∨ k = 3 ∨ k = 4 ∨ k = 5 ∨ (k ≠ 0 ∧ k ≠ 1 ∧ k ≠ 2 ∧ k ≠ 3 ∧ k ≠ 4 ∧ k ≠ 5) := by omega
theorem kindB_f {k : Int} (h : k ≠ 0 ∧ k ≠ 1 ∧ k ≠ 2 ∧ k ≠ 3 ∧ k ≠ 4 ∧ k ≠ 5) : kindB k = false := by
  obtain ⟨h0, h1, h2, h3, h4, h5⟩ := h
  unfold kindB
  simp [h0, h1, h2, h3, h4, h5]
theorem inQ_00 (b : Int) : inQ 0 0 b = decide (b = 0) := by
  unfold inQ
  by_cases h : b = 0
  · subst h; rfl
  · rw [decide_eq_false h]
    by_cases h1 : 0 ≤ b
    · rw [decide_eq_false (show ¬ b ≤ 0 by omega)]; simp
    · rw [decide_eq_false h1]; rfl
theorem sq_12 {s : Int} (h1 : 1 ≤ s) (h2 : s ≤ 12) : 1 ≤ s * s ∧ s * s ≤ 144 := by
  have h : s = 1 ∨ s = 2 ∨ s = 3 ∨ s = 4 ∨ s = 5 ∨ s = 6 ∨ s = 7 ∨ s = 8 ∨ s = 9 ∨ s = 10 ∨ s = 11 ∨ s = 12 := by omega
  rcases h with rfl | rfl | rfl | rfl | rfl | rfl | rfl | rfl | rfl | rfl | rfl | rfl <;> decide
theorem inQ_any (n lo hi : Int) (w : World) : Calls Try.prog 55 #[.int .i64 n, .int .i64 lo, .int .i64 hi] w fun e w' => e = .returned (.bool (inQ lo hi n)) ∧ w = w' := l1In_any n lo hi w
theorem pzSide_any (s : Int) (w : World) : Calls Try.prog 73 #[.int .i64 s] w fun e w' => e = .returned (.bool (inQ 1 12 s)) ∧ w = w' := by
  have K := Lib.hid (fun W => inQ_any s 1 12 W)
  generalize inQ 1 12 s = b at *
  go_enter Try.func73, Try.ntmps73
  go_wp2_with fail
  refine (K.out _).mono ?_; rintro e _ ⟨rfl, rfl⟩
  go_wp2_with fail
  go_ret
  exact ⟨rfl, rfl⟩
set_option maxHeartbeats 4000000 in
theorem pzClue_any (s k a b c : Int) (w : World) (h1 : 1 ≤ s) (h2 : s ≤ 12) :
    Calls Try.prog 63 #[.int .i64 s, .agg #[.int .i64 k, .int .i64 a, .int .i64 b, .int .i64 c]] w fun e w' => e = .returned (.bool (clueB s k a b c)) ∧ Below w.heap.size w w' := by
  obtain ⟨q1, q2⟩ := sq_12 h1 h2
  have i1 : IntKind.i64.wrap (2 * s) = 2 * s := IntWalk.i64_in _ (by omega)
  have i2 : IntKind.i64.wrap (s * s) = s * s := IntWalk.i64_in _ (by omega)
  have e2 : 2 * s * s = 2 * (s * s) := by rw [Int.mul_assoc]
  have i3 : IntKind.i64.wrap (2 * s * s) = 2 * s * s := IntWalk.i64_in _ (by omega)
  clear q1 q2 e2
  have HB := Lib.hid (Below.alloc (Below.refl w.heap.size w) (Nat.le_refl _) (.cells #[.int .i64 k, .int .i64 a, .int .i64 b, .int .i64 c] 38))
  rcases kinds k with rfl | rfl | rfl | rfl | rfl | rfl | hk
  · have hd : Hid (clueB s 0 a b c = (inQ 0 (s) a && (decide (b = 0) && decide (c = 0)))) := Lib.hid (by unfold clueB mA mB mC kindB; simp [inQ_00])
    have KA := Lib.hid (fun W => inQ_any a 0 (s) W)
    generalize inQ 0 (s) a = qa at *
    rw [hd.out]
    clear hd
    cases qa
    · go_enter Try.func63, Try.ntmps63
      go_wp2_with fail
      refine (KA.out _).mono ?_; rintro e _ ⟨rfl, rfl⟩
      go_wp2_with fail
      go_ret
      exact ⟨rfl, HB.out⟩
    · by_cases hb : b = 0
      · subst hb
        by_cases hc : c = 0
        · subst hc
          go_enter Try.func63, Try.ntmps63
          go_wp2_with fail
          refine (KA.out _).mono ?_; rintro e _ ⟨rfl, rfl⟩
          go_wp2_with fail
          go_ret
          exact ⟨rfl, HB.out⟩
        · go_enter Try.func63, Try.ntmps63
          go_wp2_with fail
          refine (KA.out _).mono ?_; rintro e _ ⟨rfl, rfl⟩
          go_wp2_with fail
          go_ret
          exact ⟨ret_bool (by simp [hc]), HB.out⟩
      · go_enter Try.func63, Try.ntmps63
        go_wp2_with fail
        refine (KA.out _).mono ?_; rintro e _ ⟨rfl, rfl⟩
        go_wp2_with fail
        go_ret
        exact ⟨ret_bool (by simp [hb]), HB.out⟩
  · have hd : Hid (clueB s 1 a b c = (inQ 0 (s) a && (decide (b = 0) && decide (c = 0)))) := Lib.hid (by unfold clueB mA mB mC kindB; simp [inQ_00])
    have KA := Lib.hid (fun W => inQ_any a 0 (s) W)
    generalize inQ 0 (s) a = qa at *
    rw [hd.out]
    clear hd
    cases qa
    · go_enter Try.func63, Try.ntmps63
      go_wp2_with fail
      refine (KA.out _).mono ?_; rintro e _ ⟨rfl, rfl⟩
      go_wp2_with fail
      go_ret
      exact ⟨rfl, HB.out⟩
    · by_cases hb : b = 0
      · subst hb
        by_cases hc : c = 0
        · subst hc
          go_enter Try.func63, Try.ntmps63
          go_wp2_with fail
          refine (KA.out _).mono ?_; rintro e _ ⟨rfl, rfl⟩
          go_wp2_with fail
          go_ret
          exact ⟨rfl, HB.out⟩
        · go_enter Try.func63, Try.ntmps63
          go_wp2_with fail
          refine (KA.out _).mono ?_; rintro e _ ⟨rfl, rfl⟩
          go_wp2_with fail
          go_ret
          exact ⟨ret_bool (by simp [hc]), HB.out⟩
      · go_enter Try.func63, Try.ntmps63
        go_wp2_with fail
        refine (KA.out _).mono ?_; rintro e _ ⟨rfl, rfl⟩
        go_wp2_with fail
        go_ret
        exact ⟨ret_bool (by simp [hb]), HB.out⟩
  · have hd : Hid (clueB s 2 a b c = (inQ 0 (2 * s) a && (decide (b = 0) && decide (c = 0)))) := Lib.hid (by unfold clueB mA mB mC kindB; simp [inQ_00])
    have KA := Lib.hid (fun W => inQ_any a 0 (2 * s) W)
    generalize inQ 0 (2 * s) a = qa at *
    rw [hd.out]
    clear hd
    cases qa
    · go_enter Try.func63, Try.ntmps63
      go_wp2_with fail
      refine (KA.out _).mono ?_; rintro e _ ⟨rfl, rfl⟩
      go_wp2_with fail
      go_ret
      exact ⟨rfl, HB.out⟩
    · by_cases hb : b = 0
      · subst hb
        by_cases hc : c = 0
        · subst hc
          go_enter Try.func63, Try.ntmps63
          go_wp2_with fail
          refine (KA.out _).mono ?_; rintro e _ ⟨rfl, rfl⟩
          go_wp2_with fail
          go_ret
          exact ⟨rfl, HB.out⟩
        · go_enter Try.func63, Try.ntmps63
          go_wp2_with fail
          refine (KA.out _).mono ?_; rintro e _ ⟨rfl, rfl⟩
          go_wp2_with fail
          go_ret
          exact ⟨ret_bool (by simp [hc]), HB.out⟩
      · go_enter Try.func63, Try.ntmps63
        go_wp2_with fail
        refine (KA.out _).mono ?_; rintro e _ ⟨rfl, rfl⟩
        go_wp2_with fail
        go_ret
        exact ⟨ret_bool (by simp [hb]), HB.out⟩
  · have hd : Hid (clueB s 3 a b c = (inQ 0 (s) a && (inQ 0 s b && inQ 0 (s * s) c))) := Lib.hid (by unfold clueB mA mB mC kindB; simp)
    have KA := Lib.hid (fun W => inQ_any a 0 (s) W)
    have KB := Lib.hid (fun W => inQ_any b 0 s W)
    have KC := Lib.hid (fun W => inQ_any c 0 (s * s) W)
    generalize inQ 0 s a = qa at *
    generalize inQ 0 s b = qb at *
    generalize inQ 0 (s * s) c = qc at *
    rw [hd.out]
    clear hd
    cases qa
    · go_enter Try.func63, Try.ntmps63
      go_wp2_with fail
      refine (KA.out _).mono ?_; rintro e _ ⟨rfl, rfl⟩
      go_wp2_with fail
      go_ret
      exact ⟨rfl, HB.out⟩
    · cases qb
      · go_enter Try.func63, Try.ntmps63
        go_wp2_with fail
        refine (KA.out _).mono ?_; rintro e _ ⟨rfl, rfl⟩
        go_wp2_with fail
        refine (KB.out _).mono ?_; rintro e _ ⟨rfl, rfl⟩
        go_wp2_with fail
        go_ret
        exact ⟨rfl, HB.out⟩
      · go_enter Try.func63, Try.ntmps63
        go_wp2_with fail
        refine (KA.out _).mono ?_; rintro e _ ⟨rfl, rfl⟩
        go_wp2_with fail
        refine (KB.out _).mono ?_; rintro e _ ⟨rfl, rfl⟩
        go_wp2_with fail
        refine (KC.out _).mono ?_; rintro e _ ⟨rfl, rfl⟩
        go_wp2_with fail
        go_ret
        exact ⟨rfl, HB.out⟩
  · have hd : Hid (clueB s 4 a b c = (inQ 0 (s) a && (inQ 0 s b && inQ 0 (2 * s * s) c))) := Lib.hid (by unfold clueB mA mB mC kindB; simp)
    have KA := Lib.hid (fun W => inQ_any a 0 (s) W)
    have KB := Lib.hid (fun W => inQ_any b 0 s W)
    have KC := Lib.hid (fun W => inQ_any c 0 (2 * s * s) W)
    generalize inQ 0 s a = qa at *
    generalize inQ 0 s b = qb at *
    generalize inQ 0 (2 * s * s) c = qc at *
    rw [hd.out]
    clear hd
    cases qa
    · go_enter Try.func63, Try.ntmps63
      go_wp2_with fail
      refine (KA.out _).mono ?_; rintro e _ ⟨rfl, rfl⟩
      go_wp2_with fail
      go_ret
      exact ⟨rfl, HB.out⟩
    · cases qb
      · go_enter Try.func63, Try.ntmps63
        go_wp2_with fail
        refine (KA.out _).mono ?_; rintro e _ ⟨rfl, rfl⟩
        go_wp2_with fail
        refine (KB.out _).mono ?_; rintro e _ ⟨rfl, rfl⟩
        go_wp2_with fail
        go_ret
        exact ⟨rfl, HB.out⟩
      · go_enter Try.func63, Try.ntmps63
        go_wp2_with fail
        refine (KA.out _).mono ?_; rintro e _ ⟨rfl, rfl⟩
        go_wp2_with fail
        refine (KB.out _).mono ?_; rintro e _ ⟨rfl, rfl⟩
        go_wp2_with fail
        refine (KC.out _).mono ?_; rintro e _ ⟨rfl, rfl⟩
        go_wp2_with fail
        go_ret
        exact ⟨rfl, HB.out⟩
  · have hd : Hid (clueB s 5 a b c = (inQ 0 (s) a && (inQ 0 s b && inQ 0 (1) c))) := Lib.hid (by unfold clueB mA mB mC kindB; simp)
    have KA := Lib.hid (fun W => inQ_any a 0 (s) W)
    have KB := Lib.hid (fun W => inQ_any b 0 s W)
    have KC := Lib.hid (fun W => inQ_any c 0 (1) W)
    generalize inQ 0 s a = qa at *
    generalize inQ 0 s b = qb at *
    generalize inQ 0 (1) c = qc at *
    rw [hd.out]
    clear hd
    cases qa
    · go_enter Try.func63, Try.ntmps63
      go_wp2_with fail
      refine (KA.out _).mono ?_; rintro e _ ⟨rfl, rfl⟩
      go_wp2_with fail
      go_ret
      exact ⟨rfl, HB.out⟩
    · cases qb
      · go_enter Try.func63, Try.ntmps63
        go_wp2_with fail
        refine (KA.out _).mono ?_; rintro e _ ⟨rfl, rfl⟩
        go_wp2_with fail
        refine (KB.out _).mono ?_; rintro e _ ⟨rfl, rfl⟩
        go_wp2_with fail
        go_ret
        exact ⟨rfl, HB.out⟩
      · go_enter Try.func63, Try.ntmps63
        go_wp2_with fail
        refine (KA.out _).mono ?_; rintro e _ ⟨rfl, rfl⟩
        go_wp2_with fail
        refine (KB.out _).mono ?_; rintro e _ ⟨rfl, rfl⟩
        go_wp2_with fail
        refine (KC.out _).mono ?_; rintro e _ ⟨rfl, rfl⟩
        go_wp2_with fail
        go_ret
        exact ⟨rfl, HB.out⟩
  · have hd : Hid (clueB s k a b c = false) := Lib.hid (by unfold clueB; rw [kindB_f hk]; rfl)
    obtain ⟨k0, k1, k2, k3, k4, k5⟩ := hk
    rw [hd.out]
    go_enter Try.func63, Try.ntmps63
    go_wp2_with fail
    go_ret
    exact ⟨rfl, HB.out⟩
end Go.Proofs.Ytacabmbajadbgaa
