/- moves that are held against each other -/
import Derived.Test.YtieimijkkjhegaaMc
import Derived.DeepKeys
namespace Go.Proofs.Ytieimijkkjhegaa
open Go.ChangeShapes Go.WideShapes Go.ChangeAt Go.RowKit Go.Joins
set_option linter.unusedVariables false
set_option linter.unusedSimpArgs false
set_option maxRecDepth 4000
theorem eq_int (d : Nat) (a b : Int) (W : World) : (Op.equalIn (d + 1) 3 (.int .i64 a) (.int .i64 b)).run Try.prog W = .ok (decide (a = b)) W := by
  simp [Op.equalIn, run_underlying Try.underlying3]
  by_cases h : a = b <;> simp [h]
theorem eq6 (a b c d x y a' b' c' d' x' y' : Int) (W : World) : (Op.equalIn 10000 89 (.agg #[.int .i64 a, .int .i64 b, .int .i64 c, .int .i64 d, .int .i64 x, .int .i64 y]) (.agg #[.int .i64 a', .int .i64 b', .int .i64 c', .int .i64 d', .int .i64 x', .int .i64 y'])).run Try.prog W = .ok (decide (a = a' ∧ b = b' ∧ c = c' ∧ d = d' ∧ x = x' ∧ y = y')) W := by
  obtain ⟨i, hi⟩ : ∃ i, Try.prog.info? 3 = some i := ⟨_, rfl⟩
  rw [show (10000 : Nat) = 9998 + 1 + 1 from rfl, run_equalIn_array W (9998 + 1) _ _ Try.underlying89 hi]
  have hn : Try.prog.cellsOf 3 = 1 := by kernel_rfl
  rw [hn]
  simp only [show List.range 6 = [0, 1, 2, 3, 4, 5] from rfl, Op.eqItems, Sem.run_bind, Nat.mul_one]
  have hk : Try.prog.plainKey 3 = true := by kernel_rfl
  have p0 := run_part_plain (P := Try.prog) W hk (xs := #[.int .i64 a, .int .i64 b, .int .i64 c, .int .i64 d, .int .i64 x, .int .i64 y]) (off := 0) (v := .int .i64 a) rfl
  have r0 := run_part_plain (P := Try.prog) W hk (xs := #[.int .i64 a', .int .i64 b', .int .i64 c', .int .i64 d', .int .i64 x', .int .i64 y']) (off := 0) (v := .int .i64 a') rfl
  have p1 := run_part_plain (P := Try.prog) W hk (xs := #[.int .i64 a, .int .i64 b, .int .i64 c, .int .i64 d, .int .i64 x, .int .i64 y]) (off := 1) (v := .int .i64 b) rfl
  have r1 := run_part_plain (P := Try.prog) W hk (xs := #[.int .i64 a', .int .i64 b', .int .i64 c', .int .i64 d', .int .i64 x', .int .i64 y']) (off := 1) (v := .int .i64 b') rfl
  have p2 := run_part_plain (P := Try.prog) W hk (xs := #[.int .i64 a, .int .i64 b, .int .i64 c, .int .i64 d, .int .i64 x, .int .i64 y]) (off := 2) (v := .int .i64 c) rfl
  have r2 := run_part_plain (P := Try.prog) W hk (xs := #[.int .i64 a', .int .i64 b', .int .i64 c', .int .i64 d', .int .i64 x', .int .i64 y']) (off := 2) (v := .int .i64 c') rfl
  have p3 := run_part_plain (P := Try.prog) W hk (xs := #[.int .i64 a, .int .i64 b, .int .i64 c, .int .i64 d, .int .i64 x, .int .i64 y]) (off := 3) (v := .int .i64 d) rfl
  have r3 := run_part_plain (P := Try.prog) W hk (xs := #[.int .i64 a', .int .i64 b', .int .i64 c', .int .i64 d', .int .i64 x', .int .i64 y']) (off := 3) (v := .int .i64 d') rfl
  have p4 := run_part_plain (P := Try.prog) W hk (xs := #[.int .i64 a, .int .i64 b, .int .i64 c, .int .i64 d, .int .i64 x, .int .i64 y]) (off := 4) (v := .int .i64 x) rfl
  have r4 := run_part_plain (P := Try.prog) W hk (xs := #[.int .i64 a', .int .i64 b', .int .i64 c', .int .i64 d', .int .i64 x', .int .i64 y']) (off := 4) (v := .int .i64 x') rfl
  have p5 := run_part_plain (P := Try.prog) W hk (xs := #[.int .i64 a, .int .i64 b, .int .i64 c, .int .i64 d, .int .i64 x, .int .i64 y]) (off := 5) (v := .int .i64 y) rfl
  have r5 := run_part_plain (P := Try.prog) W hk (xs := #[.int .i64 a', .int .i64 b', .int .i64 c', .int .i64 d', .int .i64 x', .int .i64 y']) (off := 5) (v := .int .i64 y') rfl
  have e := fun a b => eq_int 9998 a b W
  rw [p0, Result.andThen_ok, r0, Result.andThen_ok, e, Result.andThen_ok]
  by_cases h0 : a = a'
  rotate_left
  · simp [h0]
  rw [decide_eq_true h0]
  simp only [Bool.not_true, Bool.false_eq_true, if_false, Sem.run_bind]
  rw [p1, Result.andThen_ok, r1, Result.andThen_ok, e, Result.andThen_ok]
  by_cases h1 : b = b'
  rotate_left
  · simp [h1]
  rw [decide_eq_true h1]
  simp only [Bool.not_true, Bool.false_eq_true, if_false, Sem.run_bind]
  rw [p2, Result.andThen_ok, r2, Result.andThen_ok, e, Result.andThen_ok]
  by_cases h2 : c = c'
  rotate_left
  · simp [h2]
  rw [decide_eq_true h2]
  simp only [Bool.not_true, Bool.false_eq_true, if_false, Sem.run_bind]
  rw [p3, Result.andThen_ok, r3, Result.andThen_ok, e, Result.andThen_ok]
  by_cases h3 : d = d'
  rotate_left
  · simp [h3]
  rw [decide_eq_true h3]
  simp only [Bool.not_true, Bool.false_eq_true, if_false, Sem.run_bind]
  rw [p4, Result.andThen_ok, r4, Result.andThen_ok, e, Result.andThen_ok]
  by_cases h4 : x = x'
  rotate_left
  · simp [h4]
  rw [decide_eq_true h4]
  simp only [Bool.not_true, Bool.false_eq_true, if_false, Sem.run_bind]
  rw [p5, Result.andThen_ok, r5, Result.andThen_ok, e, Result.andThen_ok]
  by_cases h5 : y = y'
  rotate_left
  · simp [h5]
  rw [decide_eq_true h5]
  simp only [Bool.not_true, Bool.false_eq_true, if_false, Sem.run_bind]
  simp [h0, h1, h2, h3, h4, h5]
end Go.Proofs.Ytieimijkkjhegaa
