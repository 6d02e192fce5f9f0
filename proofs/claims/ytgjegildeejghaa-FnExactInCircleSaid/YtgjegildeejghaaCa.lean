/- contracts: the greatest common divisor of greater numbers, on both sides -/
import Derived.Test.YtgjegildeejghaaTe
import Derived.Test.YtgjegildeejghaaM
import Derived.LoopTactic
import Derived.Deep.QuietTactic
import Derived.BigQuiet
namespace Go.Proofs.Ytgjegildeejghaa
open Go.ChangeShapes Go.WideShapes Go.ChangeAt Go.RowKit Go.Joins
set_option linter.unusedVariables false
set_option linter.unusedSimpArgs false
set_option maxRecDepth 4000
theorem pgCommonW_any (a b : Int) (w : World) (h1 : -1000000000000 ≤ a) (h2 : a ≤ 1000000000000) (h3 : -1000000000000 ≤ b) (h4 : b ≤ 1000000000000) :
    Calls Try.prog 62 #[.int .i64 a, .int .i64 b] w fun e w' => e = .returned (.int .i64 ((Nat.gcd a.natAbs b.natAbs : Nat) : Int)) ∧ Below w.heap.size w w' := by
  have m1 : (a.natAbs : Int) ≤ 1000000000000 := by omega
  have m2 : (b.natAbs : Int) ≤ 1000000000000 := by omega
  have A1 := Lib.hid (fun W => l1Abs_any a W (by omega) (by omega))
  have A2 := Lib.hid (fun W => l1Abs_any b W (by omega) (by omega))
  generalize a.natAbs = p at *
  generalize b.natAbs = q at *
  go_enter Try.func62, Try.ntmps62
  go_wp2_with fail
  refine (A1.out _).mono ?_; rintro e _ ⟨rfl, rfl⟩
  go_wp2_with fail
  refine (A2.out _).mono ?_; rintro e _ ⟨rfl, rfl⟩
  go_wp2_with fail
  clear A1 A2
  go_loopw [0, 1] (fun u v wr => ∃ m n : Nat, u = .int .i64 m ∧ v = .int .i64 n ∧ Nat.gcd m n = Nat.gcd p q ∧ (m : Int) ≤ 1000000000000 ∧ (n : Int) ≤ 1000000000000 ∧ Below w.heap.size w wr) (fun _ v _ => (intOf v).toNat)
  case atStart => exact ⟨p, q, rfl, rfl, rfl, m1, m2, Below.refl _ _⟩
  case round =>
    obtain ⟨m, n, rfl, rfl, hg, hm, hn, hB⟩ := hrel
    by_cases hz : 0 < n
    · have hG := Lib.hid hg
      clear hg
      go_wp2_with fail
      go_quiet (fail)
      have hmod : m % n < n := Nat.mod_lt _ hz
      go_roundw
      case rel => ((repeat apply Exists.intro); exact ⟨⟨n, m % n, by go_num, by go_num, by rw [gcd_step]; exact hG.out, hn, by omega, by repeat (first | exact hB | apply Below.drew | apply below_dr)⟩, rfl⟩)
      case measure => simp [intOf]; omega
    · have hn0 : n = 0 := by omega
      subst hn0
      rw [Nat.gcd_zero_right] at hg
      subst hg
      go_wp2_with fail
      go_ret
      exact ⟨rfl, hB⟩
theorem greatestDivisorW_any (a b : Int) (w : World) (h1 : -1000000000000 ≤ a) (h2 : a ≤ 1000000000000) (h3 : -1000000000000 ≤ b) (h4 : b ≤ 1000000000000) :
    Calls Try.prog 64 #[.int .i64 a, .int .i64 b] w fun e w' => e = .returned (.int .i64 ((Nat.gcd a.natAbs b.natAbs : Nat) : Int)) ∧ Below w.heap.size w w' := by
  have R : ∃ r, r = Nat.gcd a.natAbs b.natAbs := ⟨_, rfl⟩
  obtain ⟨r, hr⟩ := R
  rw [← hr]
  have HR := Lib.hid hr
  clear hr
  go_enter Try.func64, Try.ntmps64
  go_wp2_with fail
  go_loopw [0, 1] (fun u v wr => ∃ x y : Int, u = .int .i64 x ∧ v = .int .i64 y ∧ Hid (r = Nat.gcd x.natAbs y.natAbs) ∧ -1000000000000 ≤ x ∧ x ≤ 1000000000000 ∧ -1000000000000 ≤ y ∧ y ≤ 1000000000000 ∧ Below w.heap.size w wr) (fun _ v _ => (intOf v).natAbs)
  case atStart => exact ⟨a, b, rfl, rfl, HR, h1, h2, h3, h4, Below.refl _ _⟩
  case round =>
    obtain ⟨x, y, rfl, rfl, hg, hx1, hx2, hy1, hy2, hB⟩ := hrel
    by_cases hz : y = 0
    · subst hz
      go_wp2_with fail
      all_goals
        go_ret
        exact ⟨ret_int (by have := hg.out; simp at this; omega), hB⟩
    · go_wp2_with fail
      go_quiet (fail)
      have hmod := tmod_bd x y hz
      go_roundw
      case rel => ((repeat apply Exists.intro); exact ⟨⟨y, x.tmod y, by go_num, by go_num, by rw [tmod_step]; exact hg, hy1, hy2, by omega, by omega, by repeat (first | exact hB | apply Below.drew | apply below_dr)⟩, rfl⟩)
      case measure => simpa [intOf] using hmod
end Go.Proofs.Ytgjegildeejghaa
