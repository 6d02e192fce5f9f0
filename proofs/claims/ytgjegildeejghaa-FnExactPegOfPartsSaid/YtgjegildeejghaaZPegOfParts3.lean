/- joined: Tb01 Tb00 Tb0 Te Ml M Ca Cb K Ki Tl Tm Tn Cc Tbq Tb Tix Tc Cd Z -/
import Derived.Test.YtgjegildeejghaaZPegOfParts2
import Derived.LoopTactic
import Derived.Deep.QuietTactic
import Derived.BigQuiet
import Derived.OwnWalk
import Derived.BigRegion
import Derived.Deep.CutRange
import Derived.Deep.LoopGhost
import Derived.Deep.Slices
import Derived.Deep.Fields
/- contracts: differences of points, squares -/
namespace Go.Proofs.Ytgjegildeejghaa
open Go.ChangeShapes Go.WideShapes Go.ChangeAt Go.RowKit Go.Joins
set_option linter.unusedVariables false
set_option linter.unusedSimpArgs false
set_option maxRecDepth 4000
/-- numbers that leave room -/
def Mid (x : Int) : Prop := -1000000000000 ≤ x ∧ x ≤ 1000000000000
theorem minus_any (a1 a2 b1 b2 : Int) (w : World) (h1 : Mid a1) (h2 : Mid a2) (h3 : Mid b1) (h4 : Mid b2) :
    Calls Try.prog 76 #[.agg #[.int .i64 a1, .int .i64 a2], .agg #[.int .i64 b1, .int .i64 b2]] w fun e w' => e = .returned (.agg #[.int .i64 (a1 - b1), .int .i64 (a2 - b2)]) ∧ Below w.heap.size w w' := by
  obtain ⟨x1, x2⟩ := h1
  obtain ⟨x3, x4⟩ := h2
  obtain ⟨x5, x6⟩ := h3
  obtain ⟨x7, x8⟩ := h4
  go_enter Try.func76, Try.ntmps76
  go_wp2
  refine bodyPost_ret (v := .agg #[.int .i64 (a1 - b1), .int .i64 (a2 - b2)]) (by simp [results, Try.results76, go_sem]) rfl ⟨rfl, ?_⟩
  repeat (first | with_reducible assumption | with_reducible exact Below.refl _ _ | with_reducible apply Below.drew | ((with_reducible refine Below.setCell ?_ ?_ _); rotate_left; (first | exact Nat.le_refl _ | omega | (simp <;> omega))) | ((with_reducible refine Below.alloc ?_ ?_ _); rotate_left; (first | omega | (simp <;> omega))))
end Go.Proofs.Ytgjegildeejghaa
/- contracts: squares -/
namespace Go.Proofs.Ytgjegildeejghaa
open Go.ChangeShapes Go.WideShapes Go.ChangeAt Go.RowKit Go.Joins
set_option linter.unusedVariables false
set_option linter.unusedSimpArgs false
set_option maxRecDepth 4000
theorem sq_bd {x : Int} (h : -100000000 ≤ x ∧ x ≤ 100000000) : 0 ≤ x * x ∧ x * x ≤ 10000000000000000 := by
  have h1 := mul_bd (x := x) (y := x) (m := 100000000) (n := 100000000) (by omega) (by omega) (by omega) (by omega)
  refine ⟨?_, by omega⟩
  rcases Int.le_total 0 x with h | h
  · exact Int.mul_nonneg h h
  · have := Int.mul_nonneg (show 0 ≤ -x by omega) (show 0 ≤ -x by omega)
    rwa [Int.neg_mul_neg] at this
theorem square_any (a1 a2 : Int) (w : World) (h1 : -100000000 ≤ a1 ∧ a1 ≤ 100000000) (h2 : -100000000 ≤ a2 ∧ a2 ≤ 100000000) :
    Calls Try.prog 77 #[.agg #[.int .i64 a1, .int .i64 a2]] w fun e w' => e = .returned (.int .i64 (a1 * a1 + a2 * a2)) ∧ Below w.heap.size w w' := by
  obtain ⟨x1, x2⟩ := sq_bd h1
  obtain ⟨x3, x4⟩ := sq_bd h2
  go_enter Try.func77, Try.ntmps77
  go_wp2
  go_ret
  exact ⟨rfl, (by repeat (first | exact Below.refl _ _ | assumption | apply Below.drew | refine Below.alloc ?_ (by simp <;> omega) _))⟩
end Go.Proofs.Ytgjegildeejghaa
/- contracts: sums and differences of points; a triangle's area and sum -/
namespace Go.Proofs.Ytgjegildeejghaa
open Go.ChangeShapes Go.WideShapes Go.ChangeAt Go.RowKit Go.Joins
set_option linter.unusedVariables false
set_option linter.unusedSimpArgs false
set_option maxRecDepth 4000
/-- a triangle as a value -/
def thr (a1 a2 b1 b2 c1 c2 : Int) : Value := .agg #[.int .i64 a1, .int .i64 a2, .int .i64 b1, .int .i64 b2, .int .i64 c1, .int .i64 c2]
theorem twice_any (a1 a2 b1 b2 c1 c2 : Int) (w : World) (ha : Sz a1 a2) (hb : Sz b1 b2) (hc : Sz c1 c2) :
    Calls Try.prog 63 #[.agg #[.int .i64 a1, .int .i64 a2, .int .i64 b1, .int .i64 b2, .int .i64 c1, .int .i64 c2]] w fun e w' => e = .returned (.int .i64 (twI a1 a2 b1 b2 c1 c2)) ∧ Below w.heap.size w w' := by
  have K := Lib.hid (fun W => twiceThree_any a1 a2 b1 b2 c1 c2 W ha hb hc)
  clear ha hb hc
  go_enter Try.func63, Try.ntmps63
  go_wp2_with fail
  refine (K.out _).mono ?_; rintro e w1 ⟨rfl, hb1⟩
  obtain ⟨hc1, hf1⟩ := bcell hb1
  have z1_0 : w.heap.size < w1.heap.size := by (have := hb1.size; simp at this; omega)
  have B1 : Below w.heap.size w w1 := (Below.alloc (Below.refl _ _) (by simp <;> omega) _).trans (hb1.mono (by simp <;> omega))
  go_wp2_with fail
  go_ret
  exact ⟨rfl, B1⟩
end Go.Proofs.Ytgjegildeejghaa
/- contracts: what the program makes of a list that is a triangle, and of others -/
namespace Go.Proofs.Ytgjegildeejghaa
open Go.ChangeShapes Go.WideShapes Go.ChangeAt Go.RowKit Go.Joins
set_option linter.unusedVariables false
set_option linter.unusedSimpArgs false
set_option maxRecDepth 4000
theorem threeOf_t (A : Option Addr) (c : Nat) (l : List (Int × Int)) (a1 a2 b1 b2 c1 c2 : Int) (w : World) (hR : Rd w w.heap.size A l) (ht : Tri l a1 a2 b1 b2 c1 c2) :
    Calls Try.prog 56 #[.slice A l.length c] w fun e w' => e = .returned (.tuple #[.agg #[.int .i64 a1, .int .i64 a2, .int .i64 b1, .int .i64 b2, .int .i64 c1, .int .i64 c2], .bool true]) ∧ Below w.heap.size w w' :=
  threeOf_yes A c l a1 a2 b1 b2 c1 c2 w hR ht
theorem threeOf_f (A : Option Addr) (c : Nat) (l : List (Int × Int)) (w : World) (hn : l.length ≤ 1048576) (hR : Rd w w.heap.size A l) (ht : ¬ tB l = true) :
    Calls Try.prog 56 #[.slice A l.length c] w fun e w' => e = .returned (.tuple #[.agg #[.int .i64 0, .int .i64 0, .int .i64 0, .int .i64 0, .int .i64 0, .int .i64 0], .bool false]) ∧ Below w.heap.size w w' :=
  threeOf_no A c l w hn hR (by simpa using ht)
theorem tri_sz {l : List (Int × Int)} {a1 a2 b1 b2 c1 c2 : Int} (h : Tri l a1 a2 b1 b2 c1 c2) : Sz a1 a2 ∧ Sz b1 b2 ∧ Sz c1 c2 := by
  have := tri_bd h
  unfold Sz
  omega
theorem tri_area {l : List (Int × Int)} {a1 a2 b1 b2 c1 c2 : Int} (h : Tri l a1 a2 b1 b2 c1 c2) : areaN l = twI a1 a2 b1 b2 c1 c2 := by
  rw [h.1]
  have e : areaN [(a1, a2), (b1, b2), (c1, c2)] = ((0 + cr (a1, a2) (b1, b2)) + cr (b1, b2) (c1, c2)) + cr (c1, c2) (a1, a2) := by
    unfold areaN Sh
    simp only [List.length_cons, List.length_nil, Nat.zero_add, sumTo]
    have e0 : vx [(a1, a2), (b1, b2), (c1, c2)] 0 = (a1, a2) := rfl
    have e1 : vx [(a1, a2), (b1, b2), (c1, c2)] 1 = (b1, b2) := rfl
    have e2 : vx [(a1, a2), (b1, b2), (c1, c2)] (1 + 1) = (c1, c2) := rfl
    have e3 : vx [(a1, a2), (b1, b2), (c1, c2)] (1 + 1 + 1) = (a1, a2) := vx_add [(a1, a2), (b1, b2), (c1, c2)] 0
    rw [e0, e1, e2, e3]
  rw [e]
  unfold cr twI
  grind
def bsel (b v : Bool) : Bool := b && v
theorem bsel_t (v : Bool) : bsel true v = v := rfl
theorem bsel_f (v : Bool) : bsel false v = false := rfl
end Go.Proofs.Ytgjegildeejghaa
/- contracts: greatest of two, size of a number -/
namespace Go.Proofs.Ytgjegildeejghaa
open Go.ChangeShapes Go.WideShapes Go.ChangeAt Go.RowKit Go.Joins
set_option linter.unusedVariables false
set_option linter.unusedSimpArgs false
set_option maxRecDepth 4000
theorem below_dr {B : Nat} {a w : World} (h : Below B a w) (n : Nat) : Below B a (w.drewN n) := ⟨h.os, h.tape, h.output, h.size, h.block⟩
theorem l1Most_any (a b : Int) (w : World) : Calls Try.prog 65 #[.int .i64 a, .int .i64 b] w fun e w' => e = .returned (.int .i64 (max a b)) ∧ w = w' := by
  by_cases h : b < a
  all_goals
    go_enter Try.func65, Try.ntmps65
    go_wp2
    go_ret
    exact ⟨ret_int (by omega), rfl⟩
theorem l1Abs_any (a : Int) (w : World) (h1 : -100000000000000 ≤ a) (h2 : a ≤ 100000000000000) : Calls Try.prog 54 #[.int .i64 a] w fun e w' => e = .returned (.int .i64 (a.natAbs : Int)) ∧ w = w' := by
  go_enter Try.func54, Try.ntmps54
  go_wp2_with fail
  refine (l1Most_any _ _ _).mono ?_; rintro e _ ⟨rfl, rfl⟩
  go_wp2_with fail
  go_ret
  exact ⟨ret_int (by omega), rfl⟩
end Go.Proofs.Ytgjegildeejghaa
/- contracts: the greatest common divisor, on both sides; how many points a line has -/
namespace Go.Proofs.Ytgjegildeejghaa
open Go.ChangeShapes Go.WideShapes Go.ChangeAt Go.RowKit Go.Joins
set_option linter.unusedVariables false
set_option linter.unusedSimpArgs false
set_option maxRecDepth 4000
theorem gcd_step (m n : Nat) : Nat.gcd n (m % n) = Nat.gcd m n := by rw [Nat.gcd_comm n, ← Nat.gcd_rec, Nat.gcd_comm]
theorem pgCommon_any (a b : Int) (w : World) (h1 : -1000000 ≤ a) (h2 : a ≤ 1000000) (h3 : -1000000 ≤ b) (h4 : b ≤ 1000000) :
    Calls Try.prog 62 #[.int .i64 a, .int .i64 b] w fun e w' => e = .returned (.int .i64 ((Nat.gcd a.natAbs b.natAbs : Nat) : Int)) ∧ Below w.heap.size w w' := by
  have m1 : (a.natAbs : Int) ≤ 1000000 := by omega
  have m2 : (b.natAbs : Int) ≤ 1000000 := by omega
  have A1 := Lib.hid (fun W => l1Abs_any a W (by omega) (by omega))
  have A2 := Lib.hid (fun W => l1Abs_any b W (by omega) (by omega))
  generalize a.natAbs = p at *
  generalize b.natAbs = q at *
  go_enter Try.func62, Try.ntmps62
  go_wp2_with fail
  refine (A1.out _).mono ?_; rintro e _ ⟨rfl, rfl⟩
  go_wp2_with fail
  refine (A2.out _).mono ?_; rintro e _ ⟨rfl, rfl⟩
  go_wp2_with fail
  clear A1 A2
  go_loopw [0, 1] (fun u v wr => ∃ m n : Nat, u = .int .i64 m ∧ v = .int .i64 n ∧ Nat.gcd m n = Nat.gcd p q ∧ (m : Int) ≤ 1000000 ∧ (n : Int) ≤ 1000000 ∧ Below w.heap.size w wr) (fun _ v _ => (intOf v).toNat)
  case atStart => exact ⟨p, q, rfl, rfl, rfl, m1, m2, Below.refl _ _⟩
  case round =>
    obtain ⟨m, n, rfl, rfl, hg, hm, hn, hB⟩ := hrel
    by_cases hz : 0 < n
    · have hG := Lib.hid hg
      clear hg
      go_wp2_with fail
      go_quiet (fail)
      have hmod : m % n < n := Nat.mod_lt _ hz
      go_roundw
      case rel => ((repeat apply Exists.intro); exact ⟨⟨n, m % n, by go_num, by go_num, by rw [gcd_step]; exact hG.out, hn, by omega, by repeat (first | exact hB | apply Below.drew | apply below_dr)⟩, rfl⟩)
      case measure => simp [intOf]; omega
    · have hn0 : n = 0 := by omega
      subst hn0
      rw [Nat.gcd_zero_right] at hg
      subst hg
      go_wp2_with fail
      go_ret
      exact ⟨rfl, hB⟩
theorem tmod_step (x y : Int) : Nat.gcd y.natAbs (x.tmod y).natAbs = Nat.gcd x.natAbs y.natAbs := by
  rw [Int.natAbs_tmod]; exact gcd_step _ _
theorem tmod_bd (x y : Int) (h : y ≠ 0) : (x.tmod y).natAbs < y.natAbs := by
  rw [Int.natAbs_tmod]; exact Nat.mod_lt _ (by omega)
theorem greatestDivisor_any (a b : Int) (w : World) (h1 : -1000000 ≤ a) (h2 : a ≤ 1000000) (h3 : -1000000 ≤ b) (h4 : b ≤ 1000000) :
    Calls Try.prog 64 #[.int .i64 a, .int .i64 b] w fun e w' => e = .returned (.int .i64 ((Nat.gcd a.natAbs b.natAbs : Nat) : Int)) ∧ Below w.heap.size w w' := by
  have R : ∃ r, r = Nat.gcd a.natAbs b.natAbs := ⟨_, rfl⟩
  obtain ⟨r, hr⟩ := R
  rw [← hr]
  have HR := Lib.hid hr
  clear hr
  go_enter Try.func64, Try.ntmps64
  go_wp2_with fail
  go_loopw [0, 1] (fun u v wr => ∃ x y : Int, u = .int .i64 x ∧ v = .int .i64 y ∧ Hid (r = Nat.gcd x.natAbs y.natAbs) ∧ -1000000 ≤ x ∧ x ≤ 1000000 ∧ -1000000 ≤ y ∧ y ≤ 1000000 ∧ Below w.heap.size w wr) (fun _ v _ => (intOf v).natAbs)
  case atStart => exact ⟨a, b, rfl, rfl, HR, h1, h2, h3, h4, Below.refl _ _⟩
  case round =>
    obtain ⟨x, y, rfl, rfl, hg, hx1, hx2, hy1, hy2, hB⟩ := hrel
    by_cases hz : y = 0
    · subst hz
      go_wp2_with fail
      all_goals
        go_ret
        exact ⟨ret_int (by have := hg.out; simp at this; omega), hB⟩
    · go_wp2_with fail
      go_quiet (fail)
      have hmod := tmod_bd x y hz
      go_roundw
      case rel => ((repeat apply Exists.intro); exact ⟨⟨y, x.tmod y, by go_num, by go_num, by rw [tmod_step]; exact hg, hy1, hy2, by omega, by omega, by repeat (first | exact hB | apply Below.drew | apply below_dr)⟩, rfl⟩)
      case measure => simpa [intOf] using hmod
theorem stepsTo_any (a1 a2 b1 b2 : Int) (w : World) (ha : Sz a1 a2) (hb : Sz b1 b2) :
    Calls Try.prog 101 #[.agg #[.int .i64 a1, .int .i64 a2], .agg #[.int .i64 b1, .int .i64 b2]] w fun e w' => e = .returned (.int .i64 (stepN a1 a2 b1 b2)) ∧ Below w.heap.size w w' := by
  obtain ⟨x1, x2, x3, x4⟩ := ha
  obtain ⟨x5, x6, x7, x8⟩ := hb
  go_enter Try.func101, Try.ntmps101
  go_wp2_with fail
  refine (greatestDivisor_any _ _ _ (by omega) (by omega) (by omega) (by omega)).mono ?_; rintro e w1 ⟨rfl, hb1⟩
  obtain ⟨hc1, hf1⟩ := bcell hb1
  have z1_0 : w.heap.size < w1.heap.size := by (have := hb1.size; simp at this; omega)
  have z1_1 : w.heap.size + 1 < w1.heap.size := by (have := hb1.size; simp at this; omega)
  have B1 : Below w.heap.size w w1 := (Below.alloc (Below.alloc (Below.refl _ _) (by simp <;> omega) _) (by simp <;> omega) _).trans (hb1.mono (by simp <;> omega))
  go_wp2_with fail
  go_ret
  exact ⟨ret_int (by unfold stepN; rw [show (b1 - a1).natAbs = (a1 - b1).natAbs by omega, show (b2 - a2).natAbs = (a2 - b2).natAbs by omega]), B1⟩
end Go.Proofs.Ytgjegildeejghaa
/- contracts: the greatest common divisor of greater numbers, on both sides -/
namespace Go.Proofs.Ytgjegildeejghaa
open Go.ChangeShapes Go.WideShapes Go.ChangeAt Go.RowKit Go.Joins
set_option linter.unusedVariables false
set_option linter.unusedSimpArgs false
set_option maxRecDepth 4000
theorem pgCommonW_any (a b : Int) (w : World) (h1 : -1000000000000 ≤ a) (h2 : a ≤ 1000000000000) (h3 : -1000000000000 ≤ b) (h4 : b ≤ 1000000000000) :
    Calls Try.prog 62 #[.int .i64 a, .int .i64 b] w fun e w' => e = .returned (.int .i64 ((Nat.gcd a.natAbs b.natAbs : Nat) : Int)) ∧ Below w.heap.size w w' := by
  have m1 : (a.natAbs : Int) ≤ 1000000000000 := by omega
  have m2 : (b.natAbs : Int) ≤ 1000000000000 := by omega
  have A1 := Lib.hid (fun W => l1Abs_any a W (by omega) (by omega))
  have A2 := Lib.hid (fun W => l1Abs_any b W (by omega) (by omega))
  generalize a.natAbs = p at *
  generalize b.natAbs = q at *
  go_enter Try.func62, Try.ntmps62
  go_wp2_with fail
  refine (A1.out _).mono ?_; rintro e _ ⟨rfl, rfl⟩
  go_wp2_with fail
  refine (A2.out _).mono ?_; rintro e _ ⟨rfl, rfl⟩
  go_wp2_with fail
  clear A1 A2
  go_loopw [0, 1] (fun u v wr => ∃ m n : Nat, u = .int .i64 m ∧ v = .int .i64 n ∧ Nat.gcd m n = Nat.gcd p q ∧ (m : Int) ≤ 1000000000000 ∧ (n : Int) ≤ 1000000000000 ∧ Below w.heap.size w wr) (fun _ v _ => (intOf v).toNat)
  case atStart => exact ⟨p, q, rfl, rfl, rfl, m1, m2, Below.refl _ _⟩
  case round =>
    obtain ⟨m, n, rfl, rfl, hg, hm, hn, hB⟩ := hrel
    by_cases hz : 0 < n
    · have hG := Lib.hid hg
      clear hg
      go_wp2_with fail
      go_quiet (fail)
      have hmod : m % n < n := Nat.mod_lt _ hz
      go_roundw
      case rel => ((repeat apply Exists.intro); exact ⟨⟨n, m % n, by go_num, by go_num, by rw [gcd_step]; exact hG.out, hn, by omega, by repeat (first | exact hB | apply Below.drew | apply below_dr)⟩, rfl⟩)
      case measure => simp [intOf]; omega
    · have hn0 : n = 0 := by omega
      subst hn0
      rw [Nat.gcd_zero_right] at hg
      subst hg
      go_wp2_with fail
      go_ret
      exact ⟨rfl, hB⟩
theorem greatestDivisorW_any (a b : Int) (w : World) (h1 : -1000000000000 ≤ a) (h2 : a ≤ 1000000000000) (h3 : -1000000000000 ≤ b) (h4 : b ≤ 1000000000000) :
    Calls Try.prog 64 #[.int .i64 a, .int .i64 b] w fun e w' => e = .returned (.int .i64 ((Nat.gcd a.natAbs b.natAbs : Nat) : Int)) ∧ Below w.heap.size w w' := by
  have R : ∃ r, r = Nat.gcd a.natAbs b.natAbs := ⟨_, rfl⟩
  obtain ⟨r, hr⟩ := R
  rw [← hr]
  have HR := Lib.hid hr
  clear hr
  go_enter Try.func64, Try.ntmps64
  go_wp2_with fail
  go_loopw [0, 1] (fun u v wr => ∃ x y : Int, u = .int .i64 x ∧ v = .int .i64 y ∧ Hid (r = Nat.gcd x.natAbs y.natAbs) ∧ -1000000000000 ≤ x ∧ x ≤ 1000000000000 ∧ -1000000000000 ≤ y ∧ y ≤ 1000000000000 ∧ Below w.heap.size w wr) (fun _ v _ => (intOf v).natAbs)
  case atStart => exact ⟨a, b, rfl, rfl, HR, h1, h2, h3, h4, Below.refl _ _⟩
  case round =>
    obtain ⟨x, y, rfl, rfl, hg, hx1, hx2, hy1, hy2, hB⟩ := hrel
    by_cases hz : y = 0
    · subst hz
      go_wp2_with fail
      all_goals
        go_ret
        exact ⟨ret_int (by have := hg.out; simp at this; omega), hB⟩
    · go_wp2_with fail
      go_quiet (fail)
      have hmod := tmod_bd x y hz
      go_roundw
      case rel => ((repeat apply Exists.intro); exact ⟨⟨y, x.tmod y, by go_num, by go_num, by rw [tmod_step]; exact hg, hy1, hy2, by omega, by omega, by repeat (first | exact hB | apply Below.drew | apply below_dr)⟩, rfl⟩)
      case measure => simpa [intOf] using hmod
end Go.Proofs.Ytgjegildeejghaa
/- contracts: the circle through a triangle's corners, the model -/
namespace Go.Proofs.Ytgjegildeejghaa
open Go.ChangeShapes Go.WideShapes Go.ChangeAt Go.RowKit Go.Joins
set_option linter.unusedVariables false
set_option linter.unusedSimpArgs false
set_option maxRecDepth 4000
def isel (b : Bool) (x : Int) : Int := if b = true then x else 0
theorem isel_t (x : Int) : isel true x = x := rfl
theorem isel_f (x : Int) : isel false x = 0 := rfl
/-- the middle of the circle times twice twice the area -/
def cxI (a1 a2 b1 b2 c1 c2 : Int) : Int := (b2 - c2) * (a1 * a1 + a2 * a2) + (c2 - a2) * (b1 * b1 + b2 * b2) + (a2 - b2) * (c1 * c1 + c2 * c2)
def cyI (a1 a2 b1 b2 c1 c2 : Int) : Int := (c1 - b1) * (a1 * a1 + a2 * a2) + (a1 - c1) * (b1 * b1 + b2 * b2) + (b1 - a1) * (c1 * c1 + c2 * c2)
def cdI (a1 a2 b1 b2 c1 c2 : Int) : Int := 2 * twI a1 a2 b1 b2 c1 c2
/-- the common divisor that the three are divided by, with the sign of d -/
def cgI (x y d : Int) : Int := if d < 0 then -((Nat.gcd (Nat.gcd x.natAbs y.natAbs) d.natAbs : Nat) : Int) else ((Nat.gcd (Nat.gcd x.natAbs y.natAbs) d.natAbs : Nat) : Int)
def sixI (f : Int → Int → Int → Int → Int → Int → Int) (l : List (Int × Int)) : Int := f (vx l 0).1 (vx l 0).2 (vx l 1).1 (vx l 1).2 (vx l 2).1 (vx l 2).2
theorem six_tri {f : Int → Int → Int → Int → Int → Int → Int} {l : List (Int × Int)} {a1 a2 b1 b2 c1 c2 : Int} (h : Tri l a1 a2 b1 b2 c1 c2) : sixI f l = f a1 a2 b1 b2 c1 c2 := by rw [h.1]; rfl
def cirG (l : List (Int × Int)) : Int := cgI (sixI cxI l) (sixI cyI l) (sixI cdI l)
def cirX (l : List (Int × Int)) : Int := (sixI cxI l).tdiv (cirG l)
def cirY (l : List (Int × Int)) : Int := (sixI cyI l).tdiv (cirG l)
def cirD (l : List (Int × Int)) : Int := (sixI cdI l).tdiv (cirG l)
theorem sq80 {x : Int} (h : -80 ≤ x ∧ x ≤ 80) : 0 ≤ x * x ∧ x * x ≤ 6400 := by
  have h1 := mul_bd (x := x) (y := x) (m := 80) (n := 80) (by omega) (by omega) (by omega) (by omega)
  refine ⟨?_, by omega⟩
  rcases Int.le_total 0 x with h | h
  · exact Int.mul_nonneg h h
  · have := Int.mul_nonneg (show 0 ≤ -x by omega) (show 0 ≤ -x by omega)
    rwa [Int.neg_mul_neg] at this
theorem cx_other (a1 a2 b1 b2 c1 c2 : Int) : (c2 - a2) * ((b1 - a1) * (b1 - a1) + (b2 - a2) * (b2 - a2)) - (b2 - a2) * ((c1 - a1) * (c1 - a1) + (c2 - a2) * (c2 - a2)) + a1 * (2 * ((b1 - a1) * (c2 - a2) - (b2 - a2) * (c1 - a1))) = cxI a1 a2 b1 b2 c1 c2 := by unfold cxI; grind
theorem cy_other (a1 a2 b1 b2 c1 c2 : Int) : (b1 - a1) * ((c1 - a1) * (c1 - a1) + (c2 - a2) * (c2 - a2)) - (c1 - a1) * ((b1 - a1) * (b1 - a1) + (b2 - a2) * (b2 - a2)) + a2 * (2 * ((b1 - a1) * (c2 - a2) - (b2 - a2) * (c1 - a1))) = cyI a1 a2 b1 b2 c1 c2 := by unfold cyI; grind
theorem gcd_le_add (m n : Nat) : Nat.gcd m n ≤ m + n := by
  rcases Nat.eq_zero_or_pos m with h | h
  · subst h; simp
  · have := Nat.gcd_le_left n h; omega
theorem tdiv_le (x g : Int) : (x.tdiv g).natAbs ≤ x.natAbs := by rw [Int.natAbs_tdiv]; exact Nat.div_le_self _ _
theorem cg_pos {X Y D : Int} (h : ¬ D < 0) : cgI X Y D = ((Nat.gcd ((Nat.gcd X.natAbs Y.natAbs : Nat) : Int).natAbs D.natAbs : Nat) : Int) := by
  unfold cgI
  rw [if_neg h, Int.natAbs_natCast]
theorem cg_neg {X Y D : Int} (h : D < 0) : cgI X Y D = -((Nat.gcd ((Nat.gcd (-X).natAbs (-Y).natAbs : Nat) : Int).natAbs (-D).natAbs : Nat) : Int) := by
  unfold cgI
  rw [if_pos h, Int.natAbs_natCast, Int.natAbs_neg, Int.natAbs_neg, Int.natAbs_neg]
set_option maxHeartbeats 4000000 in
theorem specCircle_walk (b off c : Nat) (a1 a2 b1 b2 c1 c2 : Int) (w : World) (hc2 : c ≤ 9223372036854775807) (hb : b < w.heap.size)
    (ha1 : -40 ≤ a1 ∧ a1 ≤ 40) (ha2 : -40 ≤ a2 ∧ a2 ≤ 40) (hb1' : -40 ≤ b1 ∧ b1 ≤ 40) (hb2' : -40 ≤ b2 ∧ b2 ≤ 40) (hc1' : -40 ≤ c1 ∧ c1 ≤ 40) (hc2' : -40 ≤ c2 ∧ c2 ≤ 40)
    (hd : twI a1 a2 b1 b2 c1 c2 ≠ 0)
    (K : Hid (Calls Try.prog 53 #[.slice (some ⟨b, off, none⟩) 3 c] w fun e w' => e = .returned (.bool true) ∧ Below w.heap.size w w'))
    (H3 : Hid (∀ W, Below w.heap.size w W → Rd3 W b off a1 a2 b1 b2 c1 c2)) :
    Calls Try.prog 42 #[.slice (some ⟨b, off, none⟩) 3 c] w fun e w' => e = .returned (.tuple #[.int .i64 ((cxI a1 a2 b1 b2 c1 c2).tdiv (cgI (cxI a1 a2 b1 b2 c1 c2) (cyI a1 a2 b1 b2 c1 c2) (cdI a1 a2 b1 b2 c1 c2))), .int .i64 ((cyI a1 a2 b1 b2 c1 c2).tdiv (cgI (cxI a1 a2 b1 b2 c1 c2) (cyI a1 a2 b1 b2 c1 c2) (cdI a1 a2 b1 b2 c1 c2))), .int .i64 ((cdI a1 a2 b1 b2 c1 c2).tdiv (cgI (cxI a1 a2 b1 b2 c1 c2) (cyI a1 a2 b1 b2 c1 c2) (cdI a1 a2 b1 b2 c1 c2))), .bool true]) ∧ Below w.heap.size w w' := by
  have hX := Lib.hid (cx_other a1 a2 b1 b2 c1 c2)
  have hY := Lib.hid (cy_other a1 a2 b1 b2 c1 c2)
  have hD : Hid (2 * ((b1 - a1) * (c2 - a2) - (b2 - a2) * (c1 - a1)) = cdI a1 a2 b1 b2 c1 c2) := Lib.hid rfl
  have hd0 : cdI a1 a2 b1 b2 c1 c2 ≠ 0 := by unfold cdI; omega
  clear hd
  generalize cxI a1 a2 b1 b2 c1 c2 = X at *
  generalize cyI a1 a2 b1 b2 c1 c2 = Y at *
  generalize cdI a1 a2 b1 b2 c1 c2 = D at *
  have bx0 : -80 ≤ b1 - a1 ∧ b1 - a1 ≤ 80 := by omega
  have by0 : -80 ≤ b2 - a2 ∧ b2 - a2 ≤ 80 := by omega
  have cx0 : -80 ≤ c1 - a1 ∧ c1 - a1 ≤ 80 := by omega
  have cy0 : -80 ≤ c2 - a2 ∧ c2 - a2 ≤ 80 := by omega
  have e1 : IntKind.i64.wrap (b1 - a1) = b1 - a1 := IntWalk.i64_in _ (by omega)
  have e2 : IntKind.i64.wrap (b2 - a2) = b2 - a2 := IntWalk.i64_in _ (by omega)
  have e3 : IntKind.i64.wrap (c1 - a1) = c1 - a1 := IntWalk.i64_in _ (by omega)
  have e4 : IntKind.i64.wrap (c2 - a2) = c2 - a2 := IntWalk.i64_in _ (by omega)
  go_enter Try.func42, Try.ntmps42
  go_wp2_with fail
  refine K.out.mono ?_; rintro e w1 ⟨rfl, hb1⟩
  obtain ⟨x0, x1, x2, x3, x4, x5⟩ := H3.out w1 hb1
  have hbz : b < w1.heap.size := by have := hb1.size; omega
  have hbz2 : b < w1.heap.size + 1 := by omega
  have hbz3 : b < w1.heap.size + 2 := by omega
  have hbz4 : b < w1.heap.size + 3 := by omega
  have nn1 : b ≠ w1.heap.size := by omega
  have nn2 : b ≠ w1.heap.size + 1 := by omega
  have nn3 : b ≠ w1.heap.size + 2 := by omega
  go_upto_region 3 with fail
  go_cut [6, 7, 8] from 22 to 30 (fun p q r wx => ∃ g h k : Nat, p = .pointer (some ⟨g, 0, none⟩) ∧ q = .pointer (some ⟨h, 0, none⟩) ∧ r = .pointer (some ⟨k, 0, none⟩) ∧ Below w1.heap.size w1 wx ∧ g < wx.heap.size ∧ h < wx.heap.size ∧ k < wx.heap.size ∧ wx.cell? ⟨g, 0, none⟩ = some (.int .i64 a1) ∧ wx.cell? ⟨g, 1, none⟩ = some (.int .i64 a2) ∧ wx.cell? ⟨h, 0, none⟩ = some (.int .i64 b1) ∧ wx.cell? ⟨h, 1, none⟩ = some (.int .i64 b2) ∧ wx.cell? ⟨k, 0, none⟩ = some (.int .i64 c1) ∧ wx.cell? ⟨k, 1, none⟩ = some (.int .i64 c2))
  case first =>
    clear hX hY hD hd0 e1 e2 e3 e4 bx0 by0 cx0 cy0
    go_region
    all_goals
      go_wp2_with fail
      go_meet
      case rel =>
        refine ⟨_, _, _, rfl, rfl, rfl, ?_, by simp <;> omega, by simp <;> omega, by simp <;> omega, by go_simp, by go_simp, by go_simp, by go_simp, by go_simp, by go_simp⟩
        repeat (first | with_reducible assumption | with_reducible exact Below.refl _ _ | with_reducible apply Below.drew | ((with_reducible refine Below.setCell ?_ ?_ _); rotate_left; (first | exact Nat.le_refl _ | omega | (simp <;> omega))) | ((with_reducible refine Below.alloc ?_ ?_ _); rotate_left; (first | omega | (simp <;> omega))))
  case rest =>
  obtain ⟨g, h, k, rfl, rfl, rfl, B0, z1, z2, z3, y1, y2, y3, y4, y5, y6⟩ := hcut
  clear x0 x1 x2 x3 x4 x5 hbz hbz2 hbz3 hbz4 nn1 nn2 nn3
  have B1 := hb1.trans (B0.mono hb1.size)
  go_wp2_with fail
  refine wp_region_B (fun W => Below wc.heap.size wc W) (by kernel_rfl) (by repeat (first | exact Below.refl _ _ | apply Below.drew)) ?_
  first | refine wpB_skip 0 rfl (by kernel_rfl) (by kernel_rfl) (by kernel_rfl) (by rfl) ?_ | (refine wpB_text 0 (v := ?_) rfl (by kernel_rfl) (by kernel_rfl) (by kernel_rfl) (by rfl) (fun W hW => ?_) ?_; rotate_left; (have k1 := hW; obtain ⟨hc1, hf1⟩ := bcell k1; go_simp; refine comes_v ?_; exact k1))
  (try simp only [Act.put, List.setIfInBounds_toArray, List.set_cons_zero, List.set_cons_succ])
  first | refine wpB_skip 1 rfl (by kernel_rfl) (by kernel_rfl) (by kernel_rfl) (by rfl) ?_ | (refine wpB_text 1 (v := ?_) rfl (by kernel_rfl) (by kernel_rfl) (by kernel_rfl) (by rfl) (fun W hW => ?_) ?_; rotate_left; (have k1 := hW; obtain ⟨hc1, hf1⟩ := bcell k1; go_simp; refine comes_v ?_; exact k1))
  (try simp only [Act.put, List.setIfInBounds_toArray, List.set_cons_zero, List.set_cons_succ])
  first | refine wpB_skip 2 rfl (by kernel_rfl) (by kernel_rfl) (by kernel_rfl) (by rfl) ?_ | (refine wpB_text 2 (v := ?_) rfl (by kernel_rfl) (by kernel_rfl) (by kernel_rfl) (by rfl) (fun W hW => ?_) ?_; rotate_left; (have k1 := hW; obtain ⟨hc1, hf1⟩ := bcell k1; go_simp; refine comes_v ?_; exact k1))
  (try simp only [Act.put, List.setIfInBounds_toArray, List.set_cons_zero, List.set_cons_succ])
  first | refine wpB_skip 3 rfl (by kernel_rfl) (by kernel_rfl) (by kernel_rfl) (by rfl) ?_ | (refine wpB_text 3 (v := ?_) rfl (by kernel_rfl) (by kernel_rfl) (by kernel_rfl) (by rfl) (fun W hW => ?_) ?_; rotate_left; (have k1 := hW; obtain ⟨hc1, hf1⟩ := bcell k1; go_simp; refine comes_v ?_; exact k1))
  (try simp only [Act.put, List.setIfInBounds_toArray, List.set_cons_zero, List.set_cons_succ])
  first | refine wpB_skip 4 rfl (by kernel_rfl) (by kernel_rfl) (by kernel_rfl) (by rfl) ?_ | (refine wpB_text 4 (v := ?_) rfl (by kernel_rfl) (by kernel_rfl) (by kernel_rfl) (by rfl) (fun W hW => ?_) ?_; rotate_left; (have k1 := hW; obtain ⟨hc1, hf1⟩ := bcell k1; go_simp; refine comes_v ?_; exact k1))
  (try simp only [Act.put, List.setIfInBounds_toArray, List.set_cons_zero, List.set_cons_succ])
  first | refine wpB_skip 5 rfl (by kernel_rfl) (by kernel_rfl) (by kernel_rfl) (by rfl) ?_ | (refine wpB_text 5 (v := ?_) rfl (by kernel_rfl) (by kernel_rfl) (by kernel_rfl) (by rfl) (fun W hW => ?_) ?_; rotate_left; (have k1 := hW; obtain ⟨hc1, hf1⟩ := bcell k1; go_simp; refine comes_v ?_; exact k1))
  (try simp only [Act.put, List.setIfInBounds_toArray, List.set_cons_zero, List.set_cons_succ])
  first | refine wpB_skip 6 rfl (by kernel_rfl) (by kernel_rfl) (by kernel_rfl) (by rfl) ?_ | (refine wpB_text 6 (v := ?_) rfl (by kernel_rfl) (by kernel_rfl) (by kernel_rfl) (by rfl) (fun W hW => ?_) ?_; rotate_left; (have k1 := hW; obtain ⟨hc1, hf1⟩ := bcell k1; go_simp; refine comes_v ?_; exact k1))
  (try simp only [Act.put, List.setIfInBounds_toArray, List.set_cons_zero, List.set_cons_succ])
  first | refine wpB_skip 7 rfl (by kernel_rfl) (by kernel_rfl) (by kernel_rfl) (by rfl) ?_ | (refine wpB_text 7 (v := ?_) rfl (by kernel_rfl) (by kernel_rfl) (by kernel_rfl) (by rfl) (fun W hW => ?_) ?_; rotate_left; (have k1 := hW; obtain ⟨hc1, hf1⟩ := bcell k1; go_simp; refine comes_v ?_; exact k1))
  (try simp only [Act.put, List.setIfInBounds_toArray, List.set_cons_zero, List.set_cons_succ])
  first | refine wpB_skip 8 rfl (by kernel_rfl) (by kernel_rfl) (by kernel_rfl) (by rfl) ?_ | (refine wpB_text 8 (v := ?_) rfl (by kernel_rfl) (by kernel_rfl) (by kernel_rfl) (by rfl) (fun W hW => ?_) ?_; rotate_left; (have k1 := hW; obtain ⟨hc1, hf1⟩ := bcell k1; go_simp; refine comes_v ?_; exact k1))
  (try simp only [Act.put, List.setIfInBounds_toArray, List.set_cons_zero, List.set_cons_succ])
  first | refine wpB_skip 9 rfl (by kernel_rfl) (by kernel_rfl) (by kernel_rfl) (by rfl) ?_ | (refine wpB_text 9 (v := ?_) rfl (by kernel_rfl) (by kernel_rfl) (by kernel_rfl) (by rfl) (fun W hW => ?_) ?_; rotate_left; (have k1 := hW; obtain ⟨hc1, hf1⟩ := bcell k1; go_simp; refine comes_v ?_; exact k1))
  (try simp only [Act.put, List.setIfInBounds_toArray, List.set_cons_zero, List.set_cons_succ])
  first | refine wpB_skip 10 rfl (by kernel_rfl) (by kernel_rfl) (by kernel_rfl) (by rfl) ?_ | (refine wpB_text 10 (v := ?_) rfl (by kernel_rfl) (by kernel_rfl) (by kernel_rfl) (by rfl) (fun W hW => ?_) ?_; rotate_left; (have k1 := hW; obtain ⟨hc1, hf1⟩ := bcell k1; go_simp; refine comes_v ?_; exact k1))
  (try simp only [Act.put, List.setIfInBounds_toArray, List.set_cons_zero, List.set_cons_succ])
  first | refine wpB_skip 11 rfl (by kernel_rfl) (by kernel_rfl) (by kernel_rfl) (by rfl) ?_ | (refine wpB_text 11 (v := ?_) rfl (by kernel_rfl) (by kernel_rfl) (by kernel_rfl) (by rfl) (fun W hW => ?_) ?_; rotate_left; (have k1 := hW; obtain ⟨hc1, hf1⟩ := bcell k1; go_simp; refine comes_v ?_; exact k1))
  (try simp only [Act.put, List.setIfInBounds_toArray, List.set_cons_zero, List.set_cons_succ])
  first | refine wpB_skip 12 rfl (by kernel_rfl) (by kernel_rfl) (by kernel_rfl) (by rfl) ?_ | (refine wpB_text 12 (v := ?_) rfl (by kernel_rfl) (by kernel_rfl) (by kernel_rfl) (by rfl) (fun W hW => ?_) ?_; rotate_left; (have k1 := hW; obtain ⟨hc1, hf1⟩ := bcell k1; go_simp; refine comes_v ?_; exact k1))
  (try simp only [Act.put, List.setIfInBounds_toArray, List.set_cons_zero, List.set_cons_succ])
  first | refine wpB_skip 13 rfl (by kernel_rfl) (by kernel_rfl) (by kernel_rfl) (by rfl) ?_ | (refine wpB_text 13 (v := ?_) rfl (by kernel_rfl) (by kernel_rfl) (by kernel_rfl) (by rfl) (fun W hW => ?_) ?_; rotate_left; (have k1 := hW; obtain ⟨hc1, hf1⟩ := bcell k1; go_simp; refine comes_v ?_; exact k1))
  (try simp only [Act.put, List.setIfInBounds_toArray, List.set_cons_zero, List.set_cons_succ])
  first | refine wpB_skip 14 rfl (by kernel_rfl) (by kernel_rfl) (by kernel_rfl) (by rfl) ?_ | (refine wpB_text 14 (v := ?_) rfl (by kernel_rfl) (by kernel_rfl) (by kernel_rfl) (by rfl) (fun W hW => ?_) ?_; rotate_left; (have k1 := hW; obtain ⟨hc1, hf1⟩ := bcell k1; go_simp; refine comes_v ?_; exact k1))
  (try simp only [Act.put, List.setIfInBounds_toArray, List.set_cons_zero, List.set_cons_succ])
  first | refine wpB_skip 15 rfl (by kernel_rfl) (by kernel_rfl) (by kernel_rfl) (by rfl) ?_ | (refine wpB_text 15 (v := ?_) rfl (by kernel_rfl) (by kernel_rfl) (by kernel_rfl) (by rfl) (fun W hW => ?_) ?_; rotate_left; (have k1 := hW; obtain ⟨hc1, hf1⟩ := bcell k1; go_simp; refine comes_v ?_; exact k1))
  (try simp only [Act.put, List.setIfInBounds_toArray, List.set_cons_zero, List.set_cons_succ])
  first | refine wpB_skip 16 rfl (by kernel_rfl) (by kernel_rfl) (by kernel_rfl) (by rfl) ?_ | (refine wpB_text 16 (v := ?_) rfl (by kernel_rfl) (by kernel_rfl) (by kernel_rfl) (by rfl) (fun W hW => ?_) ?_; rotate_left; (have k1 := hW; obtain ⟨hc1, hf1⟩ := bcell k1; go_simp; refine comes_v ?_; exact k1))
  (try simp only [Act.put, List.setIfInBounds_toArray, List.set_cons_zero, List.set_cons_succ])
  first | refine wpB_skip 17 rfl (by kernel_rfl) (by kernel_rfl) (by kernel_rfl) (by rfl) ?_ | (refine wpB_text 17 (v := ?_) rfl (by kernel_rfl) (by kernel_rfl) (by kernel_rfl) (by rfl) (fun W hW => ?_) ?_; rotate_left; (have k1 := hW; obtain ⟨hc1, hf1⟩ := bcell k1; go_simp; refine comes_v ?_; exact k1))
  (try simp only [Act.put, List.setIfInBounds_toArray, List.set_cons_zero, List.set_cons_succ])
  first | refine wpB_skip 18 rfl (by kernel_rfl) (by kernel_rfl) (by kernel_rfl) (by rfl) ?_ | (refine wpB_text 18 (v := ?_) rfl (by kernel_rfl) (by kernel_rfl) (by kernel_rfl) (by rfl) (fun W hW => ?_) ?_; rotate_left; (have k1 := hW; obtain ⟨hc1, hf1⟩ := bcell k1; go_simp; refine comes_v ?_; exact k1))
  (try simp only [Act.put, List.setIfInBounds_toArray, List.set_cons_zero, List.set_cons_succ])
  first | refine wpB_skip 19 rfl (by kernel_rfl) (by kernel_rfl) (by kernel_rfl) (by rfl) ?_ | (refine wpB_text 19 (v := ?_) rfl (by kernel_rfl) (by kernel_rfl) (by kernel_rfl) (by rfl) (fun W hW => ?_) ?_; rotate_left; (have k1 := hW; obtain ⟨hc1, hf1⟩ := bcell k1; go_simp; refine comes_v ?_; exact k1))
  (try simp only [Act.put, List.setIfInBounds_toArray, List.set_cons_zero, List.set_cons_succ])
  first | refine wpB_skip 20 rfl (by kernel_rfl) (by kernel_rfl) (by kernel_rfl) (by rfl) ?_ | (refine wpB_text 20 (v := ?_) rfl (by kernel_rfl) (by kernel_rfl) (by kernel_rfl) (by rfl) (fun W hW => ?_) ?_; rotate_left; (have k1 := hW; obtain ⟨hc1, hf1⟩ := bcell k1; go_simp; refine comes_v ?_; exact k1))
  (try simp only [Act.put, List.setIfInBounds_toArray, List.set_cons_zero, List.set_cons_succ])
  first | refine wpB_skip 21 rfl (by kernel_rfl) (by kernel_rfl) (by kernel_rfl) (by rfl) ?_ | (refine wpB_text 21 (v := ?_) rfl (by kernel_rfl) (by kernel_rfl) (by kernel_rfl) (by rfl) (fun W hW => ?_) ?_; rotate_left; (have k1 := hW; obtain ⟨hc1, hf1⟩ := bcell k1; go_simp; refine comes_v ?_; exact k1))
  (try simp only [Act.put, List.setIfInBounds_toArray, List.set_cons_zero, List.set_cons_succ])
  first | refine wpB_skip 22 rfl (by kernel_rfl) (by kernel_rfl) (by kernel_rfl) (by rfl) ?_ | (refine wpB_text 22 (v := ?_) rfl (by kernel_rfl) (by kernel_rfl) (by kernel_rfl) (by rfl) (fun W hW => ?_) ?_; rotate_left; (have k1 := hW; obtain ⟨hc1, hf1⟩ := bcell k1; go_simp; refine comes_v ?_; exact k1))
  (try simp only [Act.put, List.setIfInBounds_toArray, List.set_cons_zero, List.set_cons_succ])
  first | refine wpB_skip 23 rfl (by kernel_rfl) (by kernel_rfl) (by kernel_rfl) (by rfl) ?_ | (refine wpB_text 23 (v := ?_) rfl (by kernel_rfl) (by kernel_rfl) (by kernel_rfl) (by rfl) (fun W hW => ?_) ?_; rotate_left; (have k1 := hW; obtain ⟨hc1, hf1⟩ := bcell k1; go_simp; refine comes_v ?_; exact k1))
  (try simp only [Act.put, List.setIfInBounds_toArray, List.set_cons_zero, List.set_cons_succ])
  refine wpB_done (by kernel_rfl) ?_ _
  intro W hW; have k1 := hW
  obtain ⟨hc1, hf1⟩ := bcell k1
  have q1 := (hc1 _ 0 z1).trans y1
  have q2 := (hc1 _ 1 z1).trans y2
  have B2 := B1.trans (k1.mono B1.size)
  have zW : g < W.heap.size := by have := k1.size; omega
  clear e1 e2 e3 e4 hc1 hf1 y1 y2 y3 y4 y5 y6 z1 z2 z3 B0 B1 k1 K H3
  generalize hbx : b1 - a1 = bx at *
  generalize hby : b2 - a2 = by_ at *
  generalize hcx : c1 - a1 = cx at *
  generalize hcy : c2 - a2 = cy at *
  clear hbx hby hcx hcy
  obtain ⟨s1, s2⟩ := sq80 bx0
  obtain ⟨s3, s4⟩ := sq80 by0
  obtain ⟨s5, s6⟩ := sq80 cx0
  obtain ⟨s7, s8⟩ := sq80 cy0
  have m1 := mul_bd (x := bx) (y := cy) (m := 80) (n := 80) (by omega) (by omega) (by omega) (by omega)
  have m2 := mul_bd (x := by_) (y := cx) (m := 80) (n := 80) (by omega) (by omega) (by omega) (by omega)
  have m3 := mul_bd (x := cy) (y := bx * bx + by_ * by_) (m := 80) (n := 12800) (by omega) (by omega) (by omega) (by omega)
  have m4 := mul_bd (x := by_) (y := cx * cx + cy * cy) (m := 80) (n := 12800) (by omega) (by omega) (by omega) (by omega)
  have m5 := mul_bd (x := bx) (y := cx * cx + cy * cy) (m := 80) (n := 12800) (by omega) (by omega) (by omega) (by omega)
  have m6 := mul_bd (x := cx) (y := bx * bx + by_ * by_) (m := 80) (n := 12800) (by omega) (by omega) (by omega) (by omega)
  have m7 := mul_bd (x := a1) (y := 2 * (bx * cy - by_ * cx)) (m := 40) (n := 25600) (by omega) (by omega) (by omega) (by omega)
  have m8 := mul_bd (x := a2) (y := 2 * (bx * cy - by_ * cx)) (m := 40) (n := 25600) (by omega) (by omega) (by omega) (by omega)
  obtain ⟨n1, n2⟩ := m1
  obtain ⟨n3, n4⟩ := m2
  obtain ⟨n5, n6⟩ := m3
  obtain ⟨n7, n8⟩ := m4
  obtain ⟨n9, n10⟩ := m5
  obtain ⟨n11, n12⟩ := m6
  obtain ⟨n13, n14⟩ := m7
  obtain ⟨n15, n16⟩ := m8
  have X1 : -10000000 ≤ X ∧ X ≤ 10000000 := by have := hX.out; omega
  have Y1 : -10000000 ≤ Y ∧ Y ≤ 10000000 := by have := hY.out; omega
  have D1 : -10000000 ≤ D ∧ D ≤ 10000000 := by have := hD.out; omega
  obtain ⟨X2, X3⟩ := X1
  obtain ⟨Y2, Y3⟩ := Y1
  obtain ⟨D2, D3⟩ := D1
  go_upto_region 9 with fail
  rw [hX.out, hY.out, hD.out]
  clear hX hY hD s1 s2 s3 s4 s5 s6 s7 s8 n1 n2 n3 n4 n5 n6 n7 n8 n9 n10 n11 n12 n13 n14 n15 n16 bx0 by0 cx0 cy0
  generalize hP : bx * bx + by_ * by_ = P at *
  generalize hQ : cx * cx + cy * cy = Q at *
  clear hP hQ
  by_cases hneg : D < 0
  · have HG := Lib.hid (cg_neg (X := X) (Y := Y) hneg)
    have HB := gcd_le_add (-X).natAbs (-Y).natAbs
    have HC := gcd_le_add ((Nat.gcd (-X).natAbs (-Y).natAbs : Nat) : Int).natAbs (-D).natAbs
    have HP := Nat.gcd_pos_of_pos_right (((Nat.gcd (-X).natAbs (-Y).natAbs : Nat) : Int).natAbs) (show 0 < (-D).natAbs by omega)
    have K1 := Lib.hid (fun W => pgCommonW_any (-X) (-Y) W (by omega) (by omega) (by omega) (by omega))
    have K2 := Lib.hid (fun W => pgCommonW_any ((Nat.gcd (-X).natAbs (-Y).natAbs : Nat) : Int) (-D) W (by omega) (by omega) (by omega) (by omega))
    have R1 := Lib.hid (fun g : Int => (show X.tdiv (-g) = (-X).tdiv g by rw [Int.tdiv_neg, Int.neg_tdiv]))
    have R2 := Lib.hid (fun g : Int => (show Y.tdiv (-g) = (-Y).tdiv g by rw [Int.tdiv_neg, Int.neg_tdiv]))
    have R3 := Lib.hid (fun g : Int => (show D.tdiv (-g) = (-D).tdiv g by rw [Int.tdiv_neg, Int.neg_tdiv]))
    generalize Nat.gcd ((Nat.gcd (-X).natAbs (-Y).natAbs : Nat) : Int).natAbs (-D).natAbs = G at *
    generalize Nat.gcd (-X).natAbs (-Y).natAbs = G1 at *
    have t1 := tdiv_le (-X) G
    have t2 := tdiv_le (-Y) G
    have t3 := tdiv_le (-D) G
    have e1 : IntKind.i64.wrap ((-X).tdiv G) = (-X).tdiv G := IntWalk.i64_in _ (by omega)
    have e2 : IntKind.i64.wrap ((-Y).tdiv G) = (-Y).tdiv G := IntWalk.i64_in _ (by omega)
    have e3 : IntKind.i64.wrap ((-D).tdiv G) = (-D).tdiv G := IntWalk.i64_in _ (by omega)
    have e4 : ¬ G = 0 := by omega
    have e5 : ¬ (G : Int) = 0 := by omega
    clear t1 t2 t3 HB HC HP
    go_wp2_with fail
    refine (K1.out _).mono ?_; rintro e w3 ⟨rfl, hb3⟩
    have B3 := B2.trans (hb3.mono B2.size)
    go_wp2_with fail
    refine (K2.out _).mono ?_; rintro e w4 ⟨rfl, hb4⟩
    have B4 := B3.trans (hb4.mono B3.size)
    clear hb3 hb4 B3 B2 K1 K2 q1 q2 zW
    go_wp2_with fail
    refine wp_region_B (fun W => Below w4.heap.size w4 W) (by kernel_rfl) (by repeat (first | exact Below.refl _ _ | apply Below.drew)) ?_
    first | refine wpB_skip 0 rfl (by kernel_rfl) (by kernel_rfl) (by kernel_rfl) (by rfl) ?_ | (refine wpB_text 0 (v := ?_) rfl (by kernel_rfl) (by kernel_rfl) (by kernel_rfl) (by rfl) (fun W hW => ?_) ?_; rotate_left; (have k1 := hW; obtain ⟨hc1, hf1⟩ := bcell k1; go_simp; refine comes_v ?_; exact k1))
    (try simp only [Act.put, List.setIfInBounds_toArray, List.set_cons_zero, List.set_cons_succ])
    first | refine wpB_skip 1 rfl (by kernel_rfl) (by kernel_rfl) (by kernel_rfl) (by rfl) ?_ | (refine wpB_text 1 (v := ?_) rfl (by kernel_rfl) (by kernel_rfl) (by kernel_rfl) (by rfl) (fun W hW => ?_) ?_; rotate_left; (have k1 := hW; obtain ⟨hc1, hf1⟩ := bcell k1; go_simp; refine comes_v ?_; exact k1))
    (try simp only [Act.put, List.setIfInBounds_toArray, List.set_cons_zero, List.set_cons_succ])
    first | refine wpB_skip 2 rfl (by kernel_rfl) (by kernel_rfl) (by kernel_rfl) (by rfl) ?_ | (refine wpB_text 2 (v := ?_) rfl (by kernel_rfl) (by kernel_rfl) (by kernel_rfl) (by rfl) (fun W hW => ?_) ?_; rotate_left; (have k1 := hW; obtain ⟨hc1, hf1⟩ := bcell k1; go_simp; refine comes_v ?_; exact k1))
    (try simp only [Act.put, List.setIfInBounds_toArray, List.set_cons_zero, List.set_cons_succ])
    first | refine wpB_skip 3 rfl (by kernel_rfl) (by kernel_rfl) (by kernel_rfl) (by rfl) ?_ | (refine wpB_text 3 (v := ?_) rfl (by kernel_rfl) (by kernel_rfl) (by kernel_rfl) (by rfl) (fun W hW => ?_) ?_; rotate_left; (have k1 := hW; obtain ⟨hc1, hf1⟩ := bcell k1; go_simp; refine comes_v ?_; exact k1))
    (try simp only [Act.put, List.setIfInBounds_toArray, List.set_cons_zero, List.set_cons_succ])
    first | refine wpB_skip 4 rfl (by kernel_rfl) (by kernel_rfl) (by kernel_rfl) (by rfl) ?_ | (refine wpB_text 4 (v := ?_) rfl (by kernel_rfl) (by kernel_rfl) (by kernel_rfl) (by rfl) (fun W hW => ?_) ?_; rotate_left; (have k1 := hW; obtain ⟨hc1, hf1⟩ := bcell k1; go_simp; refine comes_v ?_; exact k1))
    (try simp only [Act.put, List.setIfInBounds_toArray, List.set_cons_zero, List.set_cons_succ])
    first | refine wpB_skip 5 rfl (by kernel_rfl) (by kernel_rfl) (by kernel_rfl) (by rfl) ?_ | (refine wpB_text 5 (v := ?_) rfl (by kernel_rfl) (by kernel_rfl) (by kernel_rfl) (by rfl) (fun W hW => ?_) ?_; rotate_left; (have k1 := hW; obtain ⟨hc1, hf1⟩ := bcell k1; go_simp; refine comes_v ?_; exact k1))
    (try simp only [Act.put, List.setIfInBounds_toArray, List.set_cons_zero, List.set_cons_succ])
    first | refine wpB_skip 6 rfl (by kernel_rfl) (by kernel_rfl) (by kernel_rfl) (by rfl) ?_ | (refine wpB_text 6 (v := ?_) rfl (by kernel_rfl) (by kernel_rfl) (by kernel_rfl) (by rfl) (fun W hW => ?_) ?_; rotate_left; (have k1 := hW; obtain ⟨hc1, hf1⟩ := bcell k1; go_simp; refine comes_v ?_; exact k1))
    (try simp only [Act.put, List.setIfInBounds_toArray, List.set_cons_zero, List.set_cons_succ])
    first | refine wpB_skip 7 rfl (by kernel_rfl) (by kernel_rfl) (by kernel_rfl) (by rfl) ?_ | (refine wpB_text 7 (v := ?_) rfl (by kernel_rfl) (by kernel_rfl) (by kernel_rfl) (by rfl) (fun W hW => ?_) ?_; rotate_left; (have k1 := hW; obtain ⟨hc1, hf1⟩ := bcell k1; go_simp; refine comes_v ?_; exact k1))
    (try simp only [Act.put, List.setIfInBounds_toArray, List.set_cons_zero, List.set_cons_succ])
    first | refine wpB_skip 8 rfl (by kernel_rfl) (by kernel_rfl) (by kernel_rfl) (by rfl) ?_ | (refine wpB_text 8 (v := ?_) rfl (by kernel_rfl) (by kernel_rfl) (by kernel_rfl) (by rfl) (fun W hW => ?_) ?_; rotate_left; (have k1 := hW; obtain ⟨hc1, hf1⟩ := bcell k1; go_simp; refine comes_v ?_; exact k1))
    (try simp only [Act.put, List.setIfInBounds_toArray, List.set_cons_zero, List.set_cons_succ])
    first | refine wpB_skip 9 rfl (by kernel_rfl) (by kernel_rfl) (by kernel_rfl) (by rfl) ?_ | (refine wpB_text 9 (v := ?_) rfl (by kernel_rfl) (by kernel_rfl) (by kernel_rfl) (by rfl) (fun W hW => ?_) ?_; rotate_left; (have k1 := hW; obtain ⟨hc1, hf1⟩ := bcell k1; go_simp; refine comes_v ?_; exact k1))
    (try simp only [Act.put, List.setIfInBounds_toArray, List.set_cons_zero, List.set_cons_succ])
    first | refine wpB_skip 10 rfl (by kernel_rfl) (by kernel_rfl) (by kernel_rfl) (by rfl) ?_ | (refine wpB_text 10 (v := ?_) rfl (by kernel_rfl) (by kernel_rfl) (by kernel_rfl) (by rfl) (fun W hW => ?_) ?_; rotate_left; (have k1 := hW; obtain ⟨hc1, hf1⟩ := bcell k1; go_simp; refine comes_v ?_; exact k1))
    (try simp only [Act.put, List.setIfInBounds_toArray, List.set_cons_zero, List.set_cons_succ])
    first | refine wpB_skip 11 rfl (by kernel_rfl) (by kernel_rfl) (by kernel_rfl) (by rfl) ?_ | (refine wpB_text 11 (v := ?_) rfl (by kernel_rfl) (by kernel_rfl) (by kernel_rfl) (by rfl) (fun W hW => ?_) ?_; rotate_left; (have k1 := hW; obtain ⟨hc1, hf1⟩ := bcell k1; go_simp; refine comes_v ?_; exact k1))
    (try simp only [Act.put, List.setIfInBounds_toArray, List.set_cons_zero, List.set_cons_succ])
    first | refine wpB_skip 12 rfl (by kernel_rfl) (by kernel_rfl) (by kernel_rfl) (by rfl) ?_ | (refine wpB_text 12 (v := ?_) rfl (by kernel_rfl) (by kernel_rfl) (by kernel_rfl) (by rfl) (fun W hW => ?_) ?_; rotate_left; (have k1 := hW; obtain ⟨hc1, hf1⟩ := bcell k1; go_simp; refine comes_v ?_; exact k1))
    (try simp only [Act.put, List.setIfInBounds_toArray, List.set_cons_zero, List.set_cons_succ])
    refine wpB_done (by kernel_rfl) ?_ _
    intro W hW; have k1 := hW
    have B5 := B4.trans (k1.mono B4.size)
    go_wp2_with fail
    have f1 : IntKind.i64.wrap (-(X.tdiv G)) = -(X.tdiv G) := by rw [← Int.neg_tdiv]; exact e1
    have f2 : IntKind.i64.wrap (-(Y.tdiv G)) = -(Y.tdiv G) := by rw [← Int.neg_tdiv]; exact e2
    have f3 : IntKind.i64.wrap (-(D.tdiv G)) = -(D.tdiv G) := by rw [← Int.neg_tdiv]; exact e3
    refine bodyPost_ret (v := .tuple #[.int .i64 ((-X).tdiv G), .int .i64 ((-Y).tdiv G), .int .i64 ((-D).tdiv G), .bool true]) (by simp [results, Try.results42, go_sem, f1, f2, f3]) rfl ⟨by rw [HG.out, R1.out, R2.out, R3.out], B5⟩
  · have HG := Lib.hid (cg_pos (X := X) (Y := Y) hneg)
    have HB := gcd_le_add X.natAbs Y.natAbs
    have HC := gcd_le_add ((Nat.gcd X.natAbs Y.natAbs : Nat) : Int).natAbs D.natAbs
    have HP := Nat.gcd_pos_of_pos_right (((Nat.gcd X.natAbs Y.natAbs : Nat) : Int).natAbs) (show 0 < D.natAbs by omega)
    have K1 := Lib.hid (fun W => pgCommonW_any X Y W (by omega) (by omega) (by omega) (by omega))
    have K2 := Lib.hid (fun W => pgCommonW_any ((Nat.gcd X.natAbs Y.natAbs : Nat) : Int) D W (by omega) (by omega) (by omega) (by omega))
    generalize Nat.gcd ((Nat.gcd X.natAbs Y.natAbs : Nat) : Int).natAbs D.natAbs = G at *
    generalize Nat.gcd X.natAbs Y.natAbs = G1 at *
    have t1 := tdiv_le X G
    have t2 := tdiv_le Y G
    have t3 := tdiv_le D G
    have e1 : IntKind.i64.wrap (X.tdiv G) = X.tdiv G := IntWalk.i64_in _ (by omega)
    have e2 : IntKind.i64.wrap (Y.tdiv G) = Y.tdiv G := IntWalk.i64_in _ (by omega)
    have e3 : IntKind.i64.wrap (D.tdiv G) = D.tdiv G := IntWalk.i64_in _ (by omega)
    have e4 : ¬ G = 0 := by omega
    have e5 : ¬ (G : Int) = 0 := by omega
    clear t1 t2 t3 HB HC HP
    go_wp2_with fail
    refine (K1.out _).mono ?_; rintro e w3 ⟨rfl, hb3⟩
    have B3 := B2.trans (hb3.mono B2.size)
    go_wp2_with fail
    refine (K2.out _).mono ?_; rintro e w4 ⟨rfl, hb4⟩
    have B4 := B3.trans (hb4.mono B3.size)
    clear hb3 hb4 B3 B2 K1 K2 q1 q2 zW
    go_wp2_with fail
    refine wp_region_B (fun W => Below w4.heap.size w4 W) (by kernel_rfl) (by repeat (first | exact Below.refl _ _ | apply Below.drew)) ?_
    first | refine wpB_skip 0 rfl (by kernel_rfl) (by kernel_rfl) (by kernel_rfl) (by rfl) ?_ | (refine wpB_text 0 (v := ?_) rfl (by kernel_rfl) (by kernel_rfl) (by kernel_rfl) (by rfl) (fun W hW => ?_) ?_; rotate_left; (have k1 := hW; obtain ⟨hc1, hf1⟩ := bcell k1; go_simp; refine comes_v ?_; exact k1))
    (try simp only [Act.put, List.setIfInBounds_toArray, List.set_cons_zero, List.set_cons_succ])
    first | refine wpB_skip 1 rfl (by kernel_rfl) (by kernel_rfl) (by kernel_rfl) (by rfl) ?_ | (refine wpB_text 1 (v := ?_) rfl (by kernel_rfl) (by kernel_rfl) (by kernel_rfl) (by rfl) (fun W hW => ?_) ?_; rotate_left; (have k1 := hW; obtain ⟨hc1, hf1⟩ := bcell k1; go_simp; refine comes_v ?_; exact k1))
    (try simp only [Act.put, List.setIfInBounds_toArray, List.set_cons_zero, List.set_cons_succ])
    first | refine wpB_skip 2 rfl (by kernel_rfl) (by kernel_rfl) (by kernel_rfl) (by rfl) ?_ | (refine wpB_text 2 (v := ?_) rfl (by kernel_rfl) (by kernel_rfl) (by kernel_rfl) (by rfl) (fun W hW => ?_) ?_; rotate_left; (have k1 := hW; obtain ⟨hc1, hf1⟩ := bcell k1; go_simp; refine comes_v ?_; exact k1))
    (try simp only [Act.put, List.setIfInBounds_toArray, List.set_cons_zero, List.set_cons_succ])
    first | refine wpB_skip 3 rfl (by kernel_rfl) (by kernel_rfl) (by kernel_rfl) (by rfl) ?_ | (refine wpB_text 3 (v := ?_) rfl (by kernel_rfl) (by kernel_rfl) (by kernel_rfl) (by rfl) (fun W hW => ?_) ?_; rotate_left; (have k1 := hW; obtain ⟨hc1, hf1⟩ := bcell k1; go_simp; refine comes_v ?_; exact k1))
    (try simp only [Act.put, List.setIfInBounds_toArray, List.set_cons_zero, List.set_cons_succ])
    first | refine wpB_skip 4 rfl (by kernel_rfl) (by kernel_rfl) (by kernel_rfl) (by rfl) ?_ | (refine wpB_text 4 (v := ?_) rfl (by kernel_rfl) (by kernel_rfl) (by kernel_rfl) (by rfl) (fun W hW => ?_) ?_; rotate_left; (have k1 := hW; obtain ⟨hc1, hf1⟩ := bcell k1; go_simp; refine comes_v ?_; exact k1))
    (try simp only [Act.put, List.setIfInBounds_toArray, List.set_cons_zero, List.set_cons_succ])
    first | refine wpB_skip 5 rfl (by kernel_rfl) (by kernel_rfl) (by kernel_rfl) (by rfl) ?_ | (refine wpB_text 5 (v := ?_) rfl (by kernel_rfl) (by kernel_rfl) (by kernel_rfl) (by rfl) (fun W hW => ?_) ?_; rotate_left; (have k1 := hW; obtain ⟨hc1, hf1⟩ := bcell k1; go_simp; refine comes_v ?_; exact k1))
    (try simp only [Act.put, List.setIfInBounds_toArray, List.set_cons_zero, List.set_cons_succ])
    first | refine wpB_skip 6 rfl (by kernel_rfl) (by kernel_rfl) (by kernel_rfl) (by rfl) ?_ | (refine wpB_text 6 (v := ?_) rfl (by kernel_rfl) (by kernel_rfl) (by kernel_rfl) (by rfl) (fun W hW => ?_) ?_; rotate_left; (have k1 := hW; obtain ⟨hc1, hf1⟩ := bcell k1; go_simp; refine comes_v ?_; exact k1))
    (try simp only [Act.put, List.setIfInBounds_toArray, List.set_cons_zero, List.set_cons_succ])
    first | refine wpB_skip 7 rfl (by kernel_rfl) (by kernel_rfl) (by kernel_rfl) (by rfl) ?_ | (refine wpB_text 7 (v := ?_) rfl (by kernel_rfl) (by kernel_rfl) (by kernel_rfl) (by rfl) (fun W hW => ?_) ?_; rotate_left; (have k1 := hW; obtain ⟨hc1, hf1⟩ := bcell k1; go_simp; refine comes_v ?_; exact k1))
    (try simp only [Act.put, List.setIfInBounds_toArray, List.set_cons_zero, List.set_cons_succ])
    first | refine wpB_skip 8 rfl (by kernel_rfl) (by kernel_rfl) (by kernel_rfl) (by rfl) ?_ | (refine wpB_text 8 (v := ?_) rfl (by kernel_rfl) (by kernel_rfl) (by kernel_rfl) (by rfl) (fun W hW => ?_) ?_; rotate_left; (have k1 := hW; obtain ⟨hc1, hf1⟩ := bcell k1; go_simp; refine comes_v ?_; exact k1))
    (try simp only [Act.put, List.setIfInBounds_toArray, List.set_cons_zero, List.set_cons_succ])
    first | refine wpB_skip 9 rfl (by kernel_rfl) (by kernel_rfl) (by kernel_rfl) (by rfl) ?_ | (refine wpB_text 9 (v := ?_) rfl (by kernel_rfl) (by kernel_rfl) (by kernel_rfl) (by rfl) (fun W hW => ?_) ?_; rotate_left; (have k1 := hW; obtain ⟨hc1, hf1⟩ := bcell k1; go_simp; refine comes_v ?_; exact k1))
    (try simp only [Act.put, List.setIfInBounds_toArray, List.set_cons_zero, List.set_cons_succ])
    first | refine wpB_skip 10 rfl (by kernel_rfl) (by kernel_rfl) (by kernel_rfl) (by rfl) ?_ | (refine wpB_text 10 (v := ?_) rfl (by kernel_rfl) (by kernel_rfl) (by kernel_rfl) (by rfl) (fun W hW => ?_) ?_; rotate_left; (have k1 := hW; obtain ⟨hc1, hf1⟩ := bcell k1; go_simp; refine comes_v ?_; exact k1))
    (try simp only [Act.put, List.setIfInBounds_toArray, List.set_cons_zero, List.set_cons_succ])
    first | refine wpB_skip 11 rfl (by kernel_rfl) (by kernel_rfl) (by kernel_rfl) (by rfl) ?_ | (refine wpB_text 11 (v := ?_) rfl (by kernel_rfl) (by kernel_rfl) (by kernel_rfl) (by rfl) (fun W hW => ?_) ?_; rotate_left; (have k1 := hW; obtain ⟨hc1, hf1⟩ := bcell k1; go_simp; refine comes_v ?_; exact k1))
    (try simp only [Act.put, List.setIfInBounds_toArray, List.set_cons_zero, List.set_cons_succ])
    first | refine wpB_skip 12 rfl (by kernel_rfl) (by kernel_rfl) (by kernel_rfl) (by rfl) ?_ | (refine wpB_text 12 (v := ?_) rfl (by kernel_rfl) (by kernel_rfl) (by kernel_rfl) (by rfl) (fun W hW => ?_) ?_; rotate_left; (have k1 := hW; obtain ⟨hc1, hf1⟩ := bcell k1; go_simp; refine comes_v ?_; exact k1))
    (try simp only [Act.put, List.setIfInBounds_toArray, List.set_cons_zero, List.set_cons_succ])
    refine wpB_done (by kernel_rfl) ?_ _
    intro W hW; have k1 := hW
    have B5 := B4.trans (k1.mono B4.size)
    go_wp2_with fail
    refine bodyPost_ret (v := .tuple #[.int .i64 (X.tdiv G), .int .i64 (Y.tdiv G), .int .i64 (D.tdiv G), .bool true]) (by simp [results, Try.results42, go_sem]) rfl ⟨by rw [HG.out], B5⟩
end Go.Proofs.Ytgjegildeejghaa
/- lists of points in memory that the call itself made: they may be written; marks -/
namespace Go.Proofs.Ytgjegildeejghaa
open Go.ChangeShapes Go.WideShapes Go.ChangeAt Go.RowKit Go.Joins
set_option linter.unusedVariables false
set_option linter.unusedSimpArgs false
set_option maxRecDepth 4000
theorem rd_of_set {w : World} {g : Nat} {l : List (Int × Int)} (h : Set w g l.length l.length l) : Rd w w.heap.size (some ⟨g, 0, none⟩) l := by
  intro _
  refine ⟨g, 0, rfl, h.1, fun i p hp => ?_⟩
  rw [Nat.zero_add]
  exact h.2.2 i p (List.getElem?_eq_some_iff.1 hp).1 hp
/-- the slice's cells from address A on hold the points f 0, .., f (n - 1), may be written, and lie from block lo on, below block B -/
def Rw (w : World) (lo B : Nat) (A : Option Addr) (n : Nat) (f : Nat → Int × Int) : Prop :=
  0 < n → ∃ b off, A = some ⟨b, off, none⟩ ∧ lo ≤ b ∧ b < B ∧ ∀ i, i < n →
    (w.cell? ⟨b, off + i * 2, none⟩ = some (.int .i64 (f i).1) ∧ w.cell? ⟨b, off + i * 2 + 1, none⟩ = some (.int .i64 (f i).2)) ∧
    w.frozen? ⟨b, off + i * 2, none⟩ = false ∧ w.frozen? ⟨b, off + i * 2 + 1, none⟩ = false
/-- nothing turns but cells of blocks from lo on, below B -/
structure Only (lo B : Nat) (w w' : World) : Prop where
  os : w'.os = w.os
  tape : w'.tape = w.tape
  output : w'.output = w.output
  size : w'.heap.size = w.heap.size
  block : ∀ k, (k < lo ∨ B ≤ k) → w'.heap[k]? = w.heap[k]?
theorem Only.refl (lo B : Nat) (w : World) : Only lo B w w := ⟨rfl, rfl, rfl, rfl, fun _ _ => rfl⟩
theorem Only.below {lo B : Nat} {w w' : World} (h : Only lo B w w') : Below lo w w' := ⟨h.os, h.tape, h.output, Nat.le_of_eq h.size.symm, fun k hk => h.block k (.inl hk)⟩
theorem Only.set {lo B : Nat} {a w : World} (h : Only lo B a w) {p : Addr} (h1 : lo ≤ p.block) (h2 : p.block < B) (u : Value) : Only lo B a (w.setCell p u) :=
  ⟨h.os, h.tape, h.output, (by simp [World.setCell]; exact h.size), fun k hk => (Below.heap_setCell w p u k (by omega)).trans (h.block k hk)⟩
theorem Only.more {lo B lo' B' : Nat} {w w' : World} (h : Only lo B w w') (h1 : lo' ≤ lo) (h2 : B ≤ B') : Only lo' B' w w' := ⟨h.os, h.tape, h.output, h.size, fun k hk => h.block k (by omega)⟩
theorem rw_block {w w' : World} {lo B : Nat} {A : Option Addr} {n : Nat} {f : Nat → Int × Int} (h : Rw w lo B A n f) (hk : ∀ k, lo ≤ k → k < B → w'.heap[k]? = w.heap[k]?) : Rw w' lo B A n f := by
  intro hn
  obtain ⟨b, off, e, hb1, hb2, hc⟩ := h hn
  have c : ∀ o, w'.cell? ⟨b, o, none⟩ = w.cell? ⟨b, o, none⟩ := fun o => World.cell?_of_block (hk b hb1 hb2)
  have z : ∀ o, w'.frozen? ⟨b, o, none⟩ = w.frozen? ⟨b, o, none⟩ := fun o => World.frozen?_of_block (hk b hb1 hb2)
  exact ⟨b, off, e, hb1, hb2, fun i hi => by rw [c, c, z, z]; exact hc i hi⟩
theorem rw_below {w w' : World} {lo B B' : Nat} {A : Option Addr} {n : Nat} {f : Nat → Int × Int} (h : Rw w lo B A n f) (hb : Below B' w w') (hB : B ≤ B') : Rw w' lo B A n f :=
  rw_block h fun k _ h2 => hb.block k (by omega)
theorem rw_only {w w' : World} {lo B lo' B' : Nat} {A : Option Addr} {n : Nat} {f : Nat → Int × Int} (h : Rw w lo B A n f) (ho : Only lo' B' w w') (hd : B ≤ lo' ∨ B' ≤ lo) : Rw w' lo B A n f :=
  rw_block h fun k h1 h2 => ho.block k (by omega)
theorem rw_more {w : World} {lo B lo' B' : Nat} {A : Option Addr} {n : Nat} {f : Nat → Int × Int} (h : Rw w lo B A n f) (h1 : lo' ≤ lo) (h2 : B ≤ B') : Rw w lo' B' A n f := by
  intro hn
  obtain ⟨b, off, e, hb1, hb2, hc⟩ := h hn
  exact ⟨b, off, e, by omega, by omega, hc⟩
theorem rw_same {w : World} {lo B : Nat} {A : Option Addr} {n : Nat} {f g : Nat → Int × Int} (h : Rw w lo B A n f) (he : ∀ i, i < n → f i = g i) : Rw w lo B A n g := by
  intro hn
  obtain ⟨b, off, e, hb1, hb2, hc⟩ := h hn
  exact ⟨b, off, e, hb1, hb2, fun i hi => by rw [← he i hi]; exact hc i hi⟩
/-- the points of a list, as a row -/
def pt (l : List (Int × Int)) (i : Nat) : Int × Int := (l[i]?).getD (0, 0)
theorem pt_get {l : List (Int × Int)} {i : Nat} (h : i < l.length) : l[i]? = some (pt l i) := by
  unfold pt; rw [List.getElem?_eq_getElem h]; rfl
theorem rw_rd {w : World} {lo B : Nat} {A : Option Addr} {l : List (Int × Int)} (h : Rw w lo B A l.length (pt l)) : Rd w B A l := by
  intro hn
  obtain ⟨b, off, e, hb1, hb2, hc⟩ := h hn
  refine ⟨b, off, e, hb2, fun i p hp => ?_⟩
  have hi := (List.getElem?_eq_some_iff.1 hp).1
  rw [pt_get hi] at hp
  injection hp with hp
  rw [← hp]
  exact (hc i hi).1
theorem rw_of_set {w : World} {g : Nat} {l : List (Int × Int)} (h : Set w g l.length l.length l) : Rw w g (g + 1) (some ⟨g, 0, none⟩) l.length (pt l) := by
  intro _
  refine ⟨g, 0, rfl, Nat.le_refl _, by omega, fun i hi => ?_⟩
  rw [Nat.zero_add]
  exact ⟨h.2.2 i _ hi (pt_get hi), (h.2.1 i hi).2.2⟩
/-- two cells written -/
theorem rw_store {w : World} {lo B b off n k : Nat} {f : Nat → Int × Int} (h : Rw w lo B (some ⟨b, off, none⟩) n f) (hk : k < n) (x y : Int) :
    Rw ((w.setCell ⟨b, off + k * 2, none⟩ (.int .i64 x)).setCell ⟨b, off + k * 2 + 1, none⟩ (.int .i64 y)) lo B (some ⟨b, off, none⟩) n (fun j => if j = k then (x, y) else f j) := by
  intro hn
  obtain ⟨b', off', e, hb1, hb2, hc⟩ := h hn
  injection e with e
  injection e with e1 e2
  subst e1 e2
  have ne : ∀ (W : World) (o o' : Nat) (v : Value), o' ≠ o → (W.setCell ⟨b, o', none⟩ v).cell? ⟨b, o, none⟩ = W.cell? ⟨b, o, none⟩ := fun W o o' v h =>
    World.cell?_setCell_other W _ _ _ (fun e => h (by injection e))
  have sm : ∀ (W : World) (o : Nat) (u v : Value), W.cell? ⟨b, o, none⟩ = some u → (W.setCell ⟨b, o, none⟩ v).cell? ⟨b, o, none⟩ = some v := fun W o u v h => World.cell?_setCell_same W _ _ h
  refine ⟨b, off, rfl, hb1, hb2, fun i hi => ?_⟩
  obtain ⟨⟨c1, c2⟩, z1, z2⟩ := hc i hi
  refine ⟨?_, ?_, ?_⟩
  · by_cases hik : i = k
    · subst hik
      simp only [if_true]
      have c2' : (w.setCell ⟨b, off + i * 2, none⟩ (.int .i64 x)).cell? ⟨b, off + i * 2 + 1, none⟩ = some (.int .i64 (f i).2) := by rw [ne _ _ _ _ (by omega)]; exact c2
      exact ⟨by rw [ne _ _ _ _ (by omega)]; exact sm _ _ _ _ c1, sm _ _ _ _ c2'⟩
    · simp only [hik, if_false]
      rw [ne _ _ _ _ (by omega), ne _ _ _ _ (by omega), ne _ _ _ _ (by omega), ne _ _ _ _ (by omega)]
      exact ⟨c1, c2⟩
  · rw [World.frozen?_setCell, World.frozen?_setCell]; exact z1
  · rw [World.frozen?_setCell, World.frozen?_setCell]; exact z2
end Go.Proofs.Ytgjegildeejghaa
/- lists of numbers in memory that the call itself made -/
namespace Go.Proofs.Ytgjegildeejghaa
open Go.ChangeShapes Go.WideShapes Go.ChangeAt Go.RowKit Go.Joins
set_option linter.unusedVariables false
set_option linter.unusedSimpArgs false
set_option maxRecDepth 4000
/-- the slice's cells from address A on hold the numbers f 0, .., f (n - 1), may be written, and lie from block lo on, below block B -/
def RwI (w : World) (lo B : Nat) (A : Option Addr) (n : Nat) (f : Nat → Int) : Prop :=
  0 < n → ∃ b off, A = some ⟨b, off, none⟩ ∧ lo ≤ b ∧ b < B ∧ ∀ i, i < n → w.cell? ⟨b, off + i, none⟩ = some (.int .i64 (f i)) ∧ w.frozen? ⟨b, off + i, none⟩ = false
theorem rwi_block {w w' : World} {lo B : Nat} {A : Option Addr} {n : Nat} {f : Nat → Int} (h : RwI w lo B A n f) (hk : ∀ k, lo ≤ k → k < B → w'.heap[k]? = w.heap[k]?) : RwI w' lo B A n f := by
  intro hn
  obtain ⟨b, off, e, hb1, hb2, hc⟩ := h hn
  have c : ∀ o, w'.cell? ⟨b, o, none⟩ = w.cell? ⟨b, o, none⟩ := fun o => World.cell?_of_block (hk b hb1 hb2)
  have z : ∀ o, w'.frozen? ⟨b, o, none⟩ = w.frozen? ⟨b, o, none⟩ := fun o => World.frozen?_of_block (hk b hb1 hb2)
  exact ⟨b, off, e, hb1, hb2, fun i hi => by rw [c, z]; exact hc i hi⟩
theorem rwi_below {w w' : World} {lo B B' : Nat} {A : Option Addr} {n : Nat} {f : Nat → Int} (h : RwI w lo B A n f) (hb : Below B' w w') (hB : B ≤ B') : RwI w' lo B A n f :=
  rwi_block h fun k _ h2 => hb.block k (by omega)
theorem rwi_only {w w' : World} {lo B lo' B' : Nat} {A : Option Addr} {n : Nat} {f : Nat → Int} (h : RwI w lo B A n f) (ho : Only lo' B' w w') (hd : B ≤ lo' ∨ B' ≤ lo) : RwI w' lo B A n f :=
  rwi_block h fun k h1 h2 => ho.block k (by omega)
theorem rwi_more {w : World} {lo B lo' B' : Nat} {A : Option Addr} {n : Nat} {f : Nat → Int} (h : RwI w lo B A n f) (h1 : lo' ≤ lo) (h2 : B ≤ B') : RwI w lo' B' A n f := by
  intro hn
  obtain ⟨b, off, e, hb1, hb2, hc⟩ := h hn
  exact ⟨b, off, e, by omega, by omega, hc⟩
theorem rwi_same {w : World} {lo B : Nat} {A : Option Addr} {n : Nat} {f g : Nat → Int} (h : RwI w lo B A n f) (he : ∀ i, i < n → f i = g i) : RwI w lo B A n g := by
  intro hn
  obtain ⟨b, off, e, hb1, hb2, hc⟩ := h hn
  exact ⟨b, off, e, hb1, hb2, fun i hi => by rw [← he i hi]; exact hc i hi⟩
theorem rwi_store {w : World} {lo B b off n k : Nat} {f : Nat → Int} (h : RwI w lo B (some ⟨b, off, none⟩) n f) (hk : k < n) (x : Int) :
    RwI (w.setCell ⟨b, off + k, none⟩ (.int .i64 x)) lo B (some ⟨b, off, none⟩) n (fun j => if j = k then x else f j) := by
  intro hn
  obtain ⟨b', off', e, hb1, hb2, hc⟩ := h hn
  injection e with e
  injection e with e1 e2
  subst e1 e2
  refine ⟨b, off, rfl, hb1, hb2, fun i hi => ?_⟩
  obtain ⟨c1, z1⟩ := hc i hi
  refine ⟨?_, by rw [World.frozen?_setCell]; exact z1⟩
  by_cases hik : i = k
  · subst hik
    simp only [if_true]
    exact World.cell?_setCell_same w _ _ c1
  · simp only [hik, if_false]
    rw [World.cell?_setCell_other w _ _ _ (fun e => by injection e with e1 e2; omega)]
    exact c1
def mixI (k : Int) (i : Nat) (f : Nat → Int) (j : Nat) : Int := if j < i then k + (j : Int) else f j
theorem mixI_step (k : Int) (i : Nat) (f : Nat → Int) : (fun j => if j = i then k + (i : Int) else mixI k i f j) = mixI k (i + 1) f := by
  funext j
  unfold mixI
  by_cases h : j = i
  · subst h; rw [if_pos rfl, if_pos (by omega)]
  · rw [if_neg h]
    by_cases h2 : j < i
    · rw [if_pos h2, if_pos (by omega)]
    · rw [if_neg h2, if_neg (by omega)]
structure MarkedI (w w' : World) (lo B : Nat) (A : Option Addr) (n : Nat) (k : Int) (i : Nat) (f : Nat → Int) : Prop where
  only : Only lo B w w'
  row : RwI w' lo B A n (mixI k i f)
theorem markedI_step {w w' : World} {lo B b off n i : Nat} {k : Int} {f : Nat → Int} (h : MarkedI w w' lo B (some ⟨b, off, none⟩) n k i f) (hi : i < n) (hb : lo ≤ b) (hB : b < B) :
    MarkedI w (w'.setCell ⟨b, off + i, none⟩ (.int .i64 (k + (i : Int)))) lo B (some ⟨b, off, none⟩) n k (i + 1) f :=
  ⟨h.only.set hb hB _, by
    have := rwi_store h.row hi (k + (i : Int))
    rw [mixI_step k i f] at this
    exact this⟩
set_option maxHeartbeats 1000000 in
theorem markIntS_any (A : Option Addr) (c n : Nat) (k : Int) (lo B : Nat) (f : Nat → Int) (w : World) (hn : n ≤ 1048576) (hk1 : 1 ≤ k) (hk2 : k ≤ 1000000000) (hR : RwI w lo B A n f) :
    Calls Try.prog 26 #[.slice A n c, .int .i64 k] w fun e w' => e = .returned (.int .i64 (k + (n : Int))) ∧ Only lo B w w' ∧ RwI w' lo B A n (fun i => k + (i : Int)) := by
  have HM := Lib.hid (show MarkedI w w lo B A n k 0 f from ⟨Only.refl _ _ _, rwi_same hR fun i hi => by unfold mixI; rw [if_neg (by omega)]⟩)
  clear hR
  go_enter Try.func26, Try.ntmps26
  go_wp2_with fail
  go_loopg [1, 5] n (fun g u i wr => ∃ j : Nat, j ≤ n ∧ g = n - j ∧ i = .int .i64 j ∧ u = .int .i64 (k + (j : Int)) ∧ Hid (MarkedI w wr lo B A n k j f))
  case atStart => exact ⟨0, Nat.zero_le _, rfl, rfl, by simp, HM⟩
  case round =>
    obtain ⟨j, hj, hg, rfl, rfl, hM⟩ := hrel
    rename World => wo
    have HGK := Lib.hid hg
    clear hg HM
    by_cases hlt : j < n
    · obtain ⟨b, off, hA, hb1, hb2, hc⟩ := hM.out.row (by omega)
      subst hA
      obtain ⟨c1, z1⟩ := hc j hlt
      have M2 := Lib.hid (markedI_step hM.out hlt hb1 hb2)
      clear hc hM
      go_wp2_with fail
      go_roundg (n - (j + 1))
      case measure => have := HGK.out; omega
      case rel => exact ⟨j + 1, by omega, rfl, by go_num, by go_num, M2⟩
    · have hjn : n = j := by omega
      subst hjn
      go_wp2_with fail
      go_ret
      exact ⟨rfl, hM.out.only, rwi_same hM.out.row fun i hi => by unfold mixI; rw [if_pos hi]⟩
set_option maxHeartbeats 1000000 in
theorem heldIntS_any (A : Option Addr) (c n : Nat) (k : Int) (lo B : Nat) (w : World) (hn : n ≤ 1048576) (hk1 : 1 ≤ k) (hk2 : k ≤ 1000000000) (hR : RwI w lo B A n (fun i => k + (i : Int))) :
    Calls Try.prog 27 #[.slice A n c, .int .i64 k] w fun e w' => e = .returned (.int .i64 (k + (n : Int))) ∧ w = w' := by
  have HR := Lib.hid hR
  clear hR
  go_enter Try.func27, Try.ntmps27
  go_wp2_with fail
  go_loopg [1, 5] n (fun g u i wr => ∃ j : Nat, j ≤ n ∧ g = n - j ∧ i = .int .i64 j ∧ u = .int .i64 (k + (j : Int)) ∧ w = wr)
  case atStart => exact ⟨0, Nat.zero_le _, rfl, rfl, by simp, rfl⟩
  case round =>
    obtain ⟨j, hj, hg, rfl, rfl, rfl⟩ := hrel
    have HGK := Lib.hid hg
    clear hg
    by_cases hlt : j < n
    · obtain ⟨b, off, hA, hb1, hb2, hc⟩ := HR.out (by omega)
      subst hA
      obtain ⟨c1, z1⟩ := hc j hlt
      clear hc
      go_wp2_with fail
      go_roundg (n - (j + 1))
      case measure => have := HGK.out; omega
      case rel => exact ⟨j + 1, by omega, rfl, by go_num, by go_num, rfl⟩
    · have hjn : n = j := by omega
      subst hjn
      go_wp2_with fail
      go_ret
      exact ⟨rfl, rfl⟩
theorem bw_keep {w W W' : World} (h : Below w.heap.size w W) (hb : Below W.heap.size W W') : Below w.heap.size w W' := h.trans (hb.mono h.size)
set_option maxHeartbeats 1000000 in
theorem eqIntS_same (A A' : Option Addr) (c c' n : Nat) (lo B lo' B' : Nat) (f : Nat → Int) (w : World) (hn : n ≤ 1048576) (hR : RwI w lo B A n f) (hB : B ≤ w.heap.size) (hR' : RwI w lo' B' A' n f) (hB' : B' ≤ w.heap.size) :
    Calls Try.prog 24 #[.slice A n c, .slice A' n c'] w fun e w' => e = .returned (.bool true) ∧ Below w.heap.size w w' := by
  have HR := Lib.hid hR
  have HR' := Lib.hid hR'
  clear hR hR'
  go_enter Try.func24, Try.ntmps24
  go_wp2_with fail
  go_loopg [5] n (fun g i wr => ∃ j : Nat, j ≤ n ∧ g = n - j ∧ i = .int .i64 j ∧ Below w.heap.size w wr)
  case atStart => exact ⟨0, Nat.zero_le _, rfl, rfl, Below.refl _ _⟩
  case round =>
    obtain ⟨j, hj, hg, rfl, hBl⟩ := hrel
    rename World => wo
    have HGK := Lib.hid hg
    clear hg
    by_cases hlt : j < n
    · obtain ⟨b, off, hA, hb1, hb2, hc⟩ := HR.out (by omega)
      obtain ⟨b', off', hA', hb1', hb2', hc'⟩ := HR'.out (by omega)
      subst hA hA'
      obtain ⟨c1, z1⟩ := hc j hlt
      obtain ⟨c2, z2⟩ := hc' j hlt
      have e1 : wo.cell? ⟨b, off + j, none⟩ = some (.int .i64 (f j)) := (hBl.cell (p := ⟨b, off + j, none⟩) (by show b < w.heap.size; omega)).trans c1
      have e2 : wo.cell? ⟨b', off' + j, none⟩ = some (.int .i64 (f j)) := (hBl.cell (p := ⟨b', off' + j, none⟩) (by show b' < w.heap.size; omega)).trans c2
      have z3 : b < wo.heap.size := by have := hBl.size; omega
      have z4 : b' < wo.heap.size := by have := hBl.size; omega
      clear hc hc' c1 z1 c2 z2
      generalize f j = x at *
      go_wp2_with fail
      refine wp_region_B (fun W => Below wo.heap.size wo W) (by kernel_rfl) (Below.refl _ _).drew ?_
      first | refine wpB_skip 0 rfl (by kernel_rfl) (by kernel_rfl) (by kernel_rfl) (by rfl) ?_ | (refine wpB_text 0 (v := ?_) rfl (by kernel_rfl) (by kernel_rfl) (by kernel_rfl) (by rfl) (fun W hW => ?_) ?_; rotate_left; (have k1 := hW; obtain ⟨hc1, hf1⟩ := bcell k1; go_simp; refine comes_v ?_; exact k1))
      (try simp only [Act.put, List.setIfInBounds_toArray, List.set_cons_zero, List.set_cons_succ])
      first | refine wpB_skip 1 rfl (by kernel_rfl) (by kernel_rfl) (by kernel_rfl) (by rfl) ?_ | (refine wpB_text 1 (v := ?_) rfl (by kernel_rfl) (by kernel_rfl) (by kernel_rfl) (by rfl) (fun W hW => ?_) ?_; rotate_left; (have k1 := hW; obtain ⟨hc1, hf1⟩ := bcell k1; go_simp; refine comes_v ?_; exact k1))
      (try simp only [Act.put, List.setIfInBounds_toArray, List.set_cons_zero, List.set_cons_succ])
      first | refine wpB_skip 2 rfl (by kernel_rfl) (by kernel_rfl) (by kernel_rfl) (by rfl) ?_ | (refine wpB_text 2 (v := ?_) rfl (by kernel_rfl) (by kernel_rfl) (by kernel_rfl) (by rfl) (fun W hW => ?_) ?_; rotate_left; (have k1 := hW; obtain ⟨hc1, hf1⟩ := bcell k1; go_simp; refine comes_v ?_; exact k1))
      (try simp only [Act.put, List.setIfInBounds_toArray, List.set_cons_zero, List.set_cons_succ])
      first | refine wpB_skip 3 rfl (by kernel_rfl) (by kernel_rfl) (by kernel_rfl) (by rfl) ?_ | (refine wpB_text 3 (v := ?_) rfl (by kernel_rfl) (by kernel_rfl) (by kernel_rfl) (by rfl) (fun W hW => ?_) ?_; rotate_left; (have k1 := hW; obtain ⟨hc1, hf1⟩ := bcell k1; go_simp; refine comes_v ?_; exact k1))
      (try simp only [Act.put, List.setIfInBounds_toArray, List.set_cons_zero, List.set_cons_succ])
      first | refine wpB_skip 4 rfl (by kernel_rfl) (by kernel_rfl) (by kernel_rfl) (by rfl) ?_ | (refine wpB_text 4 (v := ?_) rfl (by kernel_rfl) (by kernel_rfl) (by kernel_rfl) (by rfl) (fun W hW => ?_) ?_; rotate_left; (have k1 := hW; obtain ⟨hc1, hf1⟩ := bcell k1; go_simp; refine comes_v ?_; exact k1))
      (try simp only [Act.put, List.setIfInBounds_toArray, List.set_cons_zero, List.set_cons_succ])
      first | refine wpB_skip 5 rfl (by kernel_rfl) (by kernel_rfl) (by kernel_rfl) (by rfl) ?_ | (refine wpB_text 5 (v := ?_) rfl (by kernel_rfl) (by kernel_rfl) (by kernel_rfl) (by rfl) (fun W hW => ?_) ?_; rotate_left; (have k1 := hW; obtain ⟨hc1, hf1⟩ := bcell k1; go_simp; refine comes_v ?_; exact k1))
      (try simp only [Act.put, List.setIfInBounds_toArray, List.set_cons_zero, List.set_cons_succ])
      first | refine wpB_skip 6 rfl (by kernel_rfl) (by kernel_rfl) (by kernel_rfl) (by rfl) ?_ | (refine wpB_text 6 (v := ?_) rfl (by kernel_rfl) (by kernel_rfl) (by kernel_rfl) (by rfl) (fun W hW => ?_) ?_; rotate_left; (have k1 := hW; obtain ⟨hc1, hf1⟩ := bcell k1; go_simp; refine comes_v ?_; exact k1))
      (try simp only [Act.put, List.setIfInBounds_toArray, List.set_cons_zero, List.set_cons_succ])
      first | refine wpB_skip 7 rfl (by kernel_rfl) (by kernel_rfl) (by kernel_rfl) (by rfl) ?_ | (refine wpB_text 7 (v := ?_) rfl (by kernel_rfl) (by kernel_rfl) (by kernel_rfl) (by rfl) (fun W hW => ?_) ?_; rotate_left; (have k1 := hW; obtain ⟨hc1, hf1⟩ := bcell k1; go_simp; refine comes_v ?_; exact k1))
      (try simp only [Act.put, List.setIfInBounds_toArray, List.set_cons_zero, List.set_cons_succ])
      first | refine wpB_skip 8 rfl (by kernel_rfl) (by kernel_rfl) (by kernel_rfl) (by rfl) ?_ | (refine wpB_text 8 (v := ?_) rfl (by kernel_rfl) (by kernel_rfl) (by kernel_rfl) (by rfl) (fun W hW => ?_) ?_; rotate_left; (have k1 := hW; obtain ⟨hc1, hf1⟩ := bcell k1; go_simp; refine comes_v ?_; exact k1))
      (try simp only [Act.put, List.setIfInBounds_toArray, List.set_cons_zero, List.set_cons_succ])
      refine wpB_done (by kernel_rfl) ?_ _
      intro W hW; have k1 := hW
      have B2 := hBl.trans (k1.mono hBl.size)
      go_wp2_with fail
      go_roundg (n - (j + 1))
      case measure => have := HGK.out; omega
      case rel => exact ⟨j + 1, by omega, rfl, by go_num, B2⟩
    · have hjn : n = j := by omega
      subst hjn
      go_wp2_with fail
      go_ret
      exact ⟨rfl, hBl⟩
/-- a call that gives p numbers F and says whether there are such -/
def RetNI (w : World) (p : Nat) (F : Nat → Int) (b : Bool) (e : Ending) (w' : World) : Prop :=
  ∃ A c, e = .returned (.tuple #[.slice A p c, .bool b]) ∧ Below w.heap.size w w' ∧ RwI w' w.heap.size w'.heap.size A p F
theorem retNI_nil {w w' : World} {F : Nat → Int} (hb : Below w.heap.size w w') : RetNI w 0 F false (.returned (.tuple #[.slice none 0 0, .bool false])) w' :=
  ⟨none, 0, rfl, hb, fun h => absurd h (by omega)⟩
/-- three numbers in a new block -/
theorem rwi_three {w : World} {g : Nat} {x y z : Int} (hg : g < w.heap.size) (h0 : w.cell? ⟨g, 0, none⟩ = some (.int .i64 x)) (h1 : w.cell? ⟨g, 1, none⟩ = some (.int .i64 y)) (h2 : w.cell? ⟨g, 2, none⟩ = some (.int .i64 z)) (hf : ∀ o, w.frozen? ⟨g, o, none⟩ = false) :
    RwI w g w.heap.size (some ⟨g, 0, none⟩) 3 (fun i => if i = 0 then x else if i = 1 then y else z) := by
  intro _
  refine ⟨g, 0, rfl, Nat.le_refl _, hg, fun i hi => ⟨?_, hf _⟩⟩
  rw [Nat.zero_add]
  match i, hi with
  | 0, _ => exact h0
  | 1, _ => exact h1
  | 2, _ => exact h2
end Go.Proofs.Ytgjegildeejghaa
/- contracts: squares of a triangle's sides -/
namespace Go.Proofs.Ytgjegildeejghaa
open Go.ChangeShapes Go.WideShapes Go.ChangeAt Go.RowKit Go.Joins
set_option linter.unusedVariables false
set_option linter.unusedSimpArgs false
set_option maxRecDepth 4000
/-- the square of how far two points are -/
def sqI (a1 a2 b1 b2 : Int) : Int := (a1 - b1) * (a1 - b1) + (a2 - b2) * (a2 - b2)
theorem sqI_comm (a1 a2 b1 b2 : Int) : sqI a1 a2 b1 b2 = sqI b1 b2 a1 a2 := by unfold sqI; grind
def sqP (p q : Int × Int) : Int := sqI p.1 p.2 q.1 q.2
/-- side number j of a triangle -/
def sdF (l : List (Int × Int)) (j : Nat) : Int := sqP (vx l (j + 1)) (vx l (j + 2))
theorem sqI_bd {a1 a2 b1 b2 : Int} (h1 : -40 ≤ a1 ∧ a1 ≤ 40) (h2 : -40 ≤ a2 ∧ a2 ≤ 40) (h3 : -40 ≤ b1 ∧ b1 ≤ 40) (h4 : -40 ≤ b2 ∧ b2 ≤ 40) : 0 ≤ sqI a1 a2 b1 b2 ∧ sqI a1 a2 b1 b2 ≤ 12800 := by
  have s1 := mul_bd (x := a1 - b1) (y := a1 - b1) (m := 80) (n := 80) (by omega) (by omega) (by omega) (by omega)
  have s2 := mul_bd (x := a2 - b2) (y := a2 - b2) (m := 80) (n := 80) (by omega) (by omega) (by omega) (by omega)
  have t1 := (sq_bd (x := a1 - b1) (by omega)).1
  have t2 := (sq_bd (x := a2 - b2) (by omega)).1
  unfold sqI
  omega
theorem trSquare_any (a1 a2 b1 b2 : Int) (w : World) (h1 : -40 ≤ a1 ∧ a1 ≤ 40) (h2 : -40 ≤ a2 ∧ a2 ≤ 40) (h3 : -40 ≤ b1 ∧ b1 ≤ 40) (h4 : -40 ≤ b2 ∧ b2 ≤ 40) :
    Calls Try.prog 91 #[.agg #[.int .i64 a1, .int .i64 a2], .agg #[.int .i64 b1, .int .i64 b2]] w fun e w' => e = .returned (.int .i64 (sqI a1 a2 b1 b2)) ∧ Below w.heap.size w w' := by
  have s1 := mul_bd (x := a1 - b1) (y := a1 - b1) (m := 80) (n := 80) (by omega) (by omega) (by omega) (by omega)
  have s2 := mul_bd (x := a2 - b2) (y := a2 - b2) (m := 80) (n := 80) (by omega) (by omega) (by omega) (by omega)
  obtain ⟨x1, x2⟩ := s1
  obtain ⟨x3, x4⟩ := s2
  obtain ⟨y1, y2⟩ := h1
  obtain ⟨y3, y4⟩ := h2
  obtain ⟨y5, y6⟩ := h3
  obtain ⟨y7, y8⟩ := h4
  go_enter Try.func91, Try.ntmps91
  go_wp2
  go_ret
  exact ⟨ret_int (by unfold sqI; rfl), (by repeat (first | exact Below.refl _ _ | assumption | apply Below.drew | refine Below.alloc ?_ (by simp <;> omega) _))⟩
set_option maxHeartbeats 1000000 in
theorem trSides_any (A : Option Addr) (c : Nat) (l : List (Int × Int)) (a1 a2 b1 b2 c1 c2 : Int) (w : World) (hR : Rd w w.heap.size A l) (ht : Tri l a1 a2 b1 b2 c1 c2) :
    Calls Try.prog 60 #[.slice A l.length c] w fun e w' => ∃ g, e = .returned (.slice (some ⟨g, 0, none⟩) 3 3) ∧ Below w.heap.size w w' ∧ w.heap.size ≤ g ∧ g < w'.heap.size ∧
      w'.cell? ⟨g, 0, none⟩ = some (.int .i64 (sdF l 0)) ∧ w'.cell? ⟨g, 1, none⟩ = some (.int .i64 (sdF l 1)) ∧ w'.cell? ⟨g, 2, none⟩ = some (.int .i64 (sdF l 2)) ∧ ∀ o, w'.frozen? ⟨g, o, none⟩ = false := by
  obtain ⟨u1, u2, u3, u4, u5, u6⟩ := tri_bd ht
  have K0 := Lib.hid (fun W => trSquare_any b1 b2 c1 c2 W u3 u4 u5 u6)
  have K1 := Lib.hid (fun W => trSquare_any c1 c2 a1 a2 W u5 u6 u1 u2)
  have K2 := Lib.hid (fun W => trSquare_any a1 a2 b1 b2 W u1 u2 u3 u4)
  have e0 : sdF l 0 = sqI b1 b2 c1 c2 := by rw [ht.1]; rfl
  have e1 : sdF l 1 = sqI c1 c2 a1 a2 := by
    rw [ht.1]
    unfold sdF
    rw [show vx [(a1, a2), (b1, b2), (c1, c2)] (1 + 2) = (a1, a2) from vx_add [(a1, a2), (b1, b2), (c1, c2)] 0]
    rfl
  have e2 : sdF l 2 = sqI a1 a2 b1 b2 := by
    rw [ht.1]
    unfold sdF
    rw [show vx [(a1, a2), (b1, b2), (c1, c2)] (2 + 1) = (a1, a2) from vx_add [(a1, a2), (b1, b2), (c1, c2)] 0, show vx [(a1, a2), (b1, b2), (c1, c2)] (2 + 2) = (b1, b2) from vx_add [(a1, a2), (b1, b2), (c1, c2)] 1]
    rfl
  rw [e0, e1, e2]
  generalize sqI b1 b2 c1 c2 = s0 at *
  generalize sqI c1 c2 a1 a2 = s1 at *
  generalize sqI a1 a2 b1 b2 = s2 at *
  obtain ⟨rfl, hg⟩ := ht
  obtain ⟨b, off, rfl, hb, H3⟩ := rd3_of hR
  change Calls Try.prog 60 #[.slice (some ⟨b, off, none⟩) 3 c] w _
  obtain ⟨x0, x1, x2, x3, x4, x5⟩ := H3.out w (Below.refl _ _)
  clear hg hR u1 u2 u3 u4 u5 u6 e0 e1 e2
  go_enter Try.func60, Try.ntmps60
  go_wp2_with fail
  refine wp_region_BT 21 (fun W => Below (w).heap.size (w) W) (by kernel_rfl) (by kernel_rfl) (by repeat (first | exact Below.refl _ _ | apply Below.drew)) ?_
  simp only [List.take_succ_cons, List.take_zero, List.drop_succ_cons, List.drop_zero]
  first | refine wpH_skip (by rfl) ?_ | (refine wpH_text (v := ?_) (by rfl) (fun W k1 => ?_) ?_; rotate_left; (obtain ⟨hc1, hf1⟩ := bcell k1;  go_simp; refine comes_v ?_; exact k1))
  (try simp only [Act.put, List.setIfInBounds_toArray, List.set_cons_zero, List.set_cons_succ])
  first | refine wpH_skip (by rfl) ?_ | (refine wpH_text (v := ?_) (by rfl) (fun W k1 => ?_) ?_; rotate_left; (obtain ⟨hc1, hf1⟩ := bcell k1;  go_simp; refine comes_v ?_; exact k1))
  (try simp only [Act.put, List.setIfInBounds_toArray, List.set_cons_zero, List.set_cons_succ])
  first | refine wpH_skip (by rfl) ?_ | (refine wpH_text (v := ?_) (by rfl) (fun W k1 => ?_) ?_; rotate_left; (obtain ⟨hc1, hf1⟩ := bcell k1;  go_simp; refine comes_v ?_; exact k1))
  (try simp only [Act.put, List.setIfInBounds_toArray, List.set_cons_zero, List.set_cons_succ])
  first | refine wpH_skip (by rfl) ?_ | (refine wpH_text (v := ?_) (by rfl) (fun W k1 => ?_) ?_; rotate_left; (obtain ⟨hc1, hf1⟩ := bcell k1;  go_simp; refine comes_v ?_; exact k1))
  (try simp only [Act.put, List.setIfInBounds_toArray, List.set_cons_zero, List.set_cons_succ])
  first | refine wpH_skip (by rfl) ?_ | (refine wpH_text (v := ?_) (by rfl) (fun W k1 => ?_) ?_; rotate_left; (obtain ⟨hc1, hf1⟩ := bcell k1;  go_simp; refine comes_v ?_; exact k1))
  (try simp only [Act.put, List.setIfInBounds_toArray, List.set_cons_zero, List.set_cons_succ])
  first | refine wpH_skip (by rfl) ?_ | (refine wpH_text (v := ?_) (by rfl) (fun W k1 => ?_) ?_; rotate_left; (obtain ⟨hc1, hf1⟩ := bcell k1;  go_simp; refine comes_v ?_; exact k1))
  (try simp only [Act.put, List.setIfInBounds_toArray, List.set_cons_zero, List.set_cons_succ])
  first | refine wpH_skip (by rfl) ?_ | (refine wpH_text (v := .int .i64 s0) (by rfl) (fun W k1 => ?_) ?_; (obtain ⟨hc1, hf1⟩ := bcell k1;  go_simp; exact comes_c ( K0.out _) (fun wn hbn => k1.trans (hbn.mono k1.size))))
  (try simp only [Act.put, List.setIfInBounds_toArray, List.set_cons_zero, List.set_cons_succ])
  first | refine wpH_skip (by rfl) ?_ | (refine wpH_text (v := ?_) (by rfl) (fun W k1 => ?_) ?_; rotate_left; (obtain ⟨hc1, hf1⟩ := bcell k1;  go_simp; refine comes_v ?_; exact k1))
  (try simp only [Act.put, List.setIfInBounds_toArray, List.set_cons_zero, List.set_cons_succ])
  first | refine wpH_skip (by rfl) ?_ | (refine wpH_text (v := ?_) (by rfl) (fun W k1 => ?_) ?_; rotate_left; (obtain ⟨hc1, hf1⟩ := bcell k1;  go_simp; refine comes_v ?_; exact k1))
  (try simp only [Act.put, List.setIfInBounds_toArray, List.set_cons_zero, List.set_cons_succ])
  first | refine wpH_skip (by rfl) ?_ | (refine wpH_text (v := ?_) (by rfl) (fun W k1 => ?_) ?_; rotate_left; (obtain ⟨hc1, hf1⟩ := bcell k1;  go_simp; refine comes_v ?_; exact k1))
  (try simp only [Act.put, List.setIfInBounds_toArray, List.set_cons_zero, List.set_cons_succ])
  first | refine wpH_skip (by rfl) ?_ | (refine wpH_text (v := ?_) (by rfl) (fun W k1 => ?_) ?_; rotate_left; (obtain ⟨hc1, hf1⟩ := bcell k1;  go_simp; refine comes_v ?_; exact k1))
  (try simp only [Act.put, List.setIfInBounds_toArray, List.set_cons_zero, List.set_cons_succ])
  first | refine wpH_skip (by rfl) ?_ | (refine wpH_text (v := ?_) (by rfl) (fun W k1 => ?_) ?_; rotate_left; (obtain ⟨hc1, hf1⟩ := bcell k1;  go_simp; refine comes_v ?_; exact k1))
  (try simp only [Act.put, List.setIfInBounds_toArray, List.set_cons_zero, List.set_cons_succ])
  first | refine wpH_skip (by rfl) ?_ | (refine wpH_text (v := ?_) (by rfl) (fun W k1 => ?_) ?_; rotate_left; (obtain ⟨hc1, hf1⟩ := bcell k1;  go_simp; refine comes_v ?_; exact k1))
  (try simp only [Act.put, List.setIfInBounds_toArray, List.set_cons_zero, List.set_cons_succ])
  first | refine wpH_skip (by rfl) ?_ | (refine wpH_text (v := .int .i64 s1) (by rfl) (fun W k1 => ?_) ?_; (obtain ⟨hc1, hf1⟩ := bcell k1;  go_simp; exact comes_c ( K1.out _) (fun wn hbn => k1.trans (hbn.mono k1.size))))
  (try simp only [Act.put, List.setIfInBounds_toArray, List.set_cons_zero, List.set_cons_succ])
  first | refine wpH_skip (by rfl) ?_ | (refine wpH_text (v := ?_) (by rfl) (fun W k1 => ?_) ?_; rotate_left; (obtain ⟨hc1, hf1⟩ := bcell k1;  go_simp; refine comes_v ?_; exact k1))
  (try simp only [Act.put, List.setIfInBounds_toArray, List.set_cons_zero, List.set_cons_succ])
  first | refine wpH_skip (by rfl) ?_ | (refine wpH_text (v := ?_) (by rfl) (fun W k1 => ?_) ?_; rotate_left; (obtain ⟨hc1, hf1⟩ := bcell k1;  go_simp; refine comes_v ?_; exact k1))
  (try simp only [Act.put, List.setIfInBounds_toArray, List.set_cons_zero, List.set_cons_succ])
  first | refine wpH_skip (by rfl) ?_ | (refine wpH_text (v := ?_) (by rfl) (fun W k1 => ?_) ?_; rotate_left; (obtain ⟨hc1, hf1⟩ := bcell k1;  go_simp; refine comes_v ?_; exact k1))
  (try simp only [Act.put, List.setIfInBounds_toArray, List.set_cons_zero, List.set_cons_succ])
  first | refine wpH_skip (by rfl) ?_ | (refine wpH_text (v := ?_) (by rfl) (fun W k1 => ?_) ?_; rotate_left; (obtain ⟨hc1, hf1⟩ := bcell k1;  go_simp; refine comes_v ?_; exact k1))
  (try simp only [Act.put, List.setIfInBounds_toArray, List.set_cons_zero, List.set_cons_succ])
  first | refine wpH_skip (by rfl) ?_ | (refine wpH_text (v := ?_) (by rfl) (fun W k1 => ?_) ?_; rotate_left; (obtain ⟨hc1, hf1⟩ := bcell k1;  go_simp; refine comes_v ?_; exact k1))
  (try simp only [Act.put, List.setIfInBounds_toArray, List.set_cons_zero, List.set_cons_succ])
  first | refine wpH_skip (by rfl) ?_ | (refine wpH_text (v := ?_) (by rfl) (fun W k1 => ?_) ?_; rotate_left; (obtain ⟨hc1, hf1⟩ := bcell k1;  go_simp; refine comes_v ?_; exact k1))
  (try simp only [Act.put, List.setIfInBounds_toArray, List.set_cons_zero, List.set_cons_succ])
  first | refine wpH_skip (by rfl) ?_ | (refine wpH_text (v := .int .i64 s2) (by rfl) (fun W k1 => ?_) ?_; (obtain ⟨hc1, hf1⟩ := bcell k1;  go_simp; exact comes_c ( K2.out _) (fun wn hbn => k1.trans (hbn.mono k1.size))))
  (try simp only [Act.put, List.setIfInBounds_toArray, List.set_cons_zero, List.set_cons_succ])
  refine wpH_nil ?_
  intro W k1; obtain ⟨hc1, hf1⟩ := bcell k1
  have hWs := k1.size
  clear hc1 hf1
  go_wp2_with fail
  go_ret
  refine ⟨W.heap.size, rfl, Below.alloc k1 hWs _, hWs, by simp, by go_simp, by go_simp, by go_simp, fun o => ?_⟩
  rw [frozen?_alloc_cells]
  simp [World.frozen?]
end Go.Proofs.Ytgjegildeejghaa
/- contracts: a triangle's side; the squares of all sides, by the program -/
namespace Go.Proofs.Ytgjegildeejghaa
open Go.ChangeShapes Go.WideShapes Go.ChangeAt Go.RowKit Go.Joins
set_option linter.unusedVariables false
set_option linter.unusedSimpArgs false
set_option maxRecDepth 4000
theorem side_any (a1 a2 b1 b2 c1 c2 : Int) (i : Nat) (hi : i < 3) (w : World) :
    Calls Try.prog 92 #[.agg #[.int .i64 a1, .int .i64 a2, .int .i64 b1, .int .i64 b2, .int .i64 c1, .int .i64 c2], .int .i64 i] w fun e w' =>
      e = .returned (.tuple #[.agg #[.int .i64 (vx [(a1, a2), (b1, b2), (c1, c2)] (i + 1)).1, .int .i64 (vx [(a1, a2), (b1, b2), (c1, c2)] (i + 1)).2], .agg #[.int .i64 (vx [(a1, a2), (b1, b2), (c1, c2)] (i + 2)).1, .int .i64 (vx [(a1, a2), (b1, b2), (c1, c2)] (i + 2)).2]]) ∧ Below w.heap.size w w' := by
  have v0 : vx [(a1, a2), (b1, b2), (c1, c2)] 0 = (a1, a2) := rfl
  have v1 : vx [(a1, a2), (b1, b2), (c1, c2)] 1 = (b1, b2) := rfl
  have v2 : vx [(a1, a2), (b1, b2), (c1, c2)] 2 = (c1, c2) := rfl
  have v3 : vx [(a1, a2), (b1, b2), (c1, c2)] 3 = (a1, a2) := vx_add [(a1, a2), (b1, b2), (c1, c2)] 0
  have v4 : vx [(a1, a2), (b1, b2), (c1, c2)] 4 = (b1, b2) := vx_add [(a1, a2), (b1, b2), (c1, c2)] 1
  match i, hi with
  | 0, _ =>
    rw [show 0 + 1 = 1 from rfl, show 0 + 2 = 2 from rfl, v1, v2]
    clear v0 v1 v2 v3 v4
    go_enter Try.func92, Try.ntmps92
    go_wp2_with fail
    obtain ⟨W0, hW0⟩ : ∃ W0, W0 = (((w.alloc (.cells #[.int .i64 a1, .int .i64 a2, .int .i64 b1, .int .i64 b2, .int .i64 c1, .int .i64 c2] 67)).alloc (.cells #[.int .i64 0, .int .i64 0] 46)).alloc (.cells #[.int .i64 0, .int .i64 0] 46)) := ⟨_, rfl⟩
    rw [← hW0]
    have yW00_0 : W0.cell? ⟨w.heap.size, 0, none⟩ = some (.int .i64 a1) := by rw [hW0]; go_simp
    have yW00_1 : W0.cell? ⟨w.heap.size, 1, none⟩ = some (.int .i64 a2) := by rw [hW0]; go_simp
    have yW00_2 : W0.cell? ⟨w.heap.size, 2, none⟩ = some (.int .i64 b1) := by rw [hW0]; go_simp
    have yW00_3 : W0.cell? ⟨w.heap.size, 3, none⟩ = some (.int .i64 b2) := by rw [hW0]; go_simp
    have yW00_4 : W0.cell? ⟨w.heap.size, 4, none⟩ = some (.int .i64 c1) := by rw [hW0]; go_simp
    have yW00_5 : W0.cell? ⟨w.heap.size, 5, none⟩ = some (.int .i64 c2) := by rw [hW0]; go_simp
    have fW00 : ∀ o, W0.frozen? ⟨w.heap.size, o, none⟩ = false := by intro o; rw [hW0]; (repeat rw [frozen?_alloc_cells]); simp [World.frozen?]
    have zW00 : w.heap.size < W0.heap.size := by rw [hW0]; simp <;> omega
    have yW01_0 : W0.cell? ⟨w.heap.size + 1, 0, none⟩ = some (.int .i64 0) := by rw [hW0]; go_simp
    have yW01_1 : W0.cell? ⟨w.heap.size + 1, 1, none⟩ = some (.int .i64 0) := by rw [hW0]; go_simp
    have fW01 : ∀ o, W0.frozen? ⟨w.heap.size + 1, o, none⟩ = false := by intro o; rw [hW0]; (repeat rw [frozen?_alloc_cells]); simp [World.frozen?]
    have zW01 : w.heap.size + 1 < W0.heap.size := by rw [hW0]; simp <;> omega
    have yW02_0 : W0.cell? ⟨w.heap.size + 2, 0, none⟩ = some (.int .i64 0) := by rw [hW0]; go_simp
    have yW02_1 : W0.cell? ⟨w.heap.size + 2, 1, none⟩ = some (.int .i64 0) := by rw [hW0]; go_simp
    have fW02 : ∀ o, W0.frozen? ⟨w.heap.size + 2, o, none⟩ = false := by intro o; rw [hW0]; (repeat rw [frozen?_alloc_cells]); simp [World.frozen?]
    have zW02 : w.heap.size + 2 < W0.heap.size := by rw [hW0]; simp <;> omega
    have BW0 : Below w.heap.size w W0 := by rw [hW0]; exact (Below.alloc (Below.alloc (Below.alloc (Below.refl _ _) (by simp <;> omega) _) (by simp <;> omega) _) (by simp <;> omega) _)
    have eW0 : Hid (W0.heap.size = w.heap.size + 3) := Lib.hid (by rw [hW0]; simp)
    clear hW0
    have g0 := fW01 0
    have g1 := fW01 1
    have g2 := fW02 0
    have g3 := fW02 1
    clear fW00 fW01 fW02
    go_region
    go_wp2_with fail
    refine bodyPost_ret (v := .tuple #[.agg #[.int .i64 b1, .int .i64 b2], .agg #[.int .i64 c1, .int .i64 c2]]) (by simp [results, Try.results92, go_sem, zW01, zW02, yW01_0, yW01_1, yW02_0, yW02_1]) rfl ⟨rfl, ?_⟩
    repeat (first | with_reducible assumption | with_reducible exact Below.refl _ _ | with_reducible apply Below.drew | ((with_reducible refine Below.setCell ?_ ?_ _); rotate_left; (first | exact Nat.le_refl _ | omega | (simp <;> omega))) | ((with_reducible refine Below.alloc ?_ ?_ _); rotate_left; (first | omega | (simp <;> omega))))
  | 1, _ =>
    rw [show 1 + 1 = 2 from rfl, show 1 + 2 = 3 from rfl, v2, v3]
    clear v0 v1 v2 v3 v4
    go_enter Try.func92, Try.ntmps92
    go_wp2_with fail
    obtain ⟨W0, hW0⟩ : ∃ W0, W0 = (((w.alloc (.cells #[.int .i64 a1, .int .i64 a2, .int .i64 b1, .int .i64 b2, .int .i64 c1, .int .i64 c2] 67)).alloc (.cells #[.int .i64 0, .int .i64 0] 46)).alloc (.cells #[.int .i64 0, .int .i64 0] 46)) := ⟨_, rfl⟩
    rw [← hW0]
    have yW00_0 : W0.cell? ⟨w.heap.size, 0, none⟩ = some (.int .i64 a1) := by rw [hW0]; go_simp
    have yW00_1 : W0.cell? ⟨w.heap.size, 1, none⟩ = some (.int .i64 a2) := by rw [hW0]; go_simp
    have yW00_2 : W0.cell? ⟨w.heap.size, 2, none⟩ = some (.int .i64 b1) := by rw [hW0]; go_simp
    have yW00_3 : W0.cell? ⟨w.heap.size, 3, none⟩ = some (.int .i64 b2) := by rw [hW0]; go_simp
    have yW00_4 : W0.cell? ⟨w.heap.size, 4, none⟩ = some (.int .i64 c1) := by rw [hW0]; go_simp
    have yW00_5 : W0.cell? ⟨w.heap.size, 5, none⟩ = some (.int .i64 c2) := by rw [hW0]; go_simp
    have fW00 : ∀ o, W0.frozen? ⟨w.heap.size, o, none⟩ = false := by intro o; rw [hW0]; (repeat rw [frozen?_alloc_cells]); simp [World.frozen?]
    have zW00 : w.heap.size < W0.heap.size := by rw [hW0]; simp <;> omega
    have yW01_0 : W0.cell? ⟨w.heap.size + 1, 0, none⟩ = some (.int .i64 0) := by rw [hW0]; go_simp
    have yW01_1 : W0.cell? ⟨w.heap.size + 1, 1, none⟩ = some (.int .i64 0) := by rw [hW0]; go_simp
    have fW01 : ∀ o, W0.frozen? ⟨w.heap.size + 1, o, none⟩ = false := by intro o; rw [hW0]; (repeat rw [frozen?_alloc_cells]); simp [World.frozen?]
    have zW01 : w.heap.size + 1 < W0.heap.size := by rw [hW0]; simp <;> omega
    have yW02_0 : W0.cell? ⟨w.heap.size + 2, 0, none⟩ = some (.int .i64 0) := by rw [hW0]; go_simp
    have yW02_1 : W0.cell? ⟨w.heap.size + 2, 1, none⟩ = some (.int .i64 0) := by rw [hW0]; go_simp
    have fW02 : ∀ o, W0.frozen? ⟨w.heap.size + 2, o, none⟩ = false := by intro o; rw [hW0]; (repeat rw [frozen?_alloc_cells]); simp [World.frozen?]
    have zW02 : w.heap.size + 2 < W0.heap.size := by rw [hW0]; simp <;> omega
    have BW0 : Below w.heap.size w W0 := by rw [hW0]; exact (Below.alloc (Below.alloc (Below.alloc (Below.refl _ _) (by simp <;> omega) _) (by simp <;> omega) _) (by simp <;> omega) _)
    have eW0 : Hid (W0.heap.size = w.heap.size + 3) := Lib.hid (by rw [hW0]; simp)
    clear hW0
    have g0 := fW01 0
    have g1 := fW01 1
    have g2 := fW02 0
    have g3 := fW02 1
    clear fW00 fW01 fW02
    go_region
    go_wp2_with fail
    refine bodyPost_ret (v := .tuple #[.agg #[.int .i64 c1, .int .i64 c2], .agg #[.int .i64 a1, .int .i64 a2]]) (by simp [results, Try.results92, go_sem, zW01, zW02, yW01_0, yW01_1, yW02_0, yW02_1]) rfl ⟨rfl, ?_⟩
    repeat (first | with_reducible assumption | with_reducible exact Below.refl _ _ | with_reducible apply Below.drew | ((with_reducible refine Below.setCell ?_ ?_ _); rotate_left; (first | exact Nat.le_refl _ | omega | (simp <;> omega))) | ((with_reducible refine Below.alloc ?_ ?_ _); rotate_left; (first | omega | (simp <;> omega))))
  | 2, _ =>
    rw [show 2 + 1 = 3 from rfl, show 2 + 2 = 4 from rfl, v3, v4]
    clear v0 v1 v2 v3 v4
    go_enter Try.func92, Try.ntmps92
    go_wp2_with fail
    obtain ⟨W0, hW0⟩ : ∃ W0, W0 = (((w.alloc (.cells #[.int .i64 a1, .int .i64 a2, .int .i64 b1, .int .i64 b2, .int .i64 c1, .int .i64 c2] 67)).alloc (.cells #[.int .i64 0, .int .i64 0] 46)).alloc (.cells #[.int .i64 0, .int .i64 0] 46)) := ⟨_, rfl⟩
    rw [← hW0]
    have yW00_0 : W0.cell? ⟨w.heap.size, 0, none⟩ = some (.int .i64 a1) := by rw [hW0]; go_simp
    have yW00_1 : W0.cell? ⟨w.heap.size, 1, none⟩ = some (.int .i64 a2) := by rw [hW0]; go_simp
    have yW00_2 : W0.cell? ⟨w.heap.size, 2, none⟩ = some (.int .i64 b1) := by rw [hW0]; go_simp
    have yW00_3 : W0.cell? ⟨w.heap.size, 3, none⟩ = some (.int .i64 b2) := by rw [hW0]; go_simp
    have yW00_4 : W0.cell? ⟨w.heap.size, 4, none⟩ = some (.int .i64 c1) := by rw [hW0]; go_simp
    have yW00_5 : W0.cell? ⟨w.heap.size, 5, none⟩ = some (.int .i64 c2) := by rw [hW0]; go_simp
    have fW00 : ∀ o, W0.frozen? ⟨w.heap.size, o, none⟩ = false := by intro o; rw [hW0]; (repeat rw [frozen?_alloc_cells]); simp [World.frozen?]
    have zW00 : w.heap.size < W0.heap.size := by rw [hW0]; simp <;> omega
    have yW01_0 : W0.cell? ⟨w.heap.size + 1, 0, none⟩ = some (.int .i64 0) := by rw [hW0]; go_simp
    have yW01_1 : W0.cell? ⟨w.heap.size + 1, 1, none⟩ = some (.int .i64 0) := by rw [hW0]; go_simp
    have fW01 : ∀ o, W0.frozen? ⟨w.heap.size + 1, o, none⟩ = false := by intro o; rw [hW0]; (repeat rw [frozen?_alloc_cells]); simp [World.frozen?]
    have zW01 : w.heap.size + 1 < W0.heap.size := by rw [hW0]; simp <;> omega
    have yW02_0 : W0.cell? ⟨w.heap.size + 2, 0, none⟩ = some (.int .i64 0) := by rw [hW0]; go_simp
    have yW02_1 : W0.cell? ⟨w.heap.size + 2, 1, none⟩ = some (.int .i64 0) := by rw [hW0]; go_simp
    have fW02 : ∀ o, W0.frozen? ⟨w.heap.size + 2, o, none⟩ = false := by intro o; rw [hW0]; (repeat rw [frozen?_alloc_cells]); simp [World.frozen?]
    have zW02 : w.heap.size + 2 < W0.heap.size := by rw [hW0]; simp <;> omega
    have BW0 : Below w.heap.size w W0 := by rw [hW0]; exact (Below.alloc (Below.alloc (Below.alloc (Below.refl _ _) (by simp <;> omega) _) (by simp <;> omega) _) (by simp <;> omega) _)
    have eW0 : Hid (W0.heap.size = w.heap.size + 3) := Lib.hid (by rw [hW0]; simp)
    clear hW0
    have g0 := fW01 0
    have g1 := fW01 1
    have g2 := fW02 0
    have g3 := fW02 1
    clear fW00 fW01 fW02
    go_region
    go_wp2_with fail
    refine bodyPost_ret (v := .tuple #[.agg #[.int .i64 a1, .int .i64 a2], .agg #[.int .i64 b1, .int .i64 b2]]) (by simp [results, Try.results92, go_sem, zW01, zW02, yW01_0, yW01_1, yW02_0, yW02_1]) rfl ⟨rfl, ?_⟩
    repeat (first | with_reducible assumption | with_reducible exact Below.refl _ _ | with_reducible apply Below.drew | ((with_reducible refine Below.setCell ?_ ?_ _); rotate_left; (first | exact Nat.le_refl _ | omega | (simp <;> omega))) | ((with_reducible refine Below.alloc ?_ ?_ _); rotate_left; (first | omega | (simp <;> omega))))
end Go.Proofs.Ytgjegildeejghaa
/- contract: the squares of all sides, by the program -/
namespace Go.Proofs.Ytgjegildeejghaa
open Go.ChangeShapes Go.WideShapes Go.ChangeAt Go.RowKit Go.Joins
set_option linter.unusedVariables false
set_option linter.unusedSimpArgs false
set_option maxRecDepth 4000
/-- three numbers, the first k of them set, in block g; the other blocks are as in W0 -/
structure SqR (w W0 wr : World) (g k : Nat) (s : Nat → Int) : Prop where
  below : Below w.heap.size w wr
  size : W0.heap.size ≤ wr.heap.size
  other : ∀ b o, b < W0.heap.size → b ≠ g → wr.cell? ⟨b, o, none⟩ = W0.cell? ⟨b, o, none⟩ ∧ wr.frozen? ⟨b, o, none⟩ = W0.frozen? ⟨b, o, none⟩
  row : ∀ j, j < 3 → wr.cell? ⟨g, j, none⟩ = some (.int .i64 (if j < k then s j else 0)) ∧ wr.frozen? ⟨g, j, none⟩ = false
theorem sqr_below {w W0 wr wr' : World} {g k : Nat} {s : Nat → Int} (h : SqR w W0 wr g k s) (hg : g < W0.heap.size) (hb : Below wr.heap.size wr wr') : SqR w W0 wr' g k s := by
  obtain ⟨h1, h2, h3, h4⟩ := h
  have hc := (bcell hb).1
  have hf := (bcell hb).2
  have hz := hb.size
  exact ⟨h1.trans (hb.mono h1.size), by omega, fun b o hb' hne => by rw [hc _ _ (by omega), hf _ _ (by omega)]; exact h3 b o hb' hne, fun j hj => by rw [hc _ _ (by omega), hf _ _ (by omega)]; exact h4 j hj⟩
theorem sqr_store {w W0 wr : World} {g k : Nat} {s : Nat → Int} (h : SqR w W0 wr g k s) (hk : k < 3) (hw : w.heap.size ≤ g) : SqR w W0 (wr.setCell ⟨g, k, none⟩ (.int .i64 (s k))) g (k + 1) s := by
  obtain ⟨h1, h2, h3, h4⟩ := h
  refine ⟨h1.setCell hw _, by simpa [World.setCell] using h2, fun b o hb hne => ?_, fun j hj => ?_⟩
  · rw [World.cell?_setCell_other _ _ _ _ (fun e => hne (by injection e with e1 e2; exact e1.symm)), World.frozen?_setCell]; exact h3 b o hb hne
  · obtain ⟨c1, c2⟩ := h4 j hj
    refine ⟨?_, by rw [World.frozen?_setCell]; exact c2⟩
    by_cases hjk : j = k
    · subst hjk
      rw [World.cell?_setCell_same _ _ _ c1, if_pos (by omega)]
    · rw [World.cell?_setCell_other _ _ _ _ (fun e => hjk (by injection e with e1 e2; exact e2.symm)), c1]
      by_cases hlt : j < k
      · rw [if_pos hlt, if_pos (by omega)]
      · rw [if_neg hlt, if_neg (by omega)]
theorem sqP_back (p q : Int × Int) : (q.1 - p.1) * (q.1 - p.1) + (q.2 - p.2) * (q.2 - p.2) = sqP p q := by unfold sqP sqI; grind
set_option maxHeartbeats 4000000 in
theorem sideSquares_any (l : List (Int × Int)) (a1 a2 b1 b2 c1 c2 : Int) (w : World) (ht : Tri l a1 a2 b1 b2 c1 c2) :
    Calls Try.prog 61 #[.agg #[.int .i64 a1, .int .i64 a2, .int .i64 b1, .int .i64 b2, .int .i64 c1, .int .i64 c2]] w fun e w' => e = .returned (.agg #[.int .i64 (sdF l 0), .int .i64 (sdF l 1), .int .i64 (sdF l 2)]) ∧ Below w.heap.size w w' := by
  have hpg : ∀ i, (-40 ≤ (vx l i).1 ∧ (vx l i).1 ≤ 40) ∧ (-40 ≤ (vx l i).2 ∧ (vx l i).2 ≤ 40) := fun i => by
    have := vx_pg ht.2.pegs (good_pos ht.2) i
    unfold isPg isPegB at this
    simp only [Bool.and_eq_true, decide_eq_true_eq] at this
    exact this
  have KS := Lib.hid (fun i hi W => (show Calls Try.prog 92 #[.agg #[.int .i64 a1, .int .i64 a2, .int .i64 b1, .int .i64 b2, .int .i64 c1, .int .i64 c2], .int .i64 (i : Nat)] W fun e w' => e = .returned (.tuple #[.agg #[.int .i64 (vx l (i + 1)).1, .int .i64 (vx l (i + 1)).2], .agg #[.int .i64 (vx l (i + 2)).1, .int .i64 (vx l (i + 2)).2]]) ∧ Below W.heap.size W w' from by
    rw [ht.1]; exact side_any a1 a2 b1 b2 c1 c2 i hi W))
  have KM := Lib.hid (fun i W => minus_any (vx l (i + 2)).1 (vx l (i + 2)).2 (vx l (i + 1)).1 (vx l (i + 1)).2 W (by have := hpg (i + 2); unfold Mid; omega) (by have := hpg (i + 2); unfold Mid; omega) (by have := hpg (i + 1); unfold Mid; omega) (by have := hpg (i + 1); unfold Mid; omega))
  have KQ := Lib.hid (fun i W => (show Calls Try.prog 77 #[.agg #[.int .i64 ((vx l (i + 2)).1 - (vx l (i + 1)).1), .int .i64 ((vx l (i + 2)).2 - (vx l (i + 1)).2)]] W fun e w' => e = .returned (.int .i64 (sdF l i)) ∧ Below W.heap.size W w' from by
    have := square_any ((vx l (i + 2)).1 - (vx l (i + 1)).1) ((vx l (i + 2)).2 - (vx l (i + 1)).2) W (by have h1 := hpg (i + 2); have h2 := hpg (i + 1); omega) (by have h1 := hpg (i + 2); have h2 := hpg (i + 1); omega)
    rw [sqP_back (vx l (i + 1)) (vx l (i + 2))] at this
    exact this))
  clear ht hpg
  generalize sdF l = s at *
  go_enter Try.func61, Try.ntmps61
  go_wp2_with fail
  obtain ⟨W0, hW0⟩ : ∃ W0, W0 = (((w.alloc (.cells #[.int .i64 a1, .int .i64 a2, .int .i64 b1, .int .i64 b2, .int .i64 c1, .int .i64 c2] 67)).alloc (.cells #[.int .i64 0, .int .i64 0, .int .i64 0] 72)).alloc (.cells #[.int .i64 0, .int .i64 0, .int .i64 0] 72)) := ⟨_, rfl⟩
  rw [← hW0]
  have yW00_0 : W0.cell? ⟨w.heap.size, 0, none⟩ = some (.int .i64 a1) := by rw [hW0]; go_simp
  have yW00_1 : W0.cell? ⟨w.heap.size, 1, none⟩ = some (.int .i64 a2) := by rw [hW0]; go_simp
  have yW00_2 : W0.cell? ⟨w.heap.size, 2, none⟩ = some (.int .i64 b1) := by rw [hW0]; go_simp
  have yW00_3 : W0.cell? ⟨w.heap.size, 3, none⟩ = some (.int .i64 b2) := by rw [hW0]; go_simp
  have yW00_4 : W0.cell? ⟨w.heap.size, 4, none⟩ = some (.int .i64 c1) := by rw [hW0]; go_simp
  have yW00_5 : W0.cell? ⟨w.heap.size, 5, none⟩ = some (.int .i64 c2) := by rw [hW0]; go_simp
  have fW00 : ∀ o, W0.frozen? ⟨w.heap.size, o, none⟩ = false := by intro o; rw [hW0]; (repeat rw [frozen?_alloc_cells]); simp [World.frozen?]
  have zW00 : w.heap.size < W0.heap.size := by rw [hW0]; simp <;> omega
  have yW01_0 : W0.cell? ⟨w.heap.size + 1, 0, none⟩ = some (.int .i64 0) := by rw [hW0]; go_simp
  have yW01_1 : W0.cell? ⟨w.heap.size + 1, 1, none⟩ = some (.int .i64 0) := by rw [hW0]; go_simp
  have yW01_2 : W0.cell? ⟨w.heap.size + 1, 2, none⟩ = some (.int .i64 0) := by rw [hW0]; go_simp
  have fW01 : ∀ o, W0.frozen? ⟨w.heap.size + 1, o, none⟩ = false := by intro o; rw [hW0]; (repeat rw [frozen?_alloc_cells]); simp [World.frozen?]
  have zW01 : w.heap.size + 1 < W0.heap.size := by rw [hW0]; simp <;> omega
  have yW02_0 : W0.cell? ⟨w.heap.size + 2, 0, none⟩ = some (.int .i64 0) := by rw [hW0]; go_simp
  have yW02_1 : W0.cell? ⟨w.heap.size + 2, 1, none⟩ = some (.int .i64 0) := by rw [hW0]; go_simp
  have yW02_2 : W0.cell? ⟨w.heap.size + 2, 2, none⟩ = some (.int .i64 0) := by rw [hW0]; go_simp
  have fW02 : ∀ o, W0.frozen? ⟨w.heap.size + 2, o, none⟩ = false := by intro o; rw [hW0]; (repeat rw [frozen?_alloc_cells]); simp [World.frozen?]
  have zW02 : w.heap.size + 2 < W0.heap.size := by rw [hW0]; simp <;> omega
  have BW0 : Below w.heap.size w W0 := by rw [hW0]; exact (Below.alloc (Below.alloc (Below.alloc (Below.refl _ _) (by simp <;> omega) _) (by simp <;> omega) _) (by simp <;> omega) _)
  have eW0 : Hid (W0.heap.size = w.heap.size + 3) := Lib.hid (by rw [hW0]; simp)
  clear hW0
  have HS := Lib.hid (show SqR w W0 W0 (w.heap.size + 2) 0 s from ⟨BW0, Nat.le_refl _, fun b o _ _ => ⟨rfl, rfl⟩, fun j hj => by
    rw [if_neg (by omega)]
    match j, hj with
    | 0, _ => exact ⟨yW02_0, fW02 0⟩
    | 1, _ => exact ⟨yW02_1, fW02 1⟩
    | 2, _ => exact ⟨yW02_2, fW02 2⟩⟩)
  clear yW02_0 yW02_1 yW02_2 fW02
  have HX := Lib.hid (And.intro yW00_0 (And.intro yW00_1 (And.intro yW00_2 (And.intro yW00_3 (And.intro yW00_4 yW00_5)))))
  have HY := Lib.hid (And.intro yW01_0 (And.intro yW01_1 (And.intro yW01_2 fW01)))
  clear yW00_0 yW00_1 yW00_2 yW00_3 yW00_4 yW00_5 yW01_0 yW01_1 yW01_2 fW01 fW00
  go_wp2_with fail
  go_loopg [7] 3 (fun gg i wr => ∃ k : Nat, k ≤ 3 ∧ gg = 3 - k ∧ i = .int .i64 k ∧ Hid (SqR w W0 wr (w.heap.size + 2) k s))
  case atStart => exact ⟨0, Nat.zero_le _, rfl, rfl, HS⟩
  case round =>
    clear HS
    obtain ⟨k, hk, hgg, rfl, hS⟩ := hrel
    rename World => wo
    have HGK := Lib.hid hgg
    clear hgg
    by_cases hlt : k < 3
    · have o0 := fun o => (hS.out.other w.heap.size o zW00 (by omega)).1
      obtain ⟨h0, h1, h2, h3, h4, h5⟩ := HX.out
      have x0 := (o0 0).trans h0
      have x1 := (o0 1).trans h1
      have x2 := (o0 2).trans h2
      have x3 := (o0 3).trans h3
      have x4 := (o0 4).trans h4
      have x5 := (o0 5).trans h5
      have hz := hS.out.size
      have zz : w.heap.size < wo.heap.size := by omega
      clear o0 h0 h1 h2 h3 h4 h5
      have d1 : ((k : Int) < 3) := by omega
      go_wp2_with fail
      refine (KS.out k hlt _).mono ?_; rintro e w1 ⟨rfl, hb1⟩
      have S1 := Lib.hid (sqr_below hS.out zW02 hb1)
      clear hS x0 x1 x2 x3 x4 x5 hb1
      have z1 := S1.out.size
      go_wp2_with fail
      have BA : Below w1.heap.size w1 ((w1.alloc (.cells #[.int .i64 (vx l (k + 1)).1, .int .i64 (vx l (k + 1)).2] 46)).alloc (.cells #[.int .i64 (vx l (k + 2)).1, .int .i64 (vx l (k + 2)).2] 46)) := Below.alloc (Below.alloc (Below.refl _ _) (Nat.le_refl _) _) (by simp) _
      have S2 := Lib.hid (sqr_below S1.out zW02 BA)
      clear S1
      refine (KM.out k _).mono ?_; rintro e w2 ⟨rfl, hb2⟩
      have S3 := Lib.hid (sqr_below S2.out zW02 hb2)
      clear S2 hb2 BA
      go_wp2_with fail
      refine (KQ.out k _).mono ?_; rintro e w3 ⟨rfl, hb3⟩
      have S4 := Lib.hid (sqr_below S3.out zW02 hb3)
      obtain ⟨r1, r2⟩ := S4.out.row k hlt
      have S5 := Lib.hid (sqr_store S4.out hlt (by omega))
      have z4 := S4.out.size
      have zg : w.heap.size + 2 < w3.heap.size := by omega
      clear S3 hb3 S4
      go_wp2_with fail
      go_roundg (3 - (k + 1))
      case measure => have := HGK.out; omega
      case rel => exact ⟨k + 1, by omega, rfl, by go_num, S5⟩
    · have hk3 : k = 3 := by omega
      subst hk3
      have r0 := (hS.out.row 0 (by omega)).1
      have r1 := (hS.out.row 1 (by omega)).1
      have r2 := (hS.out.row 2 (by omega)).1
      rw [if_pos (by omega)] at r0 r1 r2
      have o1 := fun o => (hS.out.other (w.heap.size + 1) o zW01 (by omega))
      obtain ⟨h0, h1, h2, h3⟩ := HY.out
      have x0 := (o1 0).1.trans h0
      have x1 := (o1 1).1.trans h1
      have x2 := (o1 2).1.trans h2
      have x3 := (o1 0).2.trans (h3 0)
      have x4 := (o1 1).2.trans (h3 1)
      have x5 := (o1 2).2.trans (h3 2)
      have hz := hS.out.size
      have zz : w.heap.size + 1 < wo.heap.size := by omega
      have zg : w.heap.size + 2 < wo.heap.size := by omega
      have B1 := hS.out.below
      clear o1 h0 h1 h2 h3 hS
      go_wp2_with fail
      refine bodyPost_ret (v := .agg #[.int .i64 (s 0), .int .i64 (s 1), .int .i64 (s 2)]) (by simp [results, Try.results61, go_sem, zz, x0, x1, x2]) rfl ⟨rfl, ?_⟩
      repeat (first | with_reducible assumption | with_reducible exact Below.refl _ _ | with_reducible apply Below.drew | ((with_reducible refine Below.setCell ?_ ?_ _); rotate_left; (first | exact Nat.le_refl _ | omega | (simp <;> omega))) | ((with_reducible refine Below.alloc ?_ ?_ _); rotate_left; (first | omega | (simp <;> omega))))
end Go.Proofs.Ytgjegildeejghaa
/- contract: the circle through a triangle's corners, the program -/
namespace Go.Proofs.Ytgjegildeejghaa
open Go.ChangeShapes Go.WideShapes Go.ChangeAt Go.RowKit Go.Joins
set_option linter.unusedVariables false
set_option linter.unusedSimpArgs false
set_option maxRecDepth 4000
theorem turnedM_any (p1 p2 : Int) (w : World) (h1 : Mid p1) (h2 : Mid p2) :
    Calls Try.prog 95 #[.agg #[.int .i64 p1, .int .i64 p2]] w fun e w' => e = .returned (.agg #[.int .i64 (-p2), .int .i64 (p1)]) ∧ Below w.heap.size w w' := by
  obtain ⟨x1, x2⟩ := h1
  obtain ⟨x3, x4⟩ := h2
  go_enter Try.func95, Try.ntmps95
  go_wp2
  exact bodyPost_ret (v := .agg #[.int .i64 (-p2), .int .i64 (p1)]) (by simp [results, Try.results95, go_sem]) rfl ⟨rfl, (by repeat (first | exact Below.refl _ _ | assumption | apply Below.drew | refine Below.alloc ?_ (by simp <;> omega) _))⟩
/-- the part of corner number i in the middle of the circle; the first of them together -/
def mpF (l : List (Int × Int)) (i : Nat) : Int × Int := (-((vx l (i + 2)).2 - (vx l (i + 1)).2) * ((vx l i).1 * (vx l i).1 + (vx l i).2 * (vx l i).2), ((vx l (i + 2)).1 - (vx l (i + 1)).1) * ((vx l i).1 * (vx l i).1 + (vx l i).2 * (vx l i).2))
def msF (l : List (Int × Int)) : Nat → Int × Int
  | 0 => (0, 0)
  | i + 1 => ((msF l i).1 + (mpF l i).1, (msF l i).2 + (mpF l i).2)
theorem msF_all {l : List (Int × Int)} {a1 a2 b1 b2 c1 c2 : Int} (h : Tri l a1 a2 b1 b2 c1 c2) : msF l 3 = (cxI a1 a2 b1 b2 c1 c2, cyI a1 a2 b1 b2 c1 c2) := by
  have v0 : vx l 0 = (a1, a2) := by rw [h.1]; rfl
  have v1 : vx l 1 = (b1, b2) := by rw [h.1]; rfl
  have v2 : vx l 2 = (c1, c2) := by rw [h.1]; rfl
  have v3 : vx l 3 = (a1, a2) := by rw [h.1]; exact vx_add [(a1, a2), (b1, b2), (c1, c2)] 0
  have v4 : vx l 4 = (b1, b2) := by rw [h.1]; exact vx_add [(a1, a2), (b1, b2), (c1, c2)] 1
  unfold msF msF msF msF mpF
  simp only [Nat.zero_add, show 1 + 2 = 3 from rfl, show 1 + 1 = 2 from rfl, show 2 + 1 = 3 from rfl, show 2 + 2 = 4 from rfl, v0, v1, v2, v3, v4]
  unfold cxI cyI
  refine Prod.ext ?_ ?_
  · show _ = _
    grind
  · show _ = _
    grind
end Go.Proofs.Ytgjegildeejghaa
/- contracts: points added, and taken several times -/
namespace Go.Proofs.Ytgjegildeejghaa
open Go.ChangeShapes Go.WideShapes Go.ChangeAt Go.RowKit Go.Joins
set_option linter.unusedVariables false
set_option linter.unusedSimpArgs false
set_option maxRecDepth 4000
theorem plus_any (a1 a2 b1 b2 : Int) (w : World) (h1 : Mid a1) (h2 : Mid a2) (h3 : Mid b1) (h4 : Mid b2) :
    Calls Try.prog 80 #[.agg #[.int .i64 a1, .int .i64 a2], .agg #[.int .i64 b1, .int .i64 b2]] w fun e w' => e = .returned (.agg #[.int .i64 (a1 + b1), .int .i64 (a2 + b2)]) ∧ Below w.heap.size w w' := by
  obtain ⟨x1, x2⟩ := h1
  obtain ⟨x3, x4⟩ := h2
  obtain ⟨x5, x6⟩ := h3
  obtain ⟨x7, x8⟩ := h4
  go_enter Try.func80, Try.ntmps80
  go_wp2
  refine bodyPost_ret (v := .agg #[.int .i64 (a1 + b1), .int .i64 (a2 + b2)]) (by simp [results, Try.results80, go_sem]) rfl ⟨rfl, ?_⟩
  repeat (first | with_reducible assumption | with_reducible exact Below.refl _ _ | with_reducible apply Below.drew | ((with_reducible refine Below.setCell ?_ ?_ _); rotate_left; (first | exact Nat.le_refl _ | omega | (simp <;> omega))) | ((with_reducible refine Below.alloc ?_ ?_ _); rotate_left; (first | omega | (simp <;> omega))))
theorem times_any (a1 a2 n : Int) (w : World) (h1 : -1000000000000000 ≤ a1 * n ∧ a1 * n ≤ 1000000000000000) (h2 : -1000000000000000 ≤ a2 * n ∧ a2 * n ≤ 1000000000000000) :
    Calls Try.prog 75 #[.agg #[.int .i64 a1, .int .i64 a2], .int .i64 n] w fun e w' => e = .returned (.agg #[.int .i64 (a1 * n), .int .i64 (a2 * n)]) ∧ Below w.heap.size w w' := by
  obtain ⟨x1, x2⟩ := h1
  obtain ⟨x3, x4⟩ := h2
  go_enter Try.func75, Try.ntmps75
  go_wp2
  refine bodyPost_ret (v := .agg #[.int .i64 (a1 * n), .int .i64 (a2 * n)]) (by simp [results, Try.results75, go_sem]) rfl ⟨rfl, ?_⟩
  repeat (first | with_reducible assumption | with_reducible exact Below.refl _ _ | with_reducible apply Below.drew | ((with_reducible refine Below.setCell ?_ ?_ _); rotate_left; (first | exact Nat.le_refl _ | omega | (simp <;> omega))) | ((with_reducible refine Below.alloc ?_ ?_ _); rotate_left; (first | omega | (simp <;> omega))))
end Go.Proofs.Ytgjegildeejghaa
/- points added, and taken several times; squares -/
/- a triangle's corner, by its number -/
namespace Go.Proofs.Ytgjegildeejghaa
open Go.ChangeShapes Go.WideShapes Go.ChangeAt Go.RowKit Go.Joins
set_option linter.unusedVariables false
set_option linter.unusedSimpArgs false
set_option maxRecDepth 4000
theorem index3_0 (a1 a2 b1 b2 c1 c2 : Int) (W : World) : (Instr.index 67 (.agg #[.int .i64 a1, .int .i64 a2, .int .i64 b1, .int .i64 b2, .int .i64 c1, .int .i64 c2]) (.int .i64 0)).run Try.prog W = .ok (.agg #[.int .i64 a1, .int .i64 a2]) W := by
  first | rfl | kernel_rfl | simp [Instr.index, go_sem]
theorem index3_1 (a1 a2 b1 b2 c1 c2 : Int) (W : World) : (Instr.index 67 (.agg #[.int .i64 a1, .int .i64 a2, .int .i64 b1, .int .i64 b2, .int .i64 c1, .int .i64 c2]) (.int .i64 1)).run Try.prog W = .ok (.agg #[.int .i64 b1, .int .i64 b2]) W := by
  first | rfl | kernel_rfl | simp [Instr.index, go_sem]
theorem index3_2 (a1 a2 b1 b2 c1 c2 : Int) (W : World) : (Instr.index 67 (.agg #[.int .i64 a1, .int .i64 a2, .int .i64 b1, .int .i64 b2, .int .i64 c1, .int .i64 c2]) (.int .i64 2)).run Try.prog W = .ok (.agg #[.int .i64 c1, .int .i64 c2]) W := by
  first | rfl | kernel_rfl | simp [Instr.index, go_sem]
end Go.Proofs.Ytgjegildeejghaa
/- contracts: a triangle's corners together; twice its area without a sign -/
namespace Go.Proofs.Ytgjegildeejghaa
open Go.ChangeShapes Go.WideShapes Go.ChangeAt Go.RowKit Go.Joins
set_option linter.unusedVariables false
set_option linter.unusedSimpArgs false
set_option maxRecDepth 4000
theorem twiceSize_any (a1 a2 b1 b2 c1 c2 : Int) (w : World) (ha : Sz a1 a2) (hb : Sz b1 b2) (hc : Sz c1 c2) :
    Calls Try.prog 57 #[.agg #[.int .i64 a1, .int .i64 a2, .int .i64 b1, .int .i64 b2, .int .i64 c1, .int .i64 c2]] w fun e w' => e = .returned (.int .i64 ((twI a1 a2 b1 b2 c1 c2).natAbs : Int)) ∧ Below w.heap.size w w' := by
  have K := Lib.hid (fun W => twice_any a1 a2 b1 b2 c1 c2 W ha hb hc)
  obtain ⟨t1, t2⟩ := twI_bd ha hb hc
  generalize twI a1 a2 b1 b2 c1 c2 = t at *
  clear ha hb hc
  have e1 : IntKind.i64.wrap (-t) = -t := IntWalk.i64_in _ (by omega)
  by_cases h : t < -t
  all_goals
    go_enter Try.func57, Try.ntmps57
    go_wp2_with fail
    obtain ⟨W0, hW0⟩ : ∃ W0, W0 = (w.alloc (.cells #[.int .i64 a1, .int .i64 a2, .int .i64 b1, .int .i64 b2, .int .i64 c1, .int .i64 c2] 67)) := ⟨_, rfl⟩
    rw [← hW0]
    have yW00_0 : W0.cell? ⟨w.heap.size, 0, none⟩ = some (.int .i64 a1) := by rw [hW0]; go_simp
    have yW00_1 : W0.cell? ⟨w.heap.size, 1, none⟩ = some (.int .i64 a2) := by rw [hW0]; go_simp
    have yW00_2 : W0.cell? ⟨w.heap.size, 2, none⟩ = some (.int .i64 b1) := by rw [hW0]; go_simp
    have yW00_3 : W0.cell? ⟨w.heap.size, 3, none⟩ = some (.int .i64 b2) := by rw [hW0]; go_simp
    have yW00_4 : W0.cell? ⟨w.heap.size, 4, none⟩ = some (.int .i64 c1) := by rw [hW0]; go_simp
    have yW00_5 : W0.cell? ⟨w.heap.size, 5, none⟩ = some (.int .i64 c2) := by rw [hW0]; go_simp
    have fW00 : ∀ o, W0.frozen? ⟨w.heap.size, o, none⟩ = false := by intro o; rw [hW0]; (repeat rw [frozen?_alloc_cells]); simp [World.frozen?]
    have zW00 : w.heap.size < W0.heap.size := by rw [hW0]; simp <;> omega
    have BW0 : Below w.heap.size w W0 := by rw [hW0]; exact (Below.alloc (Below.refl _ _) (by simp <;> omega) _)
    have eW0 : Hid (W0.heap.size = w.heap.size + 1) := Lib.hid (by rw [hW0]; simp)
    clear hW0
    refine wp_region_BT 6 (fun W => Below (W0).heap.size (W0) W) (by kernel_rfl) (by kernel_rfl) (by repeat (first | exact Below.refl _ _ | apply Below.drew)) ?_
    simp only [List.take_succ_cons, List.take_zero, List.drop_succ_cons, List.drop_zero]
    first | refine wpH_skip (by rfl) ?_ | (refine wpH_text (v := ?_) (by rfl) (fun W k1 => ?_) ?_; rotate_left; (obtain ⟨hc1, hf1⟩ := bcell k1;  go_simp; refine comes_v ?_; exact k1))
    (try simp only [Act.put, List.setIfInBounds_toArray, List.set_cons_zero, List.set_cons_succ])
    first | refine wpH_skip (by rfl) ?_ | (refine wpH_text (v := .int .i64 t) (by rfl) (fun W k1 => ?_) ?_; (obtain ⟨hc1, hf1⟩ := bcell k1;  go_simp; exact comes_c ( K.out _) (fun wn hbn => k1.trans (hbn.mono k1.size))))
    (try simp only [Act.put, List.setIfInBounds_toArray, List.set_cons_zero, List.set_cons_succ])
    first | refine wpH_skip (by rfl) ?_ | (refine wpH_text (v := ?_) (by rfl) (fun W k1 => ?_) ?_; rotate_left; (obtain ⟨hc1, hf1⟩ := bcell k1;  go_simp; refine comes_v ?_; exact k1))
    (try simp only [Act.put, List.setIfInBounds_toArray, List.set_cons_zero, List.set_cons_succ])
    first | refine wpH_skip (by rfl) ?_ | (refine wpH_text (v := .int .i64 t) (by rfl) (fun W k1 => ?_) ?_; (obtain ⟨hc1, hf1⟩ := bcell k1;  go_simp; exact comes_c ( K.out _) (fun wn hbn => k1.trans (hbn.mono k1.size))))
    (try simp only [Act.put, List.setIfInBounds_toArray, List.set_cons_zero, List.set_cons_succ])
    first | refine wpH_skip (by rfl) ?_ | (refine wpH_text (v := ?_) (by rfl) (fun W k1 => ?_) ?_; rotate_left; (obtain ⟨hc1, hf1⟩ := bcell k1;  go_simp; refine comes_v ?_; exact k1))
    (try simp only [Act.put, List.setIfInBounds_toArray, List.set_cons_zero, List.set_cons_succ])
    first | refine wpH_skip (by rfl) ?_ | (refine wpH_text (v := ?_) (by rfl) (fun W k1 => ?_) ?_; rotate_left; (obtain ⟨hc1, hf1⟩ := bcell k1;  go_simp; refine comes_v ?_; exact k1))
    (try simp only [Act.put, List.setIfInBounds_toArray, List.set_cons_zero, List.set_cons_succ])
    refine wpH_nil ?_
    intro W k1; obtain ⟨hc1, hf1⟩ := bcell k1
    have B1 : Below w.heap.size w W := BW0.trans (k1.mono BW0.size)
    go_wp2_with fail
    go_ret
    exact ⟨ret_int (by omega), B1⟩
end Go.Proofs.Ytgjegildeejghaa
/- contract: the circle through a triangle's corners, the program -/
namespace Go.Proofs.Ytgjegildeejghaa
open Go.ChangeShapes Go.WideShapes Go.ChangeAt Go.RowKit Go.Joins
set_option linter.unusedVariables false
set_option linter.unusedSimpArgs false
set_option maxRecDepth 4000
theorem index3_any {l : List (Int × Int)} {a1 a2 b1 b2 c1 c2 : Int} (h : l = [(a1, a2), (b1, b2), (c1, c2)]) (k : Nat) (hk : k < 3) (W : World) : (Instr.index 67 (.agg #[.int .i64 a1, .int .i64 a2, .int .i64 b1, .int .i64 b2, .int .i64 c1, .int .i64 c2]) (.int .i64 (k : Int))).run Try.prog W = .ok (.agg #[.int .i64 (vx l k).1, .int .i64 (vx l k).2]) W := by
  subst h
  match k, hk with
  | 0, _ => exact index3_0 a1 a2 b1 b2 c1 c2 W
  | 1, _ => exact index3_1 a1 a2 b1 b2 c1 c2 W
  | 2, _ => exact index3_2 a1 a2 b1 b2 c1 c2 W
/-- a point in block g; the other blocks are as in W0 -/
structure MsR (w W0 wr : World) (g : Nat) (p : Int × Int) : Prop where
  below : Below w.heap.size w wr
  size : W0.heap.size ≤ wr.heap.size
  other : ∀ b o, b < W0.heap.size → b ≠ g → wr.cell? ⟨b, o, none⟩ = W0.cell? ⟨b, o, none⟩ ∧ wr.frozen? ⟨b, o, none⟩ = W0.frozen? ⟨b, o, none⟩
  c0 : wr.cell? ⟨g, 0, none⟩ = some (.int .i64 p.1)
  c1 : wr.cell? ⟨g, 1, none⟩ = some (.int .i64 p.2)
  f : ∀ o, wr.frozen? ⟨g, o, none⟩ = false
theorem msr_below {w W0 wr wr' : World} {g : Nat} {p : Int × Int} (h : MsR w W0 wr g p) (hg : g < W0.heap.size) (hb : Below wr.heap.size wr wr') : MsR w W0 wr' g p := by
  obtain ⟨h1, h2, h3, h4, h5, h6⟩ := h
  have hc := (bcell hb).1
  have hf := (bcell hb).2
  have hz := hb.size
  exact ⟨h1.trans (hb.mono h1.size), by omega, fun b o hb' hne => by rw [hc _ _ (by omega), hf _ _ (by omega)]; exact h3 b o hb' hne, by rw [hc _ _ (by omega)]; exact h4, by rw [hc _ _ (by omega)]; exact h5, fun o => by rw [hf _ _ (by omega)]; exact h6 o⟩
theorem msr_store {w W0 wr : World} {g : Nat} {p : Int × Int} (h : MsR w W0 wr g p) (hw : w.heap.size ≤ g) (x y : Int) : MsR w W0 ((wr.setCell ⟨g, 0, none⟩ (.int .i64 x)).setCell ⟨g, 1, none⟩ (.int .i64 y)) g (x, y) := by
  obtain ⟨h1, h2, h3, h4, h5, h6⟩ := h
  have n1 : ∀ b o oo, b ≠ g → (⟨g, oo, none⟩ : Addr) ≠ ⟨b, o, none⟩ := fun b o oo hne e => hne (by injection e with e1 e2; exact e1.symm)
  refine ⟨(h1.setCell hw _).setCell hw _, by simpa [World.setCell] using h2, fun b o hb hne => ?_, ?_, ?_, fun o => ?_⟩
  · rw [World.cell?_setCell_other _ _ _ _ (n1 b o 1 hne), World.cell?_setCell_other _ _ _ _ (n1 b o 0 hne), World.frozen?_setCell, World.frozen?_setCell]; exact h3 b o hb hne
  · rw [World.cell?_setCell_other _ _ _ _ (fun e => by injection e with e1 e2; cases e2), World.cell?_setCell_same _ _ _ h4]
  · refine World.cell?_setCell_same _ _ _ (show (wr.setCell ⟨g, 0, none⟩ (.int .i64 x)).cell? ⟨g, 1, none⟩ = some (.int .i64 p.2) by rw [World.cell?_setCell_other _ _ _ _ (fun e => by injection e with e1 e2; cases e2)]; exact h5)
  · rw [World.frozen?_setCell, World.frozen?_setCell]; exact h6 o
theorem mpF_bd {l : List (Int × Int)} (hpg : ∀ i, (-40 ≤ (vx l i).1 ∧ (vx l i).1 ≤ 40) ∧ (-40 ≤ (vx l i).2 ∧ (vx l i).2 ≤ 40)) (i : Nat) : (0 ≤ (vx l i).1 * (vx l i).1 + (vx l i).2 * (vx l i).2 ∧ (vx l i).1 * (vx l i).1 + (vx l i).2 * (vx l i).2 ≤ 12800) ∧ (-1024000 ≤ (mpF l i).1 ∧ (mpF l i).1 ≤ 1024000) ∧ (-1024000 ≤ (mpF l i).2 ∧ (mpF l i).2 ≤ 1024000) := by
  have p0 := hpg i
  have p1 := hpg (i + 1)
  have p2 := hpg (i + 2)
  have s1 := sq80 (x := (vx l i).1) (by omega)
  have s2 := sq80 (x := (vx l i).2) (by omega)
  refine ⟨by omega, ?_, ?_⟩
  · exact mul_bd (x := -((vx l (i + 2)).2 - (vx l (i + 1)).2)) (y := (vx l i).1 * (vx l i).1 + (vx l i).2 * (vx l i).2) (m := 80) (n := 12800) (by omega) (by omega) (by omega) (by omega)
  · exact mul_bd (x := (vx l (i + 2)).1 - (vx l (i + 1)).1) (y := (vx l i).1 * (vx l i).1 + (vx l i).2 * (vx l i).2) (m := 80) (n := 12800) (by omega) (by omega) (by omega) (by omega)
theorem msF_bd {l : List (Int × Int)} (hpg : ∀ i, (-40 ≤ (vx l i).1 ∧ (vx l i).1 ≤ 40) ∧ (-40 ≤ (vx l i).2 ∧ (vx l i).2 ≤ 40)) : ∀ i : Nat, (-1024000 * (i : Int) ≤ (msF l i).1 ∧ (msF l i).1 ≤ 1024000 * (i : Int)) ∧ (-1024000 * (i : Int) ≤ (msF l i).2 ∧ (msF l i).2 ≤ 1024000 * (i : Int))
  | 0 => by unfold msF; simp
  | i + 1 => by
    have h := msF_bd hpg i
    have h2 := (mpF_bd hpg i).2
    unfold msF
    omega
theorem cg_neg2 {X Y D : Int} (h : D < 0) : cgI X Y D = -((Nat.gcd ((Nat.gcd X.natAbs Y.natAbs : Nat) : Int).natAbs D.natAbs : Nat) : Int) := by
  unfold cgI
  rw [if_pos h, Int.natAbs_natCast]
set_option maxHeartbeats 4000000 in
theorem circle_any (l : List (Int × Int)) (a1 a2 b1 b2 c1 c2 : Int) (w : World) (ht : Tri l a1 a2 b1 b2 c1 c2) (hd : twI a1 a2 b1 b2 c1 c2 ≠ 0) :
    Calls Try.prog 72 #[.agg #[.int .i64 a1, .int .i64 a2, .int .i64 b1, .int .i64 b2, .int .i64 c1, .int .i64 c2]] w fun e w' => e = .returned (.tuple #[.agg #[.int .i64 ((cxI a1 a2 b1 b2 c1 c2).tdiv (cgI (cxI a1 a2 b1 b2 c1 c2) (cyI a1 a2 b1 b2 c1 c2) (cdI a1 a2 b1 b2 c1 c2))), .int .i64 ((cyI a1 a2 b1 b2 c1 c2).tdiv (cgI (cxI a1 a2 b1 b2 c1 c2) (cyI a1 a2 b1 b2 c1 c2) (cdI a1 a2 b1 b2 c1 c2)))], .int .i64 ((cdI a1 a2 b1 b2 c1 c2).tdiv (cgI (cxI a1 a2 b1 b2 c1 c2) (cyI a1 a2 b1 b2 c1 c2) (cdI a1 a2 b1 b2 c1 c2)))]) ∧ Below w.heap.size w w' := by
  have hpg : ∀ i, (-40 ≤ (vx l i).1 ∧ (vx l i).1 ≤ 40) ∧ (-40 ≤ (vx l i).2 ∧ (vx l i).2 ≤ 40) := fun i => by
    have := vx_pg ht.2.pegs (good_pos ht.2) i
    unfold isPg isPegB at this
    simp only [Bool.and_eq_true, decide_eq_true_eq] at this
    exact this
  have HM := Lib.hid (fun i => msF_bd hpg i)
  have HP := Lib.hid (fun i => mpF_bd hpg i)
  have HA := Lib.hid (msF_all ht)
  have KT := Lib.hid (fun W => twice_any a1 a2 b1 b2 c1 c2 W (tri_sz ht).1 (tri_sz ht).2.1 (tri_sz ht).2.2)
  have KS := Lib.hid (fun i hi W => (show Calls Try.prog 92 #[.agg #[.int .i64 a1, .int .i64 a2, .int .i64 b1, .int .i64 b2, .int .i64 c1, .int .i64 c2], .int .i64 (i : Nat)] W fun e w' => e = .returned (.tuple #[.agg #[.int .i64 (vx l (i + 1)).1, .int .i64 (vx l (i + 1)).2], .agg #[.int .i64 (vx l (i + 2)).1, .int .i64 (vx l (i + 2)).2]]) ∧ Below W.heap.size W w' from by
    rw [ht.1]; exact side_any a1 a2 b1 b2 c1 c2 i hi W))
  have KI := Lib.hid (fun i hi W => index3_any ht.1 i hi W)
  have HV := Lib.hid hpg
  have HT := twI_bd (tri_sz ht).1 (tri_sz ht).2.1 (tri_sz ht).2.2
  obtain ⟨T1, T2⟩ := HT
  have hD : Hid (2 * twI a1 a2 b1 b2 c1 c2 = cdI a1 a2 b1 b2 c1 c2) := Lib.hid rfl
  clear ht hpg
  generalize cxI a1 a2 b1 b2 c1 c2 = X at *
  generalize cyI a1 a2 b1 b2 c1 c2 = Y at *
  generalize cdI a1 a2 b1 b2 c1 c2 = D at *
  generalize twI a1 a2 b1 b2 c1 c2 = t at *
  go_enter Try.func72, Try.ntmps72
  go_wp2_with fail
  obtain ⟨Wa, hWa⟩ : ∃ Wa, Wa = ((w.alloc (.cells #[.int .i64 a1, .int .i64 a2, .int .i64 b1, .int .i64 b2, .int .i64 c1, .int .i64 c2] 67)).alloc (.cells #[.int .i64 0, .int .i64 0] 46)) := ⟨_, rfl⟩
  rw [← hWa]
  have yWa0_0 : Wa.cell? ⟨w.heap.size, 0, none⟩ = some (.int .i64 a1) := by rw [hWa]; go_simp
  have yWa0_1 : Wa.cell? ⟨w.heap.size, 1, none⟩ = some (.int .i64 a2) := by rw [hWa]; go_simp
  have yWa0_2 : Wa.cell? ⟨w.heap.size, 2, none⟩ = some (.int .i64 b1) := by rw [hWa]; go_simp
  have yWa0_3 : Wa.cell? ⟨w.heap.size, 3, none⟩ = some (.int .i64 b2) := by rw [hWa]; go_simp
  have yWa0_4 : Wa.cell? ⟨w.heap.size, 4, none⟩ = some (.int .i64 c1) := by rw [hWa]; go_simp
  have yWa0_5 : Wa.cell? ⟨w.heap.size, 5, none⟩ = some (.int .i64 c2) := by rw [hWa]; go_simp
  have fWa0 : ∀ o, Wa.frozen? ⟨w.heap.size, o, none⟩ = false := by intro o; rw [hWa]; (repeat rw [frozen?_alloc_cells]); simp [World.frozen?]
  have zWa0 : w.heap.size < Wa.heap.size := by rw [hWa]; simp <;> omega
  have yWa1_0 : Wa.cell? ⟨w.heap.size + 1, 0, none⟩ = some (.int .i64 0) := by rw [hWa]; go_simp
  have yWa1_1 : Wa.cell? ⟨w.heap.size + 1, 1, none⟩ = some (.int .i64 0) := by rw [hWa]; go_simp
  have fWa1 : ∀ o, Wa.frozen? ⟨w.heap.size + 1, o, none⟩ = false := by intro o; rw [hWa]; (repeat rw [frozen?_alloc_cells]); simp [World.frozen?]
  have zWa1 : w.heap.size + 1 < Wa.heap.size := by rw [hWa]; simp <;> omega
  have BWa : Below w.heap.size w Wa := by rw [hWa]; exact (Below.alloc (Below.alloc (Below.refl _ _) (by simp <;> omega) _) (by simp <;> omega) _)
  have eWa : Hid (Wa.heap.size = w.heap.size + 2) := Lib.hid (by rw [hWa]; simp)
  clear hWa
  refine (KT.out _).mono ?_; rintro e w1 ⟨rfl, hb1⟩
  obtain ⟨hcA, hfA⟩ := bcell hb1
  have zA := hb1.size
  have d0 := (hcA _ _ zWa0).trans yWa0_0
  have d1 := (hcA _ _ zWa0).trans yWa0_1
  have d2 := (hcA _ _ zWa0).trans yWa0_2
  have d3 := (hcA _ _ zWa0).trans yWa0_3
  have d4 := (hcA _ _ zWa0).trans yWa0_4
  have d5 := (hcA _ _ zWa0).trans yWa0_5
  have d6 := (hcA _ _ zWa1).trans yWa1_0
  have d7 := (hcA _ _ zWa1).trans yWa1_1
  have d8 := fun o => (hfA _ o zWa1).trans (fWa1 o)
  have za : w.heap.size < w1.heap.size := by omega
  have zb : w.heap.size + 1 < w1.heap.size := by omega
  have B1 := BWa.trans (hb1.mono BWa.size)
  clear hcA hfA yWa0_0 yWa0_1 yWa0_2 yWa0_3 yWa0_4 yWa0_5 yWa1_0 yWa1_1 fWa0 fWa1 hb1 zWa0 zWa1 BWa eWa zA
  go_wp2_with fail
  obtain ⟨W0, hW0⟩ : ∃ W0, W0 = (w1.alloc (.cells #[.int .i64 0, .int .i64 0] 46)) := ⟨_, rfl⟩
  rw [← hW0]
  have yW00_0 : W0.cell? ⟨w1.heap.size, 0, none⟩ = some (.int .i64 0) := by rw [hW0]; go_simp
  have yW00_1 : W0.cell? ⟨w1.heap.size, 1, none⟩ = some (.int .i64 0) := by rw [hW0]; go_simp
  have fW00 : ∀ o, W0.frozen? ⟨w1.heap.size, o, none⟩ = false := by intro o; rw [hW0]; (repeat rw [frozen?_alloc_cells]); simp [World.frozen?]
  have zW00 : w1.heap.size < W0.heap.size := by rw [hW0]; simp <;> omega
  have BW0 : Below w1.heap.size w1 W0 := by rw [hW0]; exact (Below.alloc (Below.refl _ _) (by simp <;> omega) _)
  have eW0 : Hid (W0.heap.size = w1.heap.size + 1) := Lib.hid (by rw [hW0]; simp)
  clear hW0
  have HS := Lib.hid (show MsR w W0 W0 w1.heap.size (msF l 0) from ⟨B1.trans (BW0.mono B1.size), Nat.le_refl _, fun b o _ _ => ⟨rfl, rfl⟩, yW00_0, yW00_1, fW00⟩)
  obtain ⟨hcA, hfA⟩ := bcell BW0
  have HX := Lib.hid (And.intro ((hcA _ _ za).trans d0) (And.intro ((hcA _ _ za).trans d1) (And.intro ((hcA _ _ za).trans d2) (And.intro ((hcA _ _ za).trans d3) (And.intro ((hcA _ _ za).trans d4) ((hcA _ _ za).trans d5))))))
  have HY := Lib.hid (And.intro ((hcA _ _ zb).trans d6) (And.intro ((hcA _ _ zb).trans d7) (fun o => (hfA _ o zb).trans (d8 o))))
  have zz := BW0.size
  have ya : w.heap.size < W0.heap.size := by omega
  have yb : w.heap.size + 1 < W0.heap.size := by omega
  have na : w.heap.size ≠ w1.heap.size := by omega
  have nb : w.heap.size + 1 ≠ w1.heap.size := by omega
  have wz : w.heap.size ≤ w1.heap.size := by omega
  clear hcA hfA d0 d1 d2 d3 d4 d5 d6 d7 d8 yW00_0 yW00_1 fW00 eW0 zz BW0 B1 za zb
  go_loopg [16] 3 (fun gg i wr => ∃ k : Nat, k ≤ 3 ∧ gg = 3 - k ∧ i = .int .i64 k ∧ Hid (MsR w W0 wr w1.heap.size (msF l k)))
  case atStart => exact ⟨0, Nat.zero_le _, rfl, rfl, HS⟩
  case round =>
    clear HS
    obtain ⟨k, hk, hgg, rfl, hS⟩ := hrel
    rename World => wo
    have HGK := Lib.hid hgg
    clear hgg
    by_cases hlt : k < 3
    · have o0 := fun o => (hS.out.other w.heap.size o ya na).1
      obtain ⟨h0, h1, h2, h3, h4, h5⟩ := HX.out
      have x0 := (o0 0).trans h0
      have x1 := (o0 1).trans h1
      have x2 := (o0 2).trans h2
      have x3 := (o0 3).trans h3
      have x4 := (o0 4).trans h4
      have x5 := (o0 5).trans h5
      have hz := hS.out.size
      have zz : w.heap.size < wo.heap.size := by omega
      clear o0 h0 h1 h2 h3 h4 h5
      have dd1 : ((k : Int) < 3) := by omega
      have IX := KI.out k hlt
      go_wp2_with fail
      clear IX
      obtain ⟨W1, hW1⟩ : ∃ W1, W1 = (wo.alloc (.cells #[.int .i64 ((vx l k).1), .int .i64 ((vx l k).2)] 46)) := ⟨_, rfl⟩
      rw [← hW1]
      have yW10_0 : W1.cell? ⟨wo.heap.size, 0, none⟩ = some (.int .i64 ((vx l k).1)) := by rw [hW1]; go_simp
      have yW10_1 : W1.cell? ⟨wo.heap.size, 1, none⟩ = some (.int .i64 ((vx l k).2)) := by rw [hW1]; go_simp
      have fW10 : ∀ o, W1.frozen? ⟨wo.heap.size, o, none⟩ = false := by intro o; rw [hW1]; (repeat rw [frozen?_alloc_cells]); simp [World.frozen?]
      have zW10 : wo.heap.size < W1.heap.size := by rw [hW1]; simp <;> omega
      have BW1 : Below wo.heap.size wo W1 := by rw [hW1]; exact (Below.alloc (Below.refl _ _) (by simp <;> omega) _)
      have eW1 : Hid (W1.heap.size = wo.heap.size + 1) := Lib.hid (by rw [hW1]; simp)
      clear hW1
      have S1 := Lib.hid (msr_below hS.out zW00 BW1)
      refine (KS.out k hlt _).mono ?_; rintro e w2 ⟨rfl, hb2⟩
      have S2 := Lib.hid (msr_below S1.out zW00 hb2)
      have p0 := ((bcell hb2).1 _ _ zW10).trans yW10_0
      have p1 := ((bcell hb2).1 _ _ zW10).trans yW10_1
      have zp : wo.heap.size < w2.heap.size := by have := hb2.size; omega
      clear hS S1 x0 x1 x2 x3 x4 x5 hb2 yW10_0 yW10_1 zW10 BW1 eW1 fW10
      go_wp2_with fail
      obtain ⟨W3, hW3⟩ : ∃ W3, W3 = ((w2.alloc (.cells #[.int .i64 ((vx l (k + 1)).1), .int .i64 ((vx l (k + 1)).2)] 46)).alloc (.cells #[.int .i64 ((vx l (k + 2)).1), .int .i64 ((vx l (k + 2)).2)] 46)) := ⟨_, rfl⟩
      rw [← hW3]
      have yW30_0 : W3.cell? ⟨w2.heap.size, 0, none⟩ = some (.int .i64 ((vx l (k + 1)).1)) := by rw [hW3]; go_simp
      have yW30_1 : W3.cell? ⟨w2.heap.size, 1, none⟩ = some (.int .i64 ((vx l (k + 1)).2)) := by rw [hW3]; go_simp
      have fW30 : ∀ o, W3.frozen? ⟨w2.heap.size, o, none⟩ = false := by intro o; rw [hW3]; (repeat rw [frozen?_alloc_cells]); simp [World.frozen?]
      have zW30 : w2.heap.size < W3.heap.size := by rw [hW3]; simp <;> omega
      have yW31_0 : W3.cell? ⟨w2.heap.size + 1, 0, none⟩ = some (.int .i64 ((vx l (k + 2)).1)) := by rw [hW3]; go_simp
      have yW31_1 : W3.cell? ⟨w2.heap.size + 1, 1, none⟩ = some (.int .i64 ((vx l (k + 2)).2)) := by rw [hW3]; go_simp
      have fW31 : ∀ o, W3.frozen? ⟨w2.heap.size + 1, o, none⟩ = false := by intro o; rw [hW3]; (repeat rw [frozen?_alloc_cells]); simp [World.frozen?]
      have zW31 : w2.heap.size + 1 < W3.heap.size := by rw [hW3]; simp <;> omega
      have BW3 : Below w2.heap.size w2 W3 := by rw [hW3]; exact (Below.alloc (Below.alloc (Below.refl _ _) (by simp <;> omega) _) (by simp <;> omega) _)
      have eW3 : Hid (W3.heap.size = w2.heap.size + 2) := Lib.hid (by rw [hW3]; simp)
      clear hW3
      have S3 := Lib.hid (msr_below S2.out zW00 BW3)
      have r0 := S3.out.c0
      have r1 := S3.out.c1
      have z3 := S3.out.size
      have zg : w1.heap.size < W3.heap.size := by omega
      have r2 := ((bcell BW3).1 _ _ zp).trans p0
      have r3 := ((bcell BW3).1 _ _ zp).trans p1
      have zq : wo.heap.size < W3.heap.size := by have := BW3.size; omega
      clear S2 p0 p1 zp BW3 eW3 fW30 fW31
      have V0 := HV.out k
      have V1 := HV.out (k + 1)
      have V2 := HV.out (k + 2)
      have M0 := HM.out k
      have P0 := HP.out k
      have EM : Hid (msF l (k + 1) = ((msF l k).1 + (mpF l k).1, (msF l k).2 + (mpF l k).2)) := Lib.hid rfl
      have KM := Lib.hid (fun W => minus_any (vx l (k + 2)).1 (vx l (k + 2)).2 (vx l (k + 1)).1 (vx l (k + 1)).2 W (by unfold Mid; omega) (by unfold Mid; omega) (by unfold Mid; omega) (by unfold Mid; omega))
      have KU := Lib.hid (fun W => turnedM_any ((vx l (k + 2)).1 - (vx l (k + 1)).1) ((vx l (k + 2)).2 - (vx l (k + 1)).2) W (by unfold Mid; omega) (by unfold Mid; omega))
      have KQ := Lib.hid (fun W => square_any (vx l k).1 (vx l k).2 W (by omega) (by omega))
      have KX := Lib.hid (fun W => (show Calls Try.prog 75 #[.agg #[.int .i64 (-((vx l (k + 2)).2 - (vx l (k + 1)).2)), .int .i64 ((vx l (k + 2)).1 - (vx l (k + 1)).1)], .int .i64 ((vx l k).1 * (vx l k).1 + (vx l k).2 * (vx l k).2)] W fun e w' => e = .returned (.agg #[.int .i64 (mpF l k).1, .int .i64 (mpF l k).2]) ∧ Below W.heap.size W w' from
        times_any (-((vx l (k + 2)).2 - (vx l (k + 1)).2)) ((vx l (k + 2)).1 - (vx l (k + 1)).1) ((vx l k).1 * (vx l k).1 + (vx l k).2 * (vx l k).2) W (show -1000000000000000 ≤ (mpF l k).1 ∧ (mpF l k).1 ≤ 1000000000000000 by omega) (show -1000000000000000 ≤ (mpF l k).2 ∧ (mpF l k).2 ≤ 1000000000000000 by omega)))
      have KP := Lib.hid (fun W => plus_any (msF l k).1 (msF l k).2 (mpF l k).1 (mpF l k).2 W (by unfold Mid; omega) (by unfold Mid; omega) (by unfold Mid; omega) (by unfold Mid; omega))
      clear V0 V1 V2 M0 P0
      generalize hm1 : (msF l k).1 + (mpF l k).1 = m1 at *
      generalize hm2 : (msF l k).2 + (mpF l k).2 = m2 at *
      clear hm1 hm2
      generalize (mpF l k).1 = t1 at *
      generalize (mpF l k).2 = t2 at *
      generalize (vx l k).1 * (vx l k).1 + (vx l k).2 * (vx l k).2 = sq at *
      generalize hdd1 : (vx l (k + 2)).1 - (vx l (k + 1)).1 = e1 at *
      generalize hdd2 : (vx l (k + 2)).2 - (vx l (k + 1)).2 = e2 at *
      clear hdd1 hdd2
      refine wp_region_BT 9 (fun W => Below (W3).heap.size (W3) W) (by kernel_rfl) (by kernel_rfl) (by repeat (first | exact Below.refl _ _ | apply Below.drew)) ?_
      simp only [List.take_succ_cons, List.take_zero, List.drop_succ_cons, List.drop_zero]
      first | refine wpH_skip (by rfl) ?_ | (refine wpH_text (v := ?_) (by rfl) (fun W k1 => ?_) ?_; rotate_left; (obtain ⟨hc1, hf1⟩ := bcell k1;  go_simp; refine comes_v ?_; exact k1))
      (try simp only [Act.put, List.setIfInBounds_toArray, List.set_cons_zero, List.set_cons_succ])
      first | refine wpH_skip (by rfl) ?_ | (refine wpH_text (v := ?_) (by rfl) (fun W k1 => ?_) ?_; rotate_left; (obtain ⟨hc1, hf1⟩ := bcell k1;  go_simp; refine comes_v ?_; exact k1))
      (try simp only [Act.put, List.setIfInBounds_toArray, List.set_cons_zero, List.set_cons_succ])
      first | refine wpH_skip (by rfl) ?_ | (refine wpH_text (v := ?_) (by rfl) (fun W k1 => ?_) ?_; rotate_left; (obtain ⟨hc1, hf1⟩ := bcell k1;  go_simp; refine comes_v ?_; exact k1))
      (try simp only [Act.put, List.setIfInBounds_toArray, List.set_cons_zero, List.set_cons_succ])
      first | refine wpH_skip (by rfl) ?_ | (refine wpH_text (v := .agg #[.int .i64 e1, .int .i64 e2]) (by rfl) (fun W k1 => ?_) ?_; (obtain ⟨hc1, hf1⟩ := bcell k1;  go_simp; exact comes_c ( KM.out _) (fun wn hbn => k1.trans (hbn.mono k1.size))))
      (try simp only [Act.put, List.setIfInBounds_toArray, List.set_cons_zero, List.set_cons_succ])
      first | refine wpH_skip (by rfl) ?_ | (refine wpH_text (v := .agg #[.int .i64 (-e2), .int .i64 e1]) (by rfl) (fun W k1 => ?_) ?_; (obtain ⟨hc1, hf1⟩ := bcell k1;  go_simp; exact comes_c ( KU.out _) (fun wn hbn => k1.trans (hbn.mono k1.size))))
      (try simp only [Act.put, List.setIfInBounds_toArray, List.set_cons_zero, List.set_cons_succ])
      first | refine wpH_skip (by rfl) ?_ | (refine wpH_text (v := ?_) (by rfl) (fun W k1 => ?_) ?_; rotate_left; (obtain ⟨hc1, hf1⟩ := bcell k1;  go_simp; refine comes_v ?_; exact k1))
      (try simp only [Act.put, List.setIfInBounds_toArray, List.set_cons_zero, List.set_cons_succ])
      first | refine wpH_skip (by rfl) ?_ | (refine wpH_text (v := .int .i64 sq) (by rfl) (fun W k1 => ?_) ?_; (obtain ⟨hc1, hf1⟩ := bcell k1;  go_simp; exact comes_c ( KQ.out _) (fun wn hbn => k1.trans (hbn.mono k1.size))))
      (try simp only [Act.put, List.setIfInBounds_toArray, List.set_cons_zero, List.set_cons_succ])
      first | refine wpH_skip (by rfl) ?_ | (refine wpH_text (v := .agg #[.int .i64 t1, .int .i64 t2]) (by rfl) (fun W k1 => ?_) ?_; (obtain ⟨hc1, hf1⟩ := bcell k1;  go_simp; exact comes_c ( KX.out _) (fun wn hbn => k1.trans (hbn.mono k1.size))))
      (try simp only [Act.put, List.setIfInBounds_toArray, List.set_cons_zero, List.set_cons_succ])
      first | refine wpH_skip (by rfl) ?_ | (refine wpH_text (v := .agg #[.int .i64 m1, .int .i64 m2]) (by rfl) (fun W k1 => ?_) ?_; (obtain ⟨hc1, hf1⟩ := bcell k1;  go_simp; exact comes_c ( KP.out _) (fun wn hbn => k1.trans (hbn.mono k1.size))))
      (try simp only [Act.put, List.setIfInBounds_toArray, List.set_cons_zero, List.set_cons_succ])
      refine wpH_nil ?_
      intro W k1; obtain ⟨hc1, hf1⟩ := bcell k1
      have S4 := Lib.hid (msr_below S3.out zW00 k1)
      have q0 := S4.out.c0
      have q1 := S4.out.c1
      have q2 := S4.out.f 0
      have q3 := S4.out.f 1
      have S5 := Lib.hid (show MsR w W0 _ w1.heap.size (msF l (k + 1)) from by rw [EM.out]; exact msr_store S4.out wz m1 m2)
      have z4 := S4.out.size
      have zh : w1.heap.size < W.heap.size := by omega
      clear hc1 hf1 r0 r1 r2 r3 S3 S4
      go_wp2_with fail
      go_roundg (3 - (k + 1))
      case measure => have := HGK.out; omega
      case rel => exact ⟨k + 1, by omega, rfl, by go_num, S5⟩
    · have hk3 : k = 3 := by omega
      subst hk3
      have SF := Lib.hid (show MsR w W0 wo w1.heap.size (X, Y) from by rw [← HA.out]; exact hS.out)
      have M3 := HM.out 3
      rw [HA.out] at M3
      obtain ⟨⟨hX1, hX2⟩, ⟨hY1, hY2⟩⟩ := M3
      dsimp only at hX1 hX2 hY1 hY2
      have hD' := hD.out
      subst hD'
      clear hS HM HP HA KT KS KI HV HX HGK hlt hk hD
      have y0 := SF.out.c0
      have y1 := SF.out.c1
      have zf : w1.heap.size < wo.heap.size := by have := SF.out.size; omega
      by_cases hneg : 2 * t < 0
      · skip
        have HG := Lib.hid (cg_neg2 (X := X) (Y := Y) hneg)
        have K1 := Lib.hid (fun W => greatestDivisorW_any X Y W (by omega) (by omega) (by omega) (by omega))
        have HB := gcd_le_add X.natAbs Y.natAbs
        have K2 := Lib.hid (fun W => greatestDivisorW_any ((Nat.gcd X.natAbs Y.natAbs : Nat) : Int) (2 * t) W (by omega) (by omega) (by omega) (by omega))
        have HC := gcd_le_add ((Nat.gcd X.natAbs Y.natAbs : Nat) : Int).natAbs (2 * t).natAbs
        have HP := Nat.gcd_pos_of_pos_right (((Nat.gcd X.natAbs Y.natAbs : Nat) : Int).natAbs) (show 0 < (2 * t).natAbs by omega)
        generalize Nat.gcd ((Nat.gcd X.natAbs Y.natAbs : Nat) : Int).natAbs (2 * t).natAbs = G at *
        generalize Nat.gcd X.natAbs Y.natAbs = G1 at *
        have gb : (G : Int) ≤ 1000000000000 := by omega
        have gn : IntKind.i64.wrap (-(G : Int)) = -(G : Int) := IntWalk.i64_in _ (by omega)
        have gp : 0 < (G : Int) := by omega
        clear HB HC HP
        go_wp2_with fail
        refine (K1.out _).mono ?_; rintro e w3 ⟨rfl, hb3⟩
        have S3 := Lib.hid (msr_below SF.out zW00 hb3)
        clear hb3 y0 y1 SF zf
        have zf : w1.heap.size < w3.heap.size := by have := S3.out.size; omega
        go_wp2_with fail
        refine (K2.out _).mono ?_; rintro e w4 ⟨rfl, hb4⟩
        have S4 := Lib.hid (msr_below S3.out zW00 hb4)
        clear hb4 S3 zf K1 K2
        go_upto_region 11 with fail
        generalize hcc : -(G : Int) = c at *
        have hc0 : ¬ c = 0 := by omega
        have t1 := tdiv_le X c
        have t2 := tdiv_le Y c
        have t3 := tdiv_le (2 * t) c
        have e1 : IntKind.i64.wrap (X.tdiv c) = X.tdiv c := IntWalk.i64_in _ (by omega)
        have e2 : IntKind.i64.wrap (Y.tdiv c) = Y.tdiv c := IntWalk.i64_in _ (by omega)
        have e3 : IntKind.i64.wrap ((2 * t).tdiv c) = (2 * t).tdiv c := IntWalk.i64_in _ (by omega)
        have zf : w1.heap.size < w4.heap.size := by have := S4.out.size; omega
        have zs : w.heap.size + 1 < w4.heap.size := by have := S4.out.size; omega
        have y0 := S4.out.c0
        have y1 := S4.out.c1
        have v0 := (S4.out.other _ 0 yb nb).1.trans HY.out.1
        have v1 := (S4.out.other _ 1 yb nb).1.trans HY.out.2.1
        have v2 := (S4.out.other _ 0 yb nb).2.trans (HY.out.2.2 0)
        have v3 := (S4.out.other _ 1 yb nb).2.trans (HY.out.2.2 1)
        have B4 := S4.out.below
        clear hcc t1 t2 t3 S4 T1 T2 hX1 hX2 hY1 hY2 hneg gb gn gp
        go_region
        all_goals
          go_wp2_with fail
          refine bodyPost_ret (v := .tuple #[.agg #[.int .i64 (X.tdiv c), .int .i64 (Y.tdiv c)], .int .i64 ((2 * t).tdiv c)]) (by simp [results, Try.results72, go_sem, v0, v1, zs, e3]) rfl ⟨by rw [HG.out], ?_⟩
          repeat (first | with_reducible assumption | with_reducible exact Below.refl _ _ | with_reducible apply Below.drew | ((with_reducible refine Below.setCell ?_ ?_ _); rotate_left; (first | exact Nat.le_refl _ | omega | (simp <;> omega))) | ((with_reducible refine Below.alloc ?_ ?_ _); rotate_left; (first | omega | (simp <;> omega))))
      · skip
        have HG := Lib.hid (cg_pos (X := X) (Y := Y) hneg)
        have K1 := Lib.hid (fun W => greatestDivisorW_any X Y W (by omega) (by omega) (by omega) (by omega))
        have HB := gcd_le_add X.natAbs Y.natAbs
        have K2 := Lib.hid (fun W => greatestDivisorW_any ((Nat.gcd X.natAbs Y.natAbs : Nat) : Int) (2 * t) W (by omega) (by omega) (by omega) (by omega))
        have HC := gcd_le_add ((Nat.gcd X.natAbs Y.natAbs : Nat) : Int).natAbs (2 * t).natAbs
        have HP := Nat.gcd_pos_of_pos_right (((Nat.gcd X.natAbs Y.natAbs : Nat) : Int).natAbs) (show 0 < (2 * t).natAbs by omega)
        generalize Nat.gcd ((Nat.gcd X.natAbs Y.natAbs : Nat) : Int).natAbs (2 * t).natAbs = G at *
        generalize Nat.gcd X.natAbs Y.natAbs = G1 at *
        have gb : (G : Int) ≤ 1000000000000 := by omega
        have gn : IntKind.i64.wrap (-(G : Int)) = -(G : Int) := IntWalk.i64_in _ (by omega)
        have gp : 0 < (G : Int) := by omega
        clear HB HC HP
        go_wp2_with fail
        refine (K1.out _).mono ?_; rintro e w3 ⟨rfl, hb3⟩
        have S3 := Lib.hid (msr_below SF.out zW00 hb3)
        clear hb3 y0 y1 SF zf
        have zf : w1.heap.size < w3.heap.size := by have := S3.out.size; omega
        go_wp2_with fail
        refine (K2.out _).mono ?_; rintro e w4 ⟨rfl, hb4⟩
        have S4 := Lib.hid (msr_below S3.out zW00 hb4)
        clear hb4 S3 zf K1 K2
        go_upto_region 11 with fail
        generalize hcc : (G : Int) = c at *
        have hc0 : ¬ c = 0 := by omega
        have t1 := tdiv_le X c
        have t2 := tdiv_le Y c
        have t3 := tdiv_le (2 * t) c
        have e1 : IntKind.i64.wrap (X.tdiv c) = X.tdiv c := IntWalk.i64_in _ (by omega)
        have e2 : IntKind.i64.wrap (Y.tdiv c) = Y.tdiv c := IntWalk.i64_in _ (by omega)
        have e3 : IntKind.i64.wrap ((2 * t).tdiv c) = (2 * t).tdiv c := IntWalk.i64_in _ (by omega)
        have zf : w1.heap.size < w4.heap.size := by have := S4.out.size; omega
        have zs : w.heap.size + 1 < w4.heap.size := by have := S4.out.size; omega
        have y0 := S4.out.c0
        have y1 := S4.out.c1
        have v0 := (S4.out.other _ 0 yb nb).1.trans HY.out.1
        have v1 := (S4.out.other _ 1 yb nb).1.trans HY.out.2.1
        have v2 := (S4.out.other _ 0 yb nb).2.trans (HY.out.2.2 0)
        have v3 := (S4.out.other _ 1 yb nb).2.trans (HY.out.2.2 1)
        have B4 := S4.out.below
        clear hcc t1 t2 t3 S4 T1 T2 hX1 hX2 hY1 hY2 hneg gb gn gp
        go_region
        all_goals
          go_wp2_with fail
          refine bodyPost_ret (v := .tuple #[.agg #[.int .i64 (X.tdiv c), .int .i64 (Y.tdiv c)], .int .i64 ((2 * t).tdiv c)]) (by simp [results, Try.results72, go_sem, v0, v1, zs, e3]) rfl ⟨by rw [HG.out], ?_⟩
          repeat (first | with_reducible assumption | with_reducible exact Below.refl _ _ | with_reducible apply Below.drew | ((with_reducible refine Below.setCell ?_ ?_ _); rotate_left; (first | exact Nat.le_refl _ | omega | (simp <;> omega))) | ((with_reducible refine Below.alloc ?_ ?_ _); rotate_left; (first | omega | (simp <;> omega))))
end Go.Proofs.Ytgjegildeejghaa
/- an argument that is a list of points, opened -/
namespace Go.Proofs.Ytgjegildeejghaa
open Go.ChangeShapes Go.WideShapes Go.ChangeAt Go.RowKit Go.Joins
set_option linter.unusedVariables false
set_option linter.unusedSimpArgs false
set_option maxRecDepth 4000
open Go.Deep
theorem lt_of_cell {w : World} {a : Addr} {u : Value} (h : w.cell? a = some u) : a.block < w.heap.size := by
  rcases Nat.lt_or_ge a.block w.heap.size with h1 | h1
  · exact h1
  · unfold World.cell? at h
    rw [Array.getElem?_eq_none h1] at h
    simp at h
section
variable {H : Type} {enc : TypeId × Value → H}
/-- a point of the laws' package, read from two cells -/
theorem read_peg {w : World} {base : Nat} {spare : Nat → Bool} {held : Bool} {fuel : Nat} {c0 c1 : Value} {x : DataW H × List MemPlace}
    (h : DataW.trod enc Try.prog w base spare held fuel 52 [c0, c1] = some x) : ∃ a b : Int, c0 = .int .i64 a ∧ c1 = .int .i64 b := by
  obtain ⟨xs, n, _, _, _, hlen, hg⟩ := DataW.trod_struct Try.underlying52 h
  have g0 : DataW.trod enc Try.prog w base spare held n 3 ((List.drop 0 [c0, c1]).take (Try.prog.cellsOf 3)) = xs[0]? := hg 0 _ rfl
  have g1 : DataW.trod enc Try.prog w base spare held n 3 ((List.drop 1 [c0, c1]).take (Try.prog.cellsOf 3)) = xs[1]? := hg 1 _ rfl
  have k3 : Try.prog.cellsOf 3 = 1 := by kernel_rfl
  rw [k3] at g0 g1
  match xs, hlen with
  | [y0, y1], _ =>
    simp only [List.drop_zero, List.drop_succ_cons, List.take_succ_cons, List.take_zero, List.getElem?_cons_zero, List.getElem?_cons_succ] at g0 g1
    obtain ⟨a, e0, _, _⟩ := DataW.trod_int Try.underlying3 g0
    obtain ⟨b, e1, _, _⟩ := DataW.trod_int Try.underlying3 g1
    simp only [List.cons.injEq, and_true] at e0 e1
    exact ⟨a, b, e0, e1⟩
/-- an argument that is a list of points -/
theorem open_pegs {w : World} {r : Reach} {b0 base : Nat} {spare : Nat → Bool} {v : Value} {d : DataW H} {p : List MemPlace} (hv : Value.okWide Try.prog w r b0 22 v)
    (h : DataW.Trod enc Try.prog w base spare true 22 v d p) : ∃ (A : Option Addr) (c : Nat) (l : List (Int × Int)), v = .slice A l.length c ∧ l.length ≤ c ∧ c ≤ maxLen ∧ Rd w w.heap.size A l := by
  obtain ⟨a0, len, cap, rfl⟩ := okWide_slice Try.underlying22 hv
  obtain ⟨fuel, hf⟩ := h
  rcases open_slice Try.underlying22 hf with ⟨hcs, _⟩ | ⟨a, len', cap', m, n, D, Pl, hcs, _, hl, hm, hmm, _, hi⟩
  · simp [Value.cells] at hcs
    obtain ⟨rfl, rfl, rfl⟩ := hcs
    exact ⟨none, 0, [], rfl, by simp, by simp, fun h => absurd h (by simp)⟩
  · simp [Value.cells] at hcs
    obtain ⟨rfl, rfl, rfl⟩ := hcs
    have hml : len ≤ m := by rw [hmm]; split <;> omega
    have hC : Try.prog.cellsOf 52 = 2 := cells52
    have key : ∀ i, ∃ q : Int × Int, i < len → w.cell? (a.add (i * 2)) = some (.int .i64 q.1) ∧ w.cell? ((a.add (i * 2)).add 1) = some (.int .i64 q.2) := fun i => by
      by_cases hlt : i < len
      · obtain ⟨cs', hc, ht⟩ := hi i (by omega)
        rw [hC] at hc
        obtain ⟨_, hcl, hat⟩ := World.cells?_some hc
        match cs', hcl with
        | [c0, c1], _ =>
          obtain ⟨x, y, rfl, rfl⟩ := read_peg ht
          have h0 := hat 0 (by omega)
          have h1 := hat 1 (by omega)
          refine ⟨(x, y), fun _ => ⟨?_, h1⟩⟩
          have : (a.add (i * 2)).add 0 = a.add (i * 2) := by unfold Addr.add; simp
          rw [this] at h0
          exact h0
      · exact ⟨(0, 0), fun h => absurd h hlt⟩
    refine ⟨some a, cap, (List.range len).map fun i => Classical.choose (key i), by simp, by simpa using hl, hm, fun hpos => ?_⟩
    have hpos' : 0 < len := by simpa using hpos
    have k0 := (Classical.choose_spec (key 0) hpos').1
    obtain ⟨b, off, spot⟩ := a
    have hspot : spot = none := by simpa [Addr.add] using World.cell?_spot k0
    subst hspot
    refine ⟨b, off, rfl, ?_, fun i q hq => ?_⟩
    · have := lt_of_cell k0
      rw [add_plain] at this
      exact this
    · have hlt : i < len := by
        have := (List.getElem?_eq_some_iff.1 hq).1
        simpa using this
      have e : q = Classical.choose (key i) := by
        rw [List.getElem?_map, List.getElem?_range hlt] at hq
        simpa using hq.symm
      have hs := Classical.choose_spec (key i) hlt
      rw [← e] at hs
      rw [add_plain, add_plain] at hs
      exact hs
end
end Go.Proofs.Ytgjegildeejghaa

