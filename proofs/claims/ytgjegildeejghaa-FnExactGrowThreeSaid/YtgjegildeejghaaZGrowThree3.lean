/- joined: Tb01 Tb00 Tb0 Te Ml M Sc Sd Sj Sp Tbq Tb Tc Tj K La Ls Lc Rh Tr Tix Ra Ts2 Km Lx Kh Lw Z -/
import Derived.Test.YtgjegildeejghaaZGrowThree2
import Derived.LoopTactic
import Derived.Deep.QuietTactic
import Derived.BigQuiet
import Derived.Deep.LoopGhost
import Derived.Laws.OwnMore
import Derived.OwnWalk
import Derived.RegionTactic
import Derived.Still
import Derived.Deep.Slices
import Derived.Deep.Fields
/- contracts: differences of points, squares -/
namespace Go.Proofs.Ytgjegildeejghaa
open Go.ChangeShapes Go.WideShapes Go.ChangeAt Go.RowKit Go.Joins
set_option linter.unusedVariables false
set_option linter.unusedSimpArgs false
set_option maxRecDepth 4000
/-- numbers that leave room -/
def Mid (x : Int) : Prop := -1000000000000 ≤ x ∧ x ≤ 1000000000000
theorem minus_any (a1 a2 b1 b2 : Int) (w : World) (h1 : Mid a1) (h2 : Mid a2) (h3 : Mid b1) (h4 : Mid b2) :
    Calls Try.prog 76 #[.agg #[.int .i64 a1, .int .i64 a2], .agg #[.int .i64 b1, .int .i64 b2]] w fun e w' => e = .returned (.agg #[.int .i64 (a1 - b1), .int .i64 (a2 - b2)]) ∧ Below w.heap.size w w' := by
  obtain ⟨x1, x2⟩ := h1
  obtain ⟨x3, x4⟩ := h2
  obtain ⟨x5, x6⟩ := h3
  obtain ⟨x7, x8⟩ := h4
  go_enter Try.func76, Try.ntmps76
  go_wp2
  refine bodyPost_ret (v := .agg #[.int .i64 (a1 - b1), .int .i64 (a2 - b2)]) (by simp [results, Try.results76, go_sem]) rfl ⟨rfl, ?_⟩
  repeat (first | with_reducible assumption | with_reducible exact Below.refl _ _ | with_reducible apply Below.drew | ((with_reducible refine Below.setCell ?_ ?_ _); rotate_left; (first | exact Nat.le_refl _ | omega | (simp <;> omega))) | ((with_reducible refine Below.alloc ?_ ?_ _); rotate_left; (first | omega | (simp <;> omega))))
end Go.Proofs.Ytgjegildeejghaa
/- contracts: squares -/
namespace Go.Proofs.Ytgjegildeejghaa
open Go.ChangeShapes Go.WideShapes Go.ChangeAt Go.RowKit Go.Joins
set_option linter.unusedVariables false
set_option linter.unusedSimpArgs false
set_option maxRecDepth 4000
theorem sq_bd {x : Int} (h : -100000000 ≤ x ∧ x ≤ 100000000) : 0 ≤ x * x ∧ x * x ≤ 10000000000000000 := by
  have h1 := mul_bd (x := x) (y := x) (m := 100000000) (n := 100000000) (by omega) (by omega) (by omega) (by omega)
  refine ⟨?_, by omega⟩
  rcases Int.le_total 0 x with h | h
  · exact Int.mul_nonneg h h
  · have := Int.mul_nonneg (show 0 ≤ -x by omega) (show 0 ≤ -x by omega)
    rwa [Int.neg_mul_neg] at this
theorem square_any (a1 a2 : Int) (w : World) (h1 : -100000000 ≤ a1 ∧ a1 ≤ 100000000) (h2 : -100000000 ≤ a2 ∧ a2 ≤ 100000000) :
    Calls Try.prog 77 #[.agg #[.int .i64 a1, .int .i64 a2]] w fun e w' => e = .returned (.int .i64 (a1 * a1 + a2 * a2)) ∧ Below w.heap.size w w' := by
  obtain ⟨x1, x2⟩ := sq_bd h1
  obtain ⟨x3, x4⟩ := sq_bd h2
  go_enter Try.func77, Try.ntmps77
  go_wp2
  go_ret
  exact ⟨rfl, (by repeat (first | exact Below.refl _ _ | assumption | apply Below.drew | refine Below.alloc ?_ (by simp <;> omega) _))⟩
end Go.Proofs.Ytgjegildeejghaa
/- contracts: sums and differences of points; a triangle's area and sum -/
namespace Go.Proofs.Ytgjegildeejghaa
open Go.ChangeShapes Go.WideShapes Go.ChangeAt Go.RowKit Go.Joins
set_option linter.unusedVariables false
set_option linter.unusedSimpArgs false
set_option maxRecDepth 4000
/-- a triangle as a value -/
def thr (a1 a2 b1 b2 c1 c2 : Int) : Value := .agg #[.int .i64 a1, .int .i64 a2, .int .i64 b1, .int .i64 b2, .int .i64 c1, .int .i64 c2]
theorem twice_any (a1 a2 b1 b2 c1 c2 : Int) (w : World) (ha : Sz a1 a2) (hb : Sz b1 b2) (hc : Sz c1 c2) :
    Calls Try.prog 63 #[.agg #[.int .i64 a1, .int .i64 a2, .int .i64 b1, .int .i64 b2, .int .i64 c1, .int .i64 c2]] w fun e w' => e = .returned (.int .i64 (twI a1 a2 b1 b2 c1 c2)) ∧ Below w.heap.size w w' := by
  have K := Lib.hid (fun W => twiceThree_any a1 a2 b1 b2 c1 c2 W ha hb hc)
  clear ha hb hc
  go_enter Try.func63, Try.ntmps63
  go_wp2_with fail
  refine (K.out _).mono ?_; rintro e w1 ⟨rfl, hb1⟩
  obtain ⟨hc1, hf1⟩ := bcell hb1
  have z1_0 : w.heap.size < w1.heap.size := by (have := hb1.size; simp at this; omega)
  have B1 : Below w.heap.size w w1 := (Below.alloc (Below.refl _ _) (by simp <;> omega) _).trans (hb1.mono (by simp <;> omega))
  go_wp2_with fail
  go_ret
  exact ⟨rfl, B1⟩
end Go.Proofs.Ytgjegildeejghaa
/- contracts: what the program makes of a list that is a triangle, and of others -/
namespace Go.Proofs.Ytgjegildeejghaa
open Go.ChangeShapes Go.WideShapes Go.ChangeAt Go.RowKit Go.Joins
set_option linter.unusedVariables false
set_option linter.unusedSimpArgs false
set_option maxRecDepth 4000
theorem threeOf_t (A : Option Addr) (c : Nat) (l : List (Int × Int)) (a1 a2 b1 b2 c1 c2 : Int) (w : World) (hR : Rd w w.heap.size A l) (ht : Tri l a1 a2 b1 b2 c1 c2) :
    Calls Try.prog 56 #[.slice A l.length c] w fun e w' => e = .returned (.tuple #[.agg #[.int .i64 a1, .int .i64 a2, .int .i64 b1, .int .i64 b2, .int .i64 c1, .int .i64 c2], .bool true]) ∧ Below w.heap.size w w' :=
  threeOf_yes A c l a1 a2 b1 b2 c1 c2 w hR ht
theorem threeOf_f (A : Option Addr) (c : Nat) (l : List (Int × Int)) (w : World) (hn : l.length ≤ 1048576) (hR : Rd w w.heap.size A l) (ht : ¬ tB l = true) :
    Calls Try.prog 56 #[.slice A l.length c] w fun e w' => e = .returned (.tuple #[.agg #[.int .i64 0, .int .i64 0, .int .i64 0, .int .i64 0, .int .i64 0, .int .i64 0], .bool false]) ∧ Below w.heap.size w w' :=
  threeOf_no A c l w hn hR (by simpa using ht)
theorem tri_sz {l : List (Int × Int)} {a1 a2 b1 b2 c1 c2 : Int} (h : Tri l a1 a2 b1 b2 c1 c2) : Sz a1 a2 ∧ Sz b1 b2 ∧ Sz c1 c2 := by
  have := tri_bd h
  unfold Sz
  omega
theorem tri_area {l : List (Int × Int)} {a1 a2 b1 b2 c1 c2 : Int} (h : Tri l a1 a2 b1 b2 c1 c2) : areaN l = twI a1 a2 b1 b2 c1 c2 := by
  rw [h.1]
  have e : areaN [(a1, a2), (b1, b2), (c1, c2)] = ((0 + cr (a1, a2) (b1, b2)) + cr (b1, b2) (c1, c2)) + cr (c1, c2) (a1, a2) := by
    unfold areaN Sh
    simp only [List.length_cons, List.length_nil, Nat.zero_add, sumTo]
    have e0 : vx [(a1, a2), (b1, b2), (c1, c2)] 0 = (a1, a2) := rfl
    have e1 : vx [(a1, a2), (b1, b2), (c1, c2)] 1 = (b1, b2) := rfl
    have e2 : vx [(a1, a2), (b1, b2), (c1, c2)] (1 + 1) = (c1, c2) := rfl
    have e3 : vx [(a1, a2), (b1, b2), (c1, c2)] (1 + 1 + 1) = (a1, a2) := vx_add [(a1, a2), (b1, b2), (c1, c2)] 0
    rw [e0, e1, e2, e3]
  rw [e]
  unfold cr twI
  grind
def bsel (b v : Bool) : Bool := b && v
theorem bsel_t (v : Bool) : bsel true v = v := rfl
theorem bsel_f (v : Bool) : bsel false v = false := rfl
end Go.Proofs.Ytgjegildeejghaa
/- contracts: greatest of two, size of a number -/
namespace Go.Proofs.Ytgjegildeejghaa
open Go.ChangeShapes Go.WideShapes Go.ChangeAt Go.RowKit Go.Joins
set_option linter.unusedVariables false
set_option linter.unusedSimpArgs false
set_option maxRecDepth 4000
theorem below_dr {B : Nat} {a w : World} (h : Below B a w) (n : Nat) : Below B a (w.drewN n) := ⟨h.os, h.tape, h.output, h.size, h.block⟩
theorem l1Most_any (a b : Int) (w : World) : Calls Try.prog 65 #[.int .i64 a, .int .i64 b] w fun e w' => e = .returned (.int .i64 (max a b)) ∧ w = w' := by
  by_cases h : b < a
  all_goals
    go_enter Try.func65, Try.ntmps65
    go_wp2
    go_ret
    exact ⟨ret_int (by omega), rfl⟩
theorem l1Abs_any (a : Int) (w : World) (h1 : -100000000000000 ≤ a) (h2 : a ≤ 100000000000000) : Calls Try.prog 54 #[.int .i64 a] w fun e w' => e = .returned (.int .i64 (a.natAbs : Int)) ∧ w = w' := by
  go_enter Try.func54, Try.ntmps54
  go_wp2_with fail
  refine (l1Most_any _ _ _).mono ?_; rintro e _ ⟨rfl, rfl⟩
  go_wp2_with fail
  go_ret
  exact ⟨ret_int (by omega), rfl⟩
end Go.Proofs.Ytgjegildeejghaa
/- contracts: the greatest common divisor, on both sides; how many points a line has -/
namespace Go.Proofs.Ytgjegildeejghaa
open Go.ChangeShapes Go.WideShapes Go.ChangeAt Go.RowKit Go.Joins
set_option linter.unusedVariables false
set_option linter.unusedSimpArgs false
set_option maxRecDepth 4000
theorem gcd_step (m n : Nat) : Nat.gcd n (m % n) = Nat.gcd m n := by rw [Nat.gcd_comm n, ← Nat.gcd_rec, Nat.gcd_comm]
theorem pgCommon_any (a b : Int) (w : World) (h1 : -1000000 ≤ a) (h2 : a ≤ 1000000) (h3 : -1000000 ≤ b) (h4 : b ≤ 1000000) :
    Calls Try.prog 62 #[.int .i64 a, .int .i64 b] w fun e w' => e = .returned (.int .i64 ((Nat.gcd a.natAbs b.natAbs : Nat) : Int)) ∧ Below w.heap.size w w' := by
  have m1 : (a.natAbs : Int) ≤ 1000000 := by omega
  have m2 : (b.natAbs : Int) ≤ 1000000 := by omega
  have A1 := Lib.hid (fun W => l1Abs_any a W (by omega) (by omega))
  have A2 := Lib.hid (fun W => l1Abs_any b W (by omega) (by omega))
  generalize a.natAbs = p at *
  generalize b.natAbs = q at *
  go_enter Try.func62, Try.ntmps62
  go_wp2_with fail
  refine (A1.out _).mono ?_; rintro e _ ⟨rfl, rfl⟩
  go_wp2_with fail
  refine (A2.out _).mono ?_; rintro e _ ⟨rfl, rfl⟩
  go_wp2_with fail
  clear A1 A2
  go_loopw [0, 1] (fun u v wr => ∃ m n : Nat, u = .int .i64 m ∧ v = .int .i64 n ∧ Nat.gcd m n = Nat.gcd p q ∧ (m : Int) ≤ 1000000 ∧ (n : Int) ≤ 1000000 ∧ Below w.heap.size w wr) (fun _ v _ => (intOf v).toNat)
  case atStart => exact ⟨p, q, rfl, rfl, rfl, m1, m2, Below.refl _ _⟩
  case round =>
    obtain ⟨m, n, rfl, rfl, hg, hm, hn, hB⟩ := hrel
    by_cases hz : 0 < n
    · have hG := Lib.hid hg
      clear hg
      go_wp2_with fail
      go_quiet (fail)
      have hmod : m % n < n := Nat.mod_lt _ hz
      go_roundw
      case rel => ((repeat apply Exists.intro); exact ⟨⟨n, m % n, by go_num, by go_num, by rw [gcd_step]; exact hG.out, hn, by omega, by repeat (first | exact hB | apply Below.drew | apply below_dr)⟩, rfl⟩)
      case measure => simp [intOf]; omega
    · have hn0 : n = 0 := by omega
      subst hn0
      rw [Nat.gcd_zero_right] at hg
      subst hg
      go_wp2_with fail
      go_ret
      exact ⟨rfl, hB⟩
theorem tmod_step (x y : Int) : Nat.gcd y.natAbs (x.tmod y).natAbs = Nat.gcd x.natAbs y.natAbs := by
  rw [Int.natAbs_tmod]; exact gcd_step _ _
theorem tmod_bd (x y : Int) (h : y ≠ 0) : (x.tmod y).natAbs < y.natAbs := by
  rw [Int.natAbs_tmod]; exact Nat.mod_lt _ (by omega)
theorem greatestDivisor_any (a b : Int) (w : World) (h1 : -1000000 ≤ a) (h2 : a ≤ 1000000) (h3 : -1000000 ≤ b) (h4 : b ≤ 1000000) :
    Calls Try.prog 64 #[.int .i64 a, .int .i64 b] w fun e w' => e = .returned (.int .i64 ((Nat.gcd a.natAbs b.natAbs : Nat) : Int)) ∧ Below w.heap.size w w' := by
  have R : ∃ r, r = Nat.gcd a.natAbs b.natAbs := ⟨_, rfl⟩
  obtain ⟨r, hr⟩ := R
  rw [← hr]
  have HR := Lib.hid hr
  clear hr
  go_enter Try.func64, Try.ntmps64
  go_wp2_with fail
  go_loopw [0, 1] (fun u v wr => ∃ x y : Int, u = .int .i64 x ∧ v = .int .i64 y ∧ Hid (r = Nat.gcd x.natAbs y.natAbs) ∧ -1000000 ≤ x ∧ x ≤ 1000000 ∧ -1000000 ≤ y ∧ y ≤ 1000000 ∧ Below w.heap.size w wr) (fun _ v _ => (intOf v).natAbs)
  case atStart => exact ⟨a, b, rfl, rfl, HR, h1, h2, h3, h4, Below.refl _ _⟩
  case round =>
    obtain ⟨x, y, rfl, rfl, hg, hx1, hx2, hy1, hy2, hB⟩ := hrel
    by_cases hz : y = 0
    · subst hz
      go_wp2_with fail
      all_goals
        go_ret
        exact ⟨ret_int (by have := hg.out; simp at this; omega), hB⟩
    · go_wp2_with fail
      go_quiet (fail)
      have hmod := tmod_bd x y hz
      go_roundw
      case rel => ((repeat apply Exists.intro); exact ⟨⟨y, x.tmod y, by go_num, by go_num, by rw [tmod_step]; exact hg, hy1, hy2, by omega, by omega, by repeat (first | exact hB | apply Below.drew | apply below_dr)⟩, rfl⟩)
      case measure => simpa [intOf] using hmod
theorem stepsTo_any (a1 a2 b1 b2 : Int) (w : World) (ha : Sz a1 a2) (hb : Sz b1 b2) :
    Calls Try.prog 101 #[.agg #[.int .i64 a1, .int .i64 a2], .agg #[.int .i64 b1, .int .i64 b2]] w fun e w' => e = .returned (.int .i64 (stepN a1 a2 b1 b2)) ∧ Below w.heap.size w w' := by
  obtain ⟨x1, x2, x3, x4⟩ := ha
  obtain ⟨x5, x6, x7, x8⟩ := hb
  go_enter Try.func101, Try.ntmps101
  go_wp2_with fail
  refine (greatestDivisor_any _ _ _ (by omega) (by omega) (by omega) (by omega)).mono ?_; rintro e w1 ⟨rfl, hb1⟩
  obtain ⟨hc1, hf1⟩ := bcell hb1
  have z1_0 : w.heap.size < w1.heap.size := by (have := hb1.size; simp at this; omega)
  have z1_1 : w.heap.size + 1 < w1.heap.size := by (have := hb1.size; simp at this; omega)
  have B1 : Below w.heap.size w w1 := (Below.alloc (Below.alloc (Below.refl _ _) (by simp <;> omega) _) (by simp <;> omega) _).trans (hb1.mono (by simp <;> omega))
  go_wp2_with fail
  go_ret
  exact ⟨ret_int (by unfold stepN; rw [show (b1 - a1).natAbs = (a1 - b1).natAbs by omega, show (b2 - a2).natAbs = (a2 - b2).natAbs by omega]), B1⟩
end Go.Proofs.Ytgjegildeejghaa
/- contracts: the program's sums around a polygon -/
namespace Go.Proofs.Ytgjegildeejghaa
open Go.ChangeShapes Go.WideShapes Go.ChangeAt Go.RowKit Go.Joins
set_option linter.unusedVariables false
set_option linter.unusedSimpArgs false
set_option maxRecDepth 4000
theorem steps_any (p q : Int × Int) (b1 b2 : Int) (w : World) (hp : isPg p = true) (hq : isPg q = true) :
    Calls Try.prog 90 #[.agg #[.int .i64 p.1, .int .i64 p.2, .int .i64 b1, .int .i64 b2, .int .i64 q.1, .int .i64 q.2]] w fun e w' => e = .returned (.int .i64 (stepN p.1 p.2 q.1 q.2)) ∧ Below w.heap.size w w' := by
  have K := Lib.hid (fun W => stepsTo_any p.1 p.2 q.1 q.2 W (sz_of hp) (sz_of hq))
  clear hp hq
  go_enter Try.func90, Try.ntmps90
  go_wp2_with fail
  refine (K.out _).mono ?_; rintro e w1 ⟨rfl, hb1⟩
  obtain ⟨hc1, hf1⟩ := bcell hb1
  have z1_0 : w.heap.size < w1.heap.size := by (have := hb1.size; simp at this; omega)
  have B1 : Below w.heap.size w w1 := (Below.alloc (Below.refl _ _) (by simp <;> omega) _).trans (hb1.mono (by simp <;> omega))
  go_wp2_with fail
  go_ret
  exact ⟨rfl, B1⟩
set_option maxHeartbeats 2000000 in
theorem sumAroundW_any (A : Option Addr) (c : Nat) (l : List (Int × Int)) (w : World) (fid : Nat) (f : Nat → Int) (h1 : 1 ≤ l.length) (hn : l.length ≤ 60) (hR : Rd w w.heap.size A l)
    (hcf : ∀ args W, (callFunc fid args).run Try.prog W = .ok (Next.enter fid args) W) (hf : ∀ i, i < l.length → -100000 ≤ f i ∧ f i ≤ 100000)
    (hK : ∀ i, i < l.length → ∀ W, Calls Try.prog fid #[.agg #[.int .i64 (vx l i).1, .int .i64 (vx l i).2, .int .i64 (vx l (i + l.length - 1)).1, .int .i64 (vx l (i + l.length - 1)).2, .int .i64 (vx l (i + 1)).1, .int .i64 (vx l (i + 1)).2]] W
      fun e w' => e = .returned (.int .i64 (f i)) ∧ Below W.heap.size W w') :
    Calls Try.prog 88 #[.slice A l.length c, .func (.func fid) #[] #[]] w fun e w' => e = .returned (.int .i64 (sumTo f l.length)) ∧ Below w.heap.size w w' := by
  have KC := Lib.hid (fun W (hb : Below w.heap.size w W) => cornersAroundW_any A c l W (by omega) (by omega) (rd_more (rd_below hR hb (Nat.le_refl _)) hb.size))
  have HB : Hid (∀ k, k ≤ l.length → -(100000 * (k : Int)) ≤ sumTo f k ∧ sumTo f k ≤ 100000 * (k : Int)) := Lib.hid (fun k hk => sumTo_bd k fun i hi => hf i (by omega))
  have HK := Lib.hid hK
  have HS : Hid (∀ k, sumTo f (k + 1) = sumTo f k + f k) := Lib.hid (fun k => rfl)
  have H0 : Hid (sumTo f 0 = 0) := Lib.hid rfl
  clear hR hf hK
  generalize hN : l.length = n at *
  have HN := Lib.hid hN
  clear hN
  go_enter Try.func88, Try.ntmps88
  go_wp2_with fail
  refine (KC.out w (Below.refl _ _)).mono ?_; rintro e w2 ⟨rfl, hb2, hSC⟩
  obtain ⟨g, hg⟩ : ∃ g, g = w.heap.size := ⟨_, rfl⟩
  rw [← hg] at hSC ⊢
  have hgs : g < w2.heap.size := hSC.1
  have CE : Hid (∀ W, Below w2.heap.size w2 W → ∀ i, i < n → (W.cell? ⟨g, i * 6, none⟩ = some (.int .i64 (vx l i).1) ∧ W.cell? ⟨g, i * 6 + 1, none⟩ = some (.int .i64 (vx l i).2) ∧ W.cell? ⟨g, i * 6 + 2, none⟩ = some (.int .i64 (vx l (i + n - 1)).1) ∧ W.cell? ⟨g, i * 6 + 3, none⟩ = some (.int .i64 (vx l (i + n - 1)).2) ∧ W.cell? ⟨g, i * 6 + 4, none⟩ = some (.int .i64 (vx l (i + 1)).1) ∧ W.cell? ⟨g, i * 6 + 5, none⟩ = some (.int .i64 (vx l (i + 1)).2))) := Lib.hid (fun W hW i hi => by
    obtain ⟨c0, c1, c2, c3, c4, c5⟩ := hSC.2.2 i hi
    have hc := (bcell hW).1
    exact ⟨(hc _ _ hgs).trans c0, (hc _ _ hgs).trans c1, (hc _ _ hgs).trans c2, (hc _ _ hgs).trans c3, (hc _ _ hgs).trans c4, (hc _ _ hgs).trans c5⟩)
  have TR : Hid (∀ W, Below w2.heap.size w2 W → Below w.heap.size w W) := Lib.hid (fun W hW => hb2.trans (hW.mono hb2.size))
  clear KC hb2 hSC hg
  go_wp2_with fail
  go_loopg [5, 11] n (fun gg s i wr => ∃ k : Nat, k ≤ n ∧ gg = n - k ∧ i = .int .i64 k ∧ s = .int .i64 (sumTo f k) ∧ Below w2.heap.size w2 wr)
  case atStart => exact ⟨0, Nat.zero_le _, rfl, rfl, by rw [H0.out], Below.refl _ _⟩
  case round =>
    obtain ⟨k, hk, hgg, rfl, rfl, hB⟩ := hrel
    rename World => wo
    have HGK := Lib.hid hgg
    clear hgg
    by_cases hlt : k < n
    · obtain ⟨x0, x1, x2, x3, x4, x5⟩ := CE.out wo hB k hlt
      have hzB := hB.size
      have hgo : g < wo.heap.size := by omega
      have T := Lib.hid (fun W => HK.out k hlt W)
      have e0 := HS.out k
      obtain ⟨b1, b2⟩ := HB.out (k + 1) (by omega)
      rw [e0] at b1 b2
      have E0 := Lib.hid e0
      clear e0
      generalize f k = t at *
      generalize hs : sumTo f k = s at *
      have HSS := Lib.hid hs
      clear hs
      have hsm : -9000000 ≤ s + t ∧ s + t ≤ 9000000 := by omega
      clear b1 b2
      obtain ⟨b1, b2⟩ := hsm
      go_wp2_with fail
      refine (T.out _).mono ?_; rintro e w3 ⟨rfl, hb3⟩
      have B3 := (Below.alloc hB hzB (.cells #[.int .i64 (vx l k).1, .int .i64 (vx l k).2, .int .i64 (vx l (k + n - 1)).1, .int .i64 (vx l (k + n - 1)).2, .int .i64 (vx l (k + 1)).1, .int .i64 (vx l (k + 1)).2] 92)).trans (hb3.mono (by simp; omega))
      clear x0 x1 x2 x3 x4 x5 hb3 T
      go_wp2_with fail
      go_roundg (n - (k + 1))
      case measure => have := HGK.out; omega
      case rel => exact ⟨k + 1, by omega, rfl, by go_num, by rw [E0.out], B3⟩
    · have hkn : n = k := by omega
      subst hkn
      have BB := Lib.hid (TR.out _ hB)
      go_wp2_with fail
      go_ret
      exact ⟨rfl, BB.out⟩
theorem sumAround_any (A : Option Addr) (c : Nat) (l : List (Int × Int)) (w : World) (fid : Nat) (f : Nat → Int) (h1 : 1 ≤ l.length) (hn : l.length ≤ 10) (hR : Rd w w.heap.size A l)
    (hcf : ∀ args W, (callFunc fid args).run Try.prog W = .ok (Next.enter fid args) W) (hf : ∀ i, i < l.length → -100000 ≤ f i ∧ f i ≤ 100000)
    (hK : ∀ i, i < l.length → ∀ W, Calls Try.prog fid #[.agg #[.int .i64 (vx l i).1, .int .i64 (vx l i).2, .int .i64 (vx l (i + l.length - 1)).1, .int .i64 (vx l (i + l.length - 1)).2, .int .i64 (vx l (i + 1)).1, .int .i64 (vx l (i + 1)).2]] W
      fun e w' => e = .returned (.int .i64 (f i)) ∧ Below W.heap.size W w') :
    Calls Try.prog 88 #[.slice A l.length c, .func (.func fid) #[] #[]] w fun e w' => e = .returned (.int .i64 (sumTo f l.length)) ∧ Below w.heap.size w w' := sumAroundW_any A c l w fid f h1 (by omega) hR hcf hf hK
end Go.Proofs.Ytgjegildeejghaa
/- contracts: TwiceArea, PegsOn and PegsInside, on both sides -/
namespace Go.Proofs.Ytgjegildeejghaa
open Go.ChangeShapes Go.WideShapes Go.ChangeAt Go.RowKit Go.Joins
set_option linter.unusedVariables false
set_option linter.unusedSimpArgs false
set_option maxRecDepth 4000
def gi (b : Bool) (x : Int) : Int := if b = true then x else 0
theorem ret_tup {a b : Int} {c : Bool} (h : a = b) : Ending.returned (.tuple #[.int .i64 a, .bool c]) = .returned (.tuple #[.int .i64 b, .bool c]) := by rw [h]
theorem gi_true (x : Int) : gi true x = x := rfl
theorem gi_false (x : Int) : gi false x = 0 := rfl
theorem sumPegsOn_any (A : Option Addr) (c : Nat) (l : List (Int × Int)) (w : World) (hg : Good l) (hR : Rd w w.heap.size A l) :
    Calls Try.prog 88 #[.slice A l.length c, .func (.func 90) #[] #[]] w fun e w' => e = .returned (.int .i64 (onN l)) ∧ Below w.heap.size w w' :=
  sumAround_any A c l w 90 (fun i => stepN (vx l i).1 (vx l i).2 (vx l (i + 1)).1 (vx l (i + 1)).2) (good_pos hg) hg.few.2 hR Try.call90
    (fun i _ => by have := stepN_bd (a1 := (vx l i).1) (a2 := (vx l i).2) (b1 := (vx l (i + 1)).1) (b2 := (vx l (i + 1)).2) (vx_pg hg.pegs (good_pos hg) i) (vx_pg hg.pegs (good_pos hg) (i + 1)); omega)
    (fun i _ W => steps_any _ _ _ _ W (vx_pg hg.pegs (good_pos hg) i) (vx_pg hg.pegs (good_pos hg) (i + 1)))
end Go.Proofs.Ytgjegildeejghaa
/- contracts: bounds of both sums -/
namespace Go.Proofs.Ytgjegildeejghaa
open Go.ChangeShapes Go.WideShapes Go.ChangeAt Go.RowKit Go.Joins
set_option linter.unusedVariables false
set_option linter.unusedSimpArgs false
set_option maxRecDepth 4000
theorem area_bd {l : List (Int × Int)} (hg : Good l) : -40000 ≤ areaN l ∧ areaN l ≤ 40000 := by
  have := sh_bd hg.pegs (good_pos hg) l.length
  have h1 := hg.few
  unfold areaN
  omega
theorem on_bd {l : List (Int × Int)} (hg : Good l) : -1600 ≤ onN l ∧ onN l ≤ 1600 := by
  have := rn_bd hg.pegs (good_pos hg) l.length
  have h1 := hg.few
  unfold onN
  omega
end Go.Proofs.Ytgjegildeejghaa
/- contracts: the program's PegsOn -/
namespace Go.Proofs.Ytgjegildeejghaa
open Go.ChangeShapes Go.WideShapes Go.ChangeAt Go.RowKit Go.Joins
set_option linter.unusedVariables false
set_option linter.unusedSimpArgs false
set_option maxRecDepth 4000
end Go.Proofs.Ytgjegildeejghaa
/- contracts: points added, and taken several times -/
namespace Go.Proofs.Ytgjegildeejghaa
open Go.ChangeShapes Go.WideShapes Go.ChangeAt Go.RowKit Go.Joins
set_option linter.unusedVariables false
set_option linter.unusedSimpArgs false
set_option maxRecDepth 4000
theorem plus_any (a1 a2 b1 b2 : Int) (w : World) (h1 : Mid a1) (h2 : Mid a2) (h3 : Mid b1) (h4 : Mid b2) :
    Calls Try.prog 80 #[.agg #[.int .i64 a1, .int .i64 a2], .agg #[.int .i64 b1, .int .i64 b2]] w fun e w' => e = .returned (.agg #[.int .i64 (a1 + b1), .int .i64 (a2 + b2)]) ∧ Below w.heap.size w w' := by
  obtain ⟨x1, x2⟩ := h1
  obtain ⟨x3, x4⟩ := h2
  obtain ⟨x5, x6⟩ := h3
  obtain ⟨x7, x8⟩ := h4
  go_enter Try.func80, Try.ntmps80
  go_wp2
  refine bodyPost_ret (v := .agg #[.int .i64 (a1 + b1), .int .i64 (a2 + b2)]) (by simp [results, Try.results80, go_sem]) rfl ⟨rfl, ?_⟩
  repeat (first | with_reducible assumption | with_reducible exact Below.refl _ _ | with_reducible apply Below.drew | ((with_reducible refine Below.setCell ?_ ?_ _); rotate_left; (first | exact Nat.le_refl _ | omega | (simp <;> omega))) | ((with_reducible refine Below.alloc ?_ ?_ _); rotate_left; (first | omega | (simp <;> omega))))
theorem times_any (a1 a2 n : Int) (w : World) (h1 : -1000000000000000 ≤ a1 * n ∧ a1 * n ≤ 1000000000000000) (h2 : -1000000000000000 ≤ a2 * n ∧ a2 * n ≤ 1000000000000000) :
    Calls Try.prog 75 #[.agg #[.int .i64 a1, .int .i64 a2], .int .i64 n] w fun e w' => e = .returned (.agg #[.int .i64 (a1 * n), .int .i64 (a2 * n)]) ∧ Below w.heap.size w w' := by
  obtain ⟨x1, x2⟩ := h1
  obtain ⟨x3, x4⟩ := h2
  go_enter Try.func75, Try.ntmps75
  go_wp2
  refine bodyPost_ret (v := .agg #[.int .i64 (a1 * n), .int .i64 (a2 * n)]) (by simp [results, Try.results75, go_sem]) rfl ⟨rfl, ?_⟩
  repeat (first | with_reducible assumption | with_reducible exact Below.refl _ _ | with_reducible apply Below.drew | ((with_reducible refine Below.setCell ?_ ?_ _); rotate_left; (first | exact Nat.le_refl _ | omega | (simp <;> omega))) | ((with_reducible refine Below.alloc ?_ ?_ _); rotate_left; (first | omega | (simp <;> omega))))
end Go.Proofs.Ytgjegildeejghaa
/- points added, and taken several times; squares -/
/- contracts: a triangle's corners together; twice its area without a sign -/
namespace Go.Proofs.Ytgjegildeejghaa
open Go.ChangeShapes Go.WideShapes Go.ChangeAt Go.RowKit Go.Joins
set_option linter.unusedVariables false
set_option linter.unusedSimpArgs false
set_option maxRecDepth 4000
theorem twiceSize_any (a1 a2 b1 b2 c1 c2 : Int) (w : World) (ha : Sz a1 a2) (hb : Sz b1 b2) (hc : Sz c1 c2) :
    Calls Try.prog 57 #[.agg #[.int .i64 a1, .int .i64 a2, .int .i64 b1, .int .i64 b2, .int .i64 c1, .int .i64 c2]] w fun e w' => e = .returned (.int .i64 ((twI a1 a2 b1 b2 c1 c2).natAbs : Int)) ∧ Below w.heap.size w w' := by
  have K := Lib.hid (fun W => twice_any a1 a2 b1 b2 c1 c2 W ha hb hc)
  obtain ⟨t1, t2⟩ := twI_bd ha hb hc
  generalize twI a1 a2 b1 b2 c1 c2 = t at *
  clear ha hb hc
  have e1 : IntKind.i64.wrap (-t) = -t := IntWalk.i64_in _ (by omega)
  by_cases h : t < -t
  all_goals
    go_enter Try.func57, Try.ntmps57
    go_wp2_with fail
    obtain ⟨W0, hW0⟩ : ∃ W0, W0 = (w.alloc (.cells #[.int .i64 a1, .int .i64 a2, .int .i64 b1, .int .i64 b2, .int .i64 c1, .int .i64 c2] 67)) := ⟨_, rfl⟩
    rw [← hW0]
    have yW00_0 : W0.cell? ⟨w.heap.size, 0, none⟩ = some (.int .i64 a1) := by rw [hW0]; go_simp
    have yW00_1 : W0.cell? ⟨w.heap.size, 1, none⟩ = some (.int .i64 a2) := by rw [hW0]; go_simp
    have yW00_2 : W0.cell? ⟨w.heap.size, 2, none⟩ = some (.int .i64 b1) := by rw [hW0]; go_simp
    have yW00_3 : W0.cell? ⟨w.heap.size, 3, none⟩ = some (.int .i64 b2) := by rw [hW0]; go_simp
    have yW00_4 : W0.cell? ⟨w.heap.size, 4, none⟩ = some (.int .i64 c1) := by rw [hW0]; go_simp
    have yW00_5 : W0.cell? ⟨w.heap.size, 5, none⟩ = some (.int .i64 c2) := by rw [hW0]; go_simp
    have fW00 : ∀ o, W0.frozen? ⟨w.heap.size, o, none⟩ = false := by intro o; rw [hW0]; (repeat rw [frozen?_alloc_cells]); simp [World.frozen?]
    have zW00 : w.heap.size < W0.heap.size := by rw [hW0]; simp <;> omega
    have BW0 : Below w.heap.size w W0 := by rw [hW0]; exact (Below.alloc (Below.refl _ _) (by simp <;> omega) _)
    have eW0 : Hid (W0.heap.size = w.heap.size + 1) := Lib.hid (by rw [hW0]; simp)
    clear hW0
    refine wp_region_BT 6 (fun W => Below (W0).heap.size (W0) W) (by kernel_rfl) (by kernel_rfl) (by repeat (first | exact Below.refl _ _ | apply Below.drew)) ?_
    simp only [List.take_succ_cons, List.take_zero, List.drop_succ_cons, List.drop_zero]
    first | refine wpH_skip (by rfl) ?_ | (refine wpH_text (v := ?_) (by rfl) (fun W k1 => ?_) ?_; rotate_left; (obtain ⟨hc1, hf1⟩ := bcell k1;  go_simp; refine comes_v ?_; exact k1))
    (try simp only [Act.put, List.setIfInBounds_toArray, List.set_cons_zero, List.set_cons_succ])
    first | refine wpH_skip (by rfl) ?_ | (refine wpH_text (v := .int .i64 t) (by rfl) (fun W k1 => ?_) ?_; (obtain ⟨hc1, hf1⟩ := bcell k1;  go_simp; exact comes_c ( K.out _) (fun wn hbn => k1.trans (hbn.mono k1.size))))
    (try simp only [Act.put, List.setIfInBounds_toArray, List.set_cons_zero, List.set_cons_succ])
    first | refine wpH_skip (by rfl) ?_ | (refine wpH_text (v := ?_) (by rfl) (fun W k1 => ?_) ?_; rotate_left; (obtain ⟨hc1, hf1⟩ := bcell k1;  go_simp; refine comes_v ?_; exact k1))
    (try simp only [Act.put, List.setIfInBounds_toArray, List.set_cons_zero, List.set_cons_succ])
    first | refine wpH_skip (by rfl) ?_ | (refine wpH_text (v := .int .i64 t) (by rfl) (fun W k1 => ?_) ?_; (obtain ⟨hc1, hf1⟩ := bcell k1;  go_simp; exact comes_c ( K.out _) (fun wn hbn => k1.trans (hbn.mono k1.size))))
    (try simp only [Act.put, List.setIfInBounds_toArray, List.set_cons_zero, List.set_cons_succ])
    first | refine wpH_skip (by rfl) ?_ | (refine wpH_text (v := ?_) (by rfl) (fun W k1 => ?_) ?_; rotate_left; (obtain ⟨hc1, hf1⟩ := bcell k1;  go_simp; refine comes_v ?_; exact k1))
    (try simp only [Act.put, List.setIfInBounds_toArray, List.set_cons_zero, List.set_cons_succ])
    first | refine wpH_skip (by rfl) ?_ | (refine wpH_text (v := ?_) (by rfl) (fun W k1 => ?_) ?_; rotate_left; (obtain ⟨hc1, hf1⟩ := bcell k1;  go_simp; refine comes_v ?_; exact k1))
    (try simp only [Act.put, List.setIfInBounds_toArray, List.set_cons_zero, List.set_cons_succ])
    refine wpH_nil ?_
    intro W k1; obtain ⟨hc1, hf1⟩ := bcell k1
    have B1 : Below w.heap.size w W := BW0.trans (k1.mono BW0.size)
    go_wp2_with fail
    go_ret
    exact ⟨ret_int (by omega), B1⟩
end Go.Proofs.Ytgjegildeejghaa
/- contracts: PegsOfGrown, on both sides -/
namespace Go.Proofs.Ytgjegildeejghaa
open Go.ChangeShapes Go.WideShapes Go.ChangeAt Go.RowKit Go.Joins
set_option linter.unusedVariables false
set_option linter.unusedSimpArgs false
set_option maxRecDepth 4000
/-- is a number within bounds? -/
def inR (lo hi k : Int) : Bool := decide (lo ≤ k) && decide (k ≤ hi)
def gsel (b : Bool) (x : Int) : Int := if b = true then x else 0
theorem gsel_t (x : Int) : gsel true x = x := rfl
theorem gsel_f (x : Int) : gsel false x = 0 := rfl
/-- how many points a grown triangle has -/
def grownN (l : List (Int × Int)) (k : Int) : Int := (k * k * ((areaN l).natAbs : Int) + k * onN l + 2).tdiv 2
theorem l1In_r (n lo hi : Int) (w : World) : Calls Try.prog 81 #[.int .i64 n, .int .i64 lo, .int .i64 hi] w fun e w' => e = .returned (.bool (inR lo hi n)) ∧ w = w' := l1In_any n lo hi w
theorem grown_bd {k m o : Int} (h1 : 0 ≤ k) (h2 : k ≤ 20) (h3 : 0 ≤ m) (h4 : m ≤ 40000) (h5 : -1600 ≤ o) (h6 : o ≤ 1600) : (0 ≤ k * k ∧ k * k ≤ 400) ∧ (0 ≤ k * k * m ∧ k * k * m ≤ 16000000) ∧ (-32000 ≤ k * o ∧ k * o ≤ 32000) := by
  have a1 := mul_bd (x := k) (y := k) (m := 20) (n := 20) (by omega) (by omega) (by omega) (by omega)
  have a0 := Int.mul_nonneg h1 h1
  have a2 := mul_bd (x := k * k) (y := m) (m := 400) (n := 40000) (by omega) (by omega) (by omega) (by omega)
  have a3 := Int.mul_nonneg a0 h3
  have a4 := mul_bd (x := k) (y := o) (m := 20) (n := 1600) (by omega) (by omega) (by omega) (by omega)
  omega
end Go.Proofs.Ytgjegildeejghaa
/- lists of points in memory that the call itself made: they may be written; marks -/
namespace Go.Proofs.Ytgjegildeejghaa
open Go.ChangeShapes Go.WideShapes Go.ChangeAt Go.RowKit Go.Joins
set_option linter.unusedVariables false
set_option linter.unusedSimpArgs false
set_option maxRecDepth 4000
theorem rd_of_set {w : World} {g : Nat} {l : List (Int × Int)} (h : Set w g l.length l.length l) : Rd w w.heap.size (some ⟨g, 0, none⟩) l := by
  intro _
  refine ⟨g, 0, rfl, h.1, fun i p hp => ?_⟩
  rw [Nat.zero_add]
  exact h.2.2 i p (List.getElem?_eq_some_iff.1 hp).1 hp
/-- the slice's cells from address A on hold the points f 0, .., f (n - 1), may be written, and lie from block lo on, below block B -/
def Rw (w : World) (lo B : Nat) (A : Option Addr) (n : Nat) (f : Nat → Int × Int) : Prop :=
  0 < n → ∃ b off, A = some ⟨b, off, none⟩ ∧ lo ≤ b ∧ b < B ∧ ∀ i, i < n →
    (w.cell? ⟨b, off + i * 2, none⟩ = some (.int .i64 (f i).1) ∧ w.cell? ⟨b, off + i * 2 + 1, none⟩ = some (.int .i64 (f i).2)) ∧
    w.frozen? ⟨b, off + i * 2, none⟩ = false ∧ w.frozen? ⟨b, off + i * 2 + 1, none⟩ = false
/-- nothing turns but cells of blocks from lo on, below B -/
structure Only (lo B : Nat) (w w' : World) : Prop where
  os : w'.os = w.os
  tape : w'.tape = w.tape
  output : w'.output = w.output
  size : w'.heap.size = w.heap.size
  block : ∀ k, (k < lo ∨ B ≤ k) → w'.heap[k]? = w.heap[k]?
theorem Only.refl (lo B : Nat) (w : World) : Only lo B w w := ⟨rfl, rfl, rfl, rfl, fun _ _ => rfl⟩
theorem Only.below {lo B : Nat} {w w' : World} (h : Only lo B w w') : Below lo w w' := ⟨h.os, h.tape, h.output, Nat.le_of_eq h.size.symm, fun k hk => h.block k (.inl hk)⟩
theorem Only.set {lo B : Nat} {a w : World} (h : Only lo B a w) {p : Addr} (h1 : lo ≤ p.block) (h2 : p.block < B) (u : Value) : Only lo B a (w.setCell p u) :=
  ⟨h.os, h.tape, h.output, (by simp [World.setCell]; exact h.size), fun k hk => (Below.heap_setCell w p u k (by omega)).trans (h.block k hk)⟩
theorem Only.more {lo B lo' B' : Nat} {w w' : World} (h : Only lo B w w') (h1 : lo' ≤ lo) (h2 : B ≤ B') : Only lo' B' w w' := ⟨h.os, h.tape, h.output, h.size, fun k hk => h.block k (by omega)⟩
theorem rw_block {w w' : World} {lo B : Nat} {A : Option Addr} {n : Nat} {f : Nat → Int × Int} (h : Rw w lo B A n f) (hk : ∀ k, lo ≤ k → k < B → w'.heap[k]? = w.heap[k]?) : Rw w' lo B A n f := by
  intro hn
  obtain ⟨b, off, e, hb1, hb2, hc⟩ := h hn
  have c : ∀ o, w'.cell? ⟨b, o, none⟩ = w.cell? ⟨b, o, none⟩ := fun o => World.cell?_of_block (hk b hb1 hb2)
  have z : ∀ o, w'.frozen? ⟨b, o, none⟩ = w.frozen? ⟨b, o, none⟩ := fun o => World.frozen?_of_block (hk b hb1 hb2)
  exact ⟨b, off, e, hb1, hb2, fun i hi => by rw [c, c, z, z]; exact hc i hi⟩
theorem rw_below {w w' : World} {lo B B' : Nat} {A : Option Addr} {n : Nat} {f : Nat → Int × Int} (h : Rw w lo B A n f) (hb : Below B' w w') (hB : B ≤ B') : Rw w' lo B A n f :=
  rw_block h fun k _ h2 => hb.block k (by omega)
theorem rw_only {w w' : World} {lo B lo' B' : Nat} {A : Option Addr} {n : Nat} {f : Nat → Int × Int} (h : Rw w lo B A n f) (ho : Only lo' B' w w') (hd : B ≤ lo' ∨ B' ≤ lo) : Rw w' lo B A n f :=
  rw_block h fun k h1 h2 => ho.block k (by omega)
theorem rw_more {w : World} {lo B lo' B' : Nat} {A : Option Addr} {n : Nat} {f : Nat → Int × Int} (h : Rw w lo B A n f) (h1 : lo' ≤ lo) (h2 : B ≤ B') : Rw w lo' B' A n f := by
  intro hn
  obtain ⟨b, off, e, hb1, hb2, hc⟩ := h hn
  exact ⟨b, off, e, by omega, by omega, hc⟩
theorem rw_same {w : World} {lo B : Nat} {A : Option Addr} {n : Nat} {f g : Nat → Int × Int} (h : Rw w lo B A n f) (he : ∀ i, i < n → f i = g i) : Rw w lo B A n g := by
  intro hn
  obtain ⟨b, off, e, hb1, hb2, hc⟩ := h hn
  exact ⟨b, off, e, hb1, hb2, fun i hi => by rw [← he i hi]; exact hc i hi⟩
/-- the points of a list, as a row -/
def pt (l : List (Int × Int)) (i : Nat) : Int × Int := (l[i]?).getD (0, 0)
theorem pt_get {l : List (Int × Int)} {i : Nat} (h : i < l.length) : l[i]? = some (pt l i) := by
  unfold pt; rw [List.getElem?_eq_getElem h]; rfl
theorem rw_rd {w : World} {lo B : Nat} {A : Option Addr} {l : List (Int × Int)} (h : Rw w lo B A l.length (pt l)) : Rd w B A l := by
  intro hn
  obtain ⟨b, off, e, hb1, hb2, hc⟩ := h hn
  refine ⟨b, off, e, hb2, fun i p hp => ?_⟩
  have hi := (List.getElem?_eq_some_iff.1 hp).1
  rw [pt_get hi] at hp
  injection hp with hp
  rw [← hp]
  exact (hc i hi).1
theorem rw_of_set {w : World} {g : Nat} {l : List (Int × Int)} (h : Set w g l.length l.length l) : Rw w g (g + 1) (some ⟨g, 0, none⟩) l.length (pt l) := by
  intro _
  refine ⟨g, 0, rfl, Nat.le_refl _, by omega, fun i hi => ?_⟩
  rw [Nat.zero_add]
  exact ⟨h.2.2 i _ hi (pt_get hi), (h.2.1 i hi).2.2⟩
/-- two cells written -/
theorem rw_store {w : World} {lo B b off n k : Nat} {f : Nat → Int × Int} (h : Rw w lo B (some ⟨b, off, none⟩) n f) (hk : k < n) (x y : Int) :
    Rw ((w.setCell ⟨b, off + k * 2, none⟩ (.int .i64 x)).setCell ⟨b, off + k * 2 + 1, none⟩ (.int .i64 y)) lo B (some ⟨b, off, none⟩) n (fun j => if j = k then (x, y) else f j) := by
  intro hn
  obtain ⟨b', off', e, hb1, hb2, hc⟩ := h hn
  injection e with e
  injection e with e1 e2
  subst e1 e2
  have ne : ∀ (W : World) (o o' : Nat) (v : Value), o' ≠ o → (W.setCell ⟨b, o', none⟩ v).cell? ⟨b, o, none⟩ = W.cell? ⟨b, o, none⟩ := fun W o o' v h =>
    World.cell?_setCell_other W _ _ _ (fun e => h (by injection e))
  have sm : ∀ (W : World) (o : Nat) (u v : Value), W.cell? ⟨b, o, none⟩ = some u → (W.setCell ⟨b, o, none⟩ v).cell? ⟨b, o, none⟩ = some v := fun W o u v h => World.cell?_setCell_same W _ _ h
  refine ⟨b, off, rfl, hb1, hb2, fun i hi => ?_⟩
  obtain ⟨⟨c1, c2⟩, z1, z2⟩ := hc i hi
  refine ⟨?_, ?_, ?_⟩
  · by_cases hik : i = k
    · subst hik
      simp only [if_true]
      have c2' : (w.setCell ⟨b, off + i * 2, none⟩ (.int .i64 x)).cell? ⟨b, off + i * 2 + 1, none⟩ = some (.int .i64 (f i).2) := by rw [ne _ _ _ _ (by omega)]; exact c2
      exact ⟨by rw [ne _ _ _ _ (by omega)]; exact sm _ _ _ _ c1, sm _ _ _ _ c2'⟩
    · simp only [hik, if_false]
      rw [ne _ _ _ _ (by omega), ne _ _ _ _ (by omega), ne _ _ _ _ (by omega), ne _ _ _ _ (by omega)]
      exact ⟨c1, c2⟩
  · rw [World.frozen?_setCell, World.frozen?_setCell]; exact z1
  · rw [World.frozen?_setCell, World.frozen?_setCell]; exact z2
end Go.Proofs.Ytgjegildeejghaa
/- rows of points that a call appends to; the model's list told backwards -/
namespace Go.Proofs.Ytgjegildeejghaa
open Go.ChangeShapes Go.WideShapes Go.ChangeAt Go.RowKit Go.Joins
set_option linter.unusedVariables false
set_option linter.unusedSimpArgs false
set_option maxRecDepth 4000
/-- points as cells -/
def flat (l : List (Int × Int)) : List Value := l.flatMap fun p => [.int .i64 p.1, .int .i64 p.2]
theorem flat_nil : flat [] = [] := rfl
theorem flat_snoc (l : List (Int × Int)) (p : Int × Int) : flat (l ++ [p]) = flat l ++ [.int .i64 p.1, .int .i64 p.2] := by
  unfold flat; rw [List.flatMap_append]; rfl
theorem flat_get (l : List (Int × Int)) : ∀ i, i < l.length → (flat l)[i * 2]? = some (.int .i64 (pt l i).1) ∧ (flat l)[i * 2 + 1]? = some (.int .i64 (pt l i).2) := by
  induction l with
  | nil => intro i h; simp at h
  | cons p l ih =>
    intro i hi
    have e : flat (p :: l) = [.int .i64 p.1, .int .i64 p.2] ++ flat l := rfl
    rw [e]
    cases i with
    | zero => exact ⟨rfl, rfl⟩
    | succ i =>
      have h := ih i (by simpa using hi)
      have e2 : pt (p :: l) (i + 1) = pt l i := rfl
      rw [e2, show (i + 1) * 2 = 2 + i * 2 by omega, List.getElem?_append_right (by simp), List.getElem?_append_right (by simp; omega)]
      simpa [show 2 + i * 2 - 2 = i * 2 by omega, show 2 + i * 2 + 1 - 2 = i * 2 + 1 by omega] using h
/-- what a row of the call's own reads as -/
theorem rw_of_own {w : World} {base : Nat} {v : Value} {l : List (Int × Int)} (h : w.ownsRow base 46 2 v l.length (flat l)) :
    ∃ A c, v = .slice A l.length c ∧ l.length ≤ c ∧ c ≤ maxLen ∧ Rw w base w.heap.size A l.length (pt l) := by
  have h0 := h
  obtain ⟨h1, h2⟩ := h
  rcases h2 with ⟨hv, hn⟩ | ⟨g, cap, cur, hv, hg, hh, hc, hm, hs, ht⟩
  · exact ⟨none, 0, by rw [hv, hn], by omega, by simp [maxLen], fun hp => absurd hp (by omega)⟩
  · subst hv
    refine ⟨some ⟨g, 0, none⟩, cap, rfl, hc, hm, fun hp => ⟨g, 0, rfl, hg, (h0.lt g rfl).2, fun i hi => ?_⟩⟩
    have hf := flat_get l i hi
    rw [Nat.zero_add]
    exact ⟨⟨(h0.cellAt (i * 2) (by omega)).trans hf.1, (h0.cellAt (i * 2 + 1) (by omega)).trans hf.2⟩, h0.frozenAt _, h0.frozenAt _⟩
/-- the first k of the points f 0, f 1, .. -/
def firsts (f : Nat → Int × Int) (k : Nat) : List (Int × Int) := (List.range k).map f
theorem firsts_len (f : Nat → Int × Int) (k : Nat) : (firsts f k).length = k := by unfold firsts; simp
theorem firsts_succ (f : Nat → Int × Int) (k : Nat) : firsts f (k + 1) = firsts f k ++ [f k] := by unfold firsts; rw [List.range_succ, List.map_append]; rfl
theorem firsts_pt (f : Nat → Int × Int) (k i : Nat) (h : i < k) : pt (firsts f k) i = f i := by
  unfold pt firsts; rw [List.getElem?_map, List.getElem?_range h]; rfl
theorem firsts_get (f : Nat → Int × Int) (k i : Nat) (h : i < k) : (firsts f k)[i]? = some (f i) := by
  unfold firsts; rw [List.getElem?_map, List.getElem?_range h]; rfl
/-- a row that has grown by append: the first k points -/
def Row (w : World) (base : Nat) (v : Value) (f : Nat → Int × Int) (k : Nat) : Prop := w.ownsRow base 46 2 v k (flat (firsts f k))
theorem row_nil (w : World) (base : Nat) (f : Nat → Int × Int) : Row w base (.slice none 0 0) f 0 := World.ownsRow_nil w base _ _
theorem row_step {w : World} {base : Nat} {v : Value} {f : Nat → Int × Int} {k : Nat} (h : w.ownsRow base 46 2 v (k + 1) (flat (firsts f k) ++ [.int .i64 (f k).1, .int .i64 (f k).2])) : Row w base v f (k + 1) := by
  unfold Row; rw [firsts_succ, flat_snoc]; exact h
theorem row_out {w : World} {base : Nat} {v : Value} {f : Nat → Int × Int} {k : Nat} (h : Row w base v f k) :
    ∃ A c, v = .slice A k c ∧ k ≤ c ∧ c ≤ maxLen ∧ Rw w base w.heap.size A k f := by
  have h' : w.ownsRow base 46 2 v (firsts f k).length (flat (firsts f k)) := by rw [firsts_len]; exact h
  obtain ⟨A, c, e, h1, h2, h3⟩ := rw_of_own h'
  rw [firsts_len] at e h1 h3
  exact ⟨A, c, e, h1, h2, rw_same h3 fun i hi => firsts_pt f k i hi⟩
theorem row_alloc {w : World} {base : Nat} {v : Value} {f : Nat → Int × Int} {k : Nat} (h : Row w base v f k) (o : Obj) : Row (w.alloc o) base v f k := World.ownsRow.alloc h o
theorem row_below {w w' : World} {base B : Nat} {v : Value} {f : Nat → Int × Int} {k : Nat} (h : Row w base v f k) (hb : Below B w w') (hB : w.heap.size ≤ B) : Row w' base v f k := by
  obtain ⟨h1, h2⟩ := h
  rcases h2 with h2 | ⟨g, cap, cur, hv, hg, hh, r⟩
  · exact ⟨h1, .inl h2⟩
  · have hl := World.ownsRow.lt (w := w) (base := base) (e := 46) (size := 2) (v := v) (n := k) (xs := flat (firsts f k)) ⟨h1, .inr ⟨g, cap, cur, hv, hg, hh, r⟩⟩ g (by rw [hv]; rfl)
    exact ⟨h1, .inr ⟨g, cap, cur, hv, hg, (hb.block g (by omega)).trans hh, r⟩⟩
/-- behind an append -/
theorem row_push {w W w1 : World} {v v' : Value} {f : Nat → Int × Int} {k : Nat} (hB : Below w.heap.size w W) (hr : Row W w.heap.size v f k)
    (ho : w1.ownsRow w.heap.size 46 2 v' (k + 1) (flat (firsts f k) ++ [.int .i64 (f k).1, .int .i64 (f k).2])) (hg : W.grownBy w1 v.ownBlock) : Row w1 w.heap.size v' f (k + 1) ∧ Below w.heap.size w w1 :=
  ⟨row_step ho, hB.grown hg hB.size fun g hgk => (World.ownsRow.lt hr g hgk).1⟩
theorem two_cells {w : World} {g : Nat} {x y : Value} (h1 : w.cell? ⟨g, 0, none⟩ = some x) (h2 : w.cell? ⟨g, 1, none⟩ = some y) : ∀ j u, [x, y][j]? = some u → w.cell? ((⟨g, 0, none⟩ : Addr).add j) = some u := by
  intro j u hj
  match j, hj with
  | 0, hj => simp at hj; subst hj; exact h1
  | 1, hj => simp at hj; subst hj; exact h2
theorem two_one (x y : Int) : ∀ u ∈ [Value.int .i64 x, Value.int .i64 y], u.oneCell' = true := by
  intro u hu; simp at hu; rcases hu with rfl | rfl <;> rfl
/-- what a call returns that gives a list of points and says whether there is one -/
def RetL (w : World) (m : List (Int × Int)) (b : Bool) (e : Ending) (w' : World) : Prop :=
  ∃ A c, e = .returned (.tuple #[.slice A m.length c, .bool b]) ∧ m.length ≤ c ∧ c ≤ maxLen ∧ Below w.heap.size w w' ∧ Rw w' w.heap.size w'.heap.size A m.length (pt m)
/-- what a call returns that gives a list of points -/
def RetP (w : World) (m : List (Int × Int)) (e : Ending) (w' : World) : Prop :=
  ∃ A c, e = .returned (.slice A m.length c) ∧ m.length ≤ c ∧ c ≤ maxLen ∧ Below w.heap.size w w' ∧ Rw w' w.heap.size w'.heap.size A m.length (pt m)
theorem retP_row {w w' : World} {v : Value} {f : Nat → Int × Int} {k : Nat} (h : Row w' w.heap.size v f k) (hb : Below w.heap.size w w') : RetP w (firsts f k) (.returned v) w' := by
  obtain ⟨A, c, rfl, h1, h2, h3⟩ := row_out h
  refine ⟨A, c, by rw [firsts_len], by rw [firsts_len]; exact h1, h2, hb, ?_⟩
  rw [firsts_len]
  exact rw_same h3 fun i hi => (firsts_pt f k i hi).symm
theorem retL_nil {w w' : World} (hb : Below w.heap.size w w') : RetL w [] false (.returned (.tuple #[.slice none 0 0, .bool false])) w' :=
  ⟨none, 0, rfl, by simp, by simp [maxLen], hb, fun h => absurd h (by simp)⟩
theorem retL_of_P {w w1 w2 : World} {m : List (Int × Int)} {A : Option Addr} {c : Nat} (hb1 : Below w.heap.size w w1) (h1 : m.length ≤ c) (h2 : c ≤ maxLen) (hb2 : Below w1.heap.size w1 w2) (h : Rw w2 w1.heap.size w2.heap.size A m.length (pt m)) :
    RetL w m true (.returned (.tuple #[.slice A m.length c, .bool true])) w2 :=
  ⟨A, c, rfl, h1, h2, hb1.trans (hb2.mono hb1.size), rw_more h hb1.size (Nat.le_refl _)⟩
theorem retL_up {w w1 w2 : World} {m : List (Int × Int)} {b : Bool} {e : Ending} (hb1 : Below w.heap.size w w1) (h : RetL w1 m b e w2) : RetL w m b e w2 := by
  obtain ⟨A, c, e, h1, h2, h3, h4⟩ := h
  exact ⟨A, c, e, h1, h2, hb1.trans (h3.mono hb1.size), rw_more h4 hb1.size (Nat.le_refl _)⟩
end Go.Proofs.Ytgjegildeejghaa
/- a list or none -/
namespace Go.Proofs.Ytgjegildeejghaa
open Go.ChangeShapes Go.WideShapes Go.ChangeAt Go.RowKit Go.Joins
set_option linter.unusedVariables false
set_option linter.unusedSimpArgs false
set_option maxRecDepth 4000
def sel (b : Bool) (m : List (Int × Int)) : List (Int × Int) := if b = true then m else []
end Go.Proofs.Ytgjegildeejghaa
/- contracts: points brought elsewhere, on both sides -/
namespace Go.Proofs.Ytgjegildeejghaa
open Go.ChangeShapes Go.WideShapes Go.ChangeAt Go.RowKit Go.Joins
set_option linter.unusedVariables false
set_option linter.unusedSimpArgs false
set_option maxRecDepth 4000
/-- where a matrix and a shift bring a point -/
def mapF (a b c d x y : Int) (l : List (Int × Int)) (i : Nat) : Int × Int := (a * (vx l i).1 + b * (vx l i).2 + x, c * (vx l i).1 + d * (vx l i).2 + y)
/-- are the first n of these points pegs? -/
def allB (g : Nat → Int × Int) (n : Nat) : Bool := pegsB (firsts g n)
theorem allB_iff (g : Nat → Int × Int) (n : Nat) : allB g n = true ↔ ∀ i, i < n → isPg (g i) = true := by
  unfold allB
  rw [pegsB_iff, firsts_len]
  constructor
  · intro h i hi
    have := h i hi
    have e := vx_get (l := firsts g n) (i := i) (by rw [firsts_len]; exact hi)
    rw [firsts_get g n i hi] at e
    injection e with e
    rw [e]; exact this
  · intro h i hi
    have e := vx_get (l := firsts g n) (i := i) (by rw [firsts_len]; exact hi)
    rw [firsts_get g n i hi] at e
    injection e with e
    rw [← e]; exact h i hi
theorem retL_of_row {w w' : World} {v : Value} {f : Nat → Int × Int} {k : Nat} (h : Row w' w.heap.size v f k) (hb : Below w.heap.size w w') : RetL w (firsts f k) true (.returned (.tuple #[v, .bool true])) w' := by
  obtain ⟨A, c, rfl, h1, h2, h3⟩ := row_out h
  refine ⟨A, c, by rw [firsts_len], by rw [firsts_len]; exact h1, h2, hb, ?_⟩
  rw [firsts_len]
  exact rw_same h3 fun i hi => (firsts_pt f k i hi).symm
set_option maxHeartbeats 4000000 in
theorem pgMap_any (A : Option Addr) (cp : Nat) (l : List (Int × Int)) (a b c d x y : Int) (w : World) (h1 : 1 ≤ l.length) (hn : l.length ≤ 10) (hp : ∀ i, i < l.length → isPg (vx l i) = true) (hR : Rd w w.heap.size A l)
    (ha : -20 ≤ a ∧ a ≤ 20) (hb : -20 ≤ b ∧ b ≤ 20) (hc : -20 ≤ c ∧ c ≤ 20) (hd : -20 ≤ d ∧ d ≤ 20) (hx : -2000 ≤ x ∧ x ≤ 2000) (hy : -2000 ≤ y ∧ y ≤ 2000) :
    Calls Try.prog 82 #[.slice A l.length cp, .int .i64 a, .int .i64 b, .int .i64 c, .int .i64 d, .int .i64 x, .int .i64 y] w
      (RetL w (sel (allB (mapF a b c d x y l) l.length) (firsts (mapF a b c d x y l) l.length)) (allB (mapF a b c d x y l) l.length)) := by
  obtain ⟨b0, off, rfl, hb0, HC⟩ := pts_of (by omega) hR
  obtain ⟨i0, hi0, hz0, hz1, hz2⟩ := info_parts peg_info
  have HI := Lib.hid (And.intro hi0 (And.intro hz0 (And.intro hz1 hz2)))
  have HP := Lib.hid (fun i hi => (show (-40 ≤ (vx l i).1 ∧ (vx l i).1 ≤ 40) ∧ (-40 ≤ (vx l i).2 ∧ (vx l i).2 ≤ 40) from by
    have := hp i hi
    unfold isPg isPegB at this
    simp only [Bool.and_eq_true, decide_eq_true_eq] at this
    exact this))
  have HM := Lib.hid (fun i => (show mapF a b c d x y l i = (a * (vx l i).1 + b * (vx l i).2 + x, c * (vx l i).1 + d * (vx l i).2 + y) from rfl))
  have HA := Lib.hid (allB_iff (mapF a b c d x y l) l.length)
  have HBD := Lib.hid (And.intro ha (And.intro hb (And.intro hc hd)))
  obtain ⟨x1, x2⟩ := hx
  obtain ⟨y1, y2⟩ := hy
  clear hi0 hz0 hz1 hz2 hR hp ha hb hc hd
  generalize mapF a b c d x y l = f at *
  generalize hN : l.length = n at *
  have HN := Lib.hid hN
  clear hN
  go_enter Try.func82, Try.ntmps82
  go_wp2_with fail
  go_loopg [16, 22] n (fun g s i wr => ∃ (k : Nat) (v : Value), s = v ∧ k ≤ n ∧ g = n - k ∧ i = .int .i64 k ∧ Below w.heap.size w wr ∧ Hid (Row wr w.heap.size v f k) ∧ Hid (∀ i, i < k → isPg (f i) = true))
  case atStart => exact ⟨0, _, rfl, Nat.zero_le _, rfl, rfl, Below.refl _ _, Lib.hid (row_nil w w.heap.size f), Lib.hid (fun i h => absurd h (Nat.not_lt_zero _))⟩
  case round =>
    obtain ⟨k, v, rfl, hk, hg, rfl, hB, hr, hF⟩ := hrel
    rename World => wo
    have HGK := Lib.hid hg
    clear hg
    by_cases hlt : k < n
    · have hq := HC.out wo hB k hlt
      have hfk := HM.out k
      obtain ⟨⟨p1, p2⟩, ⟨p3, p4⟩⟩ := HP.out k hlt
      obtain ⟨⟨a1, a2⟩, ⟨b1, b2⟩, ⟨c1, c2⟩, ⟨d1, d2⟩⟩ := HBD.out
      have m1 := mul_bd (x := a) (y := (vx l k).1) (m := 20) (n := 40) (by omega) (by omega) (by omega) (by omega)
      have m2 := mul_bd (x := b) (y := (vx l k).2) (m := 20) (n := 40) (by omega) (by omega) (by omega) (by omega)
      have m3 := mul_bd (x := c) (y := (vx l k).1) (m := 20) (n := 40) (by omega) (by omega) (by omega) (by omega)
      have m4 := mul_bd (x := d) (y := (vx l k).2) (m := 20) (n := 40) (by omega) (by omega) (by omega) (by omega)
      obtain ⟨m11, m12⟩ := m1
      obtain ⟨m21, m22⟩ := m2
      obtain ⟨m31, m32⟩ := m3
      obtain ⟨m41, m42⟩ := m4
      have hzB := hB.size
      obtain ⟨q1, hq1⟩ : ∃ q, q = a * (vx l k).1 + b * (vx l k).2 + x := ⟨_, rfl⟩
      obtain ⟨q2, hq2⟩ : ∃ q, q = c * (vx l k).1 + d * (vx l k).2 + y := ⟨_, rfl⟩
      have HQ := Lib.hid (And.intro hq1 hq2)
      have K1 := Lib.hid (fun W => pgIs_any (a * (vx l k).1 + b * (vx l k).2 + x) (c * (vx l k).1 + d * (vx l k).2 + y) W)
      have hpe : isPg (f k) = isPegB (a * (vx l k).1 + b * (vx l k).2 + x) (c * (vx l k).1 + d * (vx l k).2 + y) := by rw [hfk]; rfl
      have HFK := Lib.hid hfk
      have B1 := Lib.hid (Below.alloc (Below.alloc hB hzB (.cells #[.int .i64 (vx l k).1, .int .i64 (vx l k).2] 46)) (by simp; omega) (.cells #[.int .i64 (a * (vx l k).1 + b * (vx l k).2 + x), .int .i64 (c * (vx l k).1 + d * (vx l k).2 + y)] 46))
      have R1 := Lib.hid (row_alloc (row_alloc hr.out (.cells #[.int .i64 (vx l k).1, .int .i64 (vx l k).2] 46)) (.cells #[.int .i64 (a * (vx l k).1 + b * (vx l k).2 + x), .int .i64 (c * (vx l k).1 + d * (vx l k).2 + y)] 46))
      clear hfk hq1 hq2
      by_cases hpg : isPg (f k) = true
      · have hF2 : Hid (∀ i, i < k + 1 → isPg (f i) = true) := Lib.hid (fun i hi => by
          by_cases hik : i = k
          · subst hik; exact hpg
          · exact hF.out i (by omega))
        rw [hpe] at hpg
        rw [hpg] at K1
        clear hpe hpg hF
        go_wp2_with fail
        refine (K1.out _).mono ?_; rintro e w1 ⟨rfl, hb1⟩
        have B2 := B1.out.trans (hb1.mono (B1.out.size))
        have R2 := row_below R1.out hb1 (Nat.le_refl _)
        have z2 : wo.heap.size + 1 < w1.heap.size := by (have := hb1.size; simp at this; omega)
        have c0 : w1.cell? ⟨wo.heap.size + 1, 0, none⟩ = some (.int .i64 (a * (vx l k).1 + b * (vx l k).2 + x)) := ((bcell hb1).1 _ _ (by simp)).trans (by go_simp)
        have c1 : w1.cell? ⟨wo.heap.size + 1, 1, none⟩ = some (.int .i64 (c * (vx l k).1 + d * (vx l k).2 + y)) := ((bcell hb1).1 _ _ (by simp)).trans (by go_simp)
        have RA := Lib.hid (row_alloc R2 (.cells #[.int .i64 (a * (vx l k).1 + b * (vx l k).2 + x), .int .i64 (c * (vx l k).1 + d * (vx l k).2 + y)] 46))
        have BA := Lib.hid (Below.alloc B2 B2.size (.cells #[.int .i64 (a * (vx l k).1 + b * (vx l k).2 + x), .int .i64 (c * (vx l k).1 + d * (vx l k).2 + y)] 46))
        have hz1 := B2.size
        clear R2 hb1 B2 K1 B1 R1 hr
        go_wp2_with (at_builtin; refine wpList_append_own _ rfl (.tmp 52) (.tmp 54) 26 rfl w.heap.size 46 i0 (.agg #[.int .i64 0, .int .i64 0]) 2 16 Try.underlying26 HI.out.1 HI.out.2.1 HI.out.2.2.1 HI.out.2.2.2 rfl (by decide) _ k (flat (firsts f k)) rfl RA.out ⟨w1.heap.size, 0, none⟩ 1 1 [.int .i64 (a * (vx l k).1 + b * (vx l k).2 + x), .int .i64 (c * (vx l k).1 + d * (vx l k).2 + y)] rfl rfl (two_cells (by go_simp) (by go_simp)) (two_one _ _) (by unfold maxLen; omega) (by omega) (by simp; omega) ?_)
        intro v' w2 hown hgr _
        have RB := row_push (f := f) (k := k) BA.out RA.out (by rw [HFK.out]; exact hown) hgr
        have R3 := Lib.hid RB.1
        have B3 := RB.2
        clear RB hown hgr hq c0 c1 m11 m12 m21 m22 m31 m32 m41 m42
        go_wp2_with fail
        go_roundg (n - (k + 1))
        case measure => have := HGK.out; omega
        case rel => exact ⟨k + 1, _, rfl, by omega, rfl, by go_num, B3, R3, hF2⟩
      · have hpf : isPg (f k) = false := by simpa using hpg
        have hng : Hid (allB f n = false) := Lib.hid (by
          have h := HA.out
          cases h2 : allB f n
          · rfl
          · exact absurd (h.1 h2 k hlt) hpg)
        rw [hpe] at hpf
        rw [hpf] at K1
        clear hpe hpf hpg hF hr
        go_wp2_with fail
        refine (K1.out _).mono ?_; rintro e w1 ⟨rfl, hb1⟩
        have B2 := B1.out.trans (hb1.mono (B1.out.size))
        go_wp2_with fail
        go_ret2
        rw [hng.out]
        exact retL_nil B2
    · have hkn : n = k := by omega
      subst hkn
      have hy : Hid (allB f n = true) := Lib.hid (HA.out.2 hF.out)
      go_wp2_with fail
      go_ret2
      rw [hy.out]
      exact retL_of_row hr.out hB
end Go.Proofs.Ytgjegildeejghaa
/- A statement that leaves the order of its first operations open, then calls, then looks at what the call gave: one walk, in the order of the text. -/
namespace Go.Proofs.Ytgjegildeejghaa
open Go.ChangeShapes Go.WideShapes Go.ChangeAt Go.RowKit Go.Joins
set_option linter.unusedVariables false
set_option linter.unusedSimpArgs false
set_option maxRecDepth 4000
section
variable {P : Program} {ops : Array Oper} {md : Region.Mode} {S : World → Prop}
def chain2B (md : Region.Mode) (ops : Array Oper) (n : Nat) : Bool :=
  (List.range ops.size).all fun t => decide (t ≤ n) || (List.range t).any fun j => decide (n ≤ j) && Region.waitsFor md ops t j
theorem tail_waits2 {n : Nat} {listed : Array Bool} (hs : Region.sinkB md ops n = true) (hc : chain2B md ops n = true) (hn : n < ops.size) (inv : HeadInv md ops n listed) :
    ∀ (d i : Nat), n - i = d → i < n → listed.getD i true = false → ∀ t, n ≤ t → t ∉ Region.ready md ops listed := by
  intro d
  induction d using Nat.strongRecOn with
  | _ d ih =>
    intro i hd hi hun t ht hr
    obtain ⟨_, ot, hot, hall⟩ := mem_ready.1 hr
    have htlt : t < ops.size := (Array.getElem?_eq_some_iff.1 hot).1
    by_cases htn : t = n
    · subst htn
      have h1 := List.all_eq_true.1 hs i (List.mem_range.2 hi)
      obtain ⟨j, hj, hj2⟩ := List.any_eq_true.1 h1
      simp only [Bool.and_eq_true, decide_eq_true_eq] at hj2
      obtain ⟨oj, hoj, e, he, hb, hon⟩ := Region.waitsFor_spec hj2.2
      have hjle : j ≤ t := by have := List.mem_range.1 hj; omega
      by_cases hjt : j = t
      · subst hjt
        have : oj = ot := Option.some.inj (hoj.symm.trans hot)
        subst this
        have h2 := hall e he hb
        rw [hon, getD_both hun] at h2
        cases h2
      · cases hl : listed.getD j false with
        | true =>
          have h2 := inv.closed j oj hoj hl e he hb
          rw [hon, getD_both hun] at h2
          cases h2
        | false =>
          have hjs : j < listed.size := by rw [inv.size]; omega
          exact ih (t - j) (by omega) j rfl (by omega) (getD_in hjs hl) t (Nat.le_refl _) hr
    · have h1 := List.all_eq_true.1 hc t (List.mem_range.2 htlt)
      simp only [Bool.or_eq_true, decide_eq_true_eq] at h1
      rcases h1 with h1 | h1
      · omega
      · obtain ⟨j, hj, hj2⟩ := List.any_eq_true.1 h1
        simp only [Bool.and_eq_true, decide_eq_true_eq] at hj2
        have hjt : j < t := List.mem_range.1 hj
        obtain ⟨o', ho', e, he, hb, hon⟩ := Region.waitsFor_spec hj2.2
        have : o' = ot := Option.some.inj (ho'.symm.trans hot)
        subst this
        have h2 := hall e he hb
        rw [hon, getD_both (inv.tail j hj2.1 (by omega))] at h2
        cases h2
theorem wpAnyS_first2 {n i : Nat} {oi : Oper} {v : Value} {L : Array Bool → Act → Prop} (hi : ops[i]? = some oi) (hsel : ∀ (j : Nat) (o : Oper) cs b, ops[j]? = some o → o.op ≠ .select cs b)
    (hs : Region.sinkB md ops n = true) (hc : chain2B md ops n = true) (hn : n < ops.size) (hin : i < n)
    (hdone : ∀ listed a, L listed a → ∀ j ∈ Region.ready md ops listed, n ≤ j) :
    ∀ (f : Nat) (listed : Array Bool) (a : Act), HeadInv md ops n listed →
      (∀ j oj, ops[j]? = some oj → j ≠ i → listed.getD j true = false → (∀ e ∈ oj.after, Region.binds md e = true → e.on ≠ i) → oi.apart ops oj = true) →
      i ∈ Region.ready md ops listed → Steady P ops S oi v a →
      wpAnyS P md ops S n L f (listed.setIfInBounds i true) (a.put oi.dst v) → wpAnyS P md ops S n L (f + 1) listed a := by
  intro f
  induction f with
  | zero =>
    intro listed a inv _ hr hy H
    have hun := (mem_ready.1 hr).1
    refine ⟨fun h => (by rw [h] at hr; cases hr), fun j hj => ?_⟩
    have hjn : j < n := by
      rcases Nat.lt_or_ge j n with h | h
      · exact h
      · exact absurd hj (tail_waits2 hs hc hn inv _ i rfl hin hun j h)
    refine ⟨hjn, ?_⟩
    by_cases hji : j = i
    · subst hji; exact ⟨oi, v, hi, hy, H⟩
    · have := hdone _ _ H j (ready_mono hj hji)
      omega
  | succ f ih =>
    intro listed a inv hfree hr hy H
    have hun := (mem_ready.1 hr).1
    refine ⟨fun h => (by rw [h] at hr; cases hr), fun j hj => ?_⟩
    have hjn : j < n := by
      rcases Nat.lt_or_ge j n with h | h
      · exact h
      · exact absurd hj (tail_waits2 hs hc hn inv _ i rfl hin hun j h)
    refine ⟨hjn, ?_⟩
    by_cases hji : j = i
    · subst hji; exact ⟨oi, v, hi, hy, H⟩
    · obtain ⟨_, oj, u, hoj, hsj, Hj⟩ := H.2 j (ready_mono hj hji)
      obtain ⟨hjun, oj', hoj', hall⟩ := mem_ready.1 hj
      obtain rfl : oj' = oj := Option.some.inj (hoj'.symm.trans hoj)
      have hnot : ∀ e ∈ oj'.after, Region.binds md e = true → e.on ≠ i := fun e he hb heq => by
        have h1 := hall e he hb
        rw [heq, getD_both hun] at h1
        cases h1
      obtain ⟨h1, h2, h3⟩ := Oper.apart_spec (hfree j oj' hoj hji hjun hnot)
      have k1 : Steady P ops S oj' u a := steady_same hsj (execOp_put oj' (fun cs b => hsel j oj' cs b hoj) a oi.dst v h1).symm (wanted_put oj' a oi.dst v h1).symm
      have k2 : Steady P ops S oi v (a.put oj'.dst u) := steady_same hy (execOp_put oi (fun cs b => hsel i oi cs b hi) a oj'.dst u h3) (wanted_put oi a oj'.dst u h3)
      refine ⟨oj', u, hoj, k1, ih _ _ (inv.set hj hjn) (fun k ok hk hki hun hno => ?_) (ready_mono hr (Ne.symm hji)) k2 ?_⟩
      · refine hfree k ok hk hki ?_ hno
        by_cases hjk : j = k
        · subst hjk; exact hjun
        · rw [getD_set_ne true hjk] at hun; exact hun
      · rw [Array.setIfInBounds_comm _ _ hji, ← Act.put_comm a v u h2]
        exact Hj
/-- the head in the text's order, then n alone, then the rest in the text's order -/
def lexHC (md : Region.Mode) (ops : Array Oper) (g : Nat) : Nat → Nat → Array Bool → Bool
  | 0, k, listed => decide (Region.ready md ops listed = [k]) && Region.lexFrom md ops g (k + 1) (listed.setIfInBounds k true)
  | f + 1, k, listed => (Region.ready md ops listed).contains k && Region.free md ops listed k && lexHC md ops g f (k + 1) (listed.setIfInBounds k true)
def lexCallB (md : Region.Mode) (ops : Array Oper) (n : Nat) : Bool :=
  Region.noSelect ops && decide (n < ops.size) && Region.sinkB md ops n && chain2B md ops n && lexHC md ops (ops.size - n - 1) n 0 (Array.replicate ops.size false)
theorem wpAnyS_lex2 {n g : Nat} {T : Act → Prop} (hsel : Region.noSelect ops = true) (hs : Region.sinkB md ops n = true) (hc : chain2B md ops n = true) (hn : n < ops.size) :
    ∀ (l : List Oper) (k : Nat) (listed : Array Bool) (a : Act), (∀ j, j < l.length → l[j]? = ops[k + j]?) → k + l.length = n → HeadInv md ops n listed →
    lexHC md ops g l.length k listed = true → wpH P ops S T l a →
    wpAnyS P md ops S n (fun listed' a' => (Region.ready md ops listed' = [n] ∧ Region.lexFrom md ops g (n + 1) (listed'.setIfInBounds n true) = true) ∧ T a') l.length listed a
  | [], k, listed, a, _, hk, _, hB, h => by
    have : k = n := by simpa using hk
    subst this
    simp only [List.length_nil, lexHC, Bool.and_eq_true, decide_eq_true_eq] at hB
    exact ⟨hB, h⟩
  | o :: l, k, listed, a, hl, hk, inv, hB, h => by
    have h0 : ops[k]? = some o := by simpa using (hl 0 (by simp)).symm
    simp only [List.length_cons, lexHC, Bool.and_eq_true] at hB
    obtain ⟨⟨hr, hf⟩, hB'⟩ := hB
    have hkn : k < n := by simp only [List.length_cons] at hk; omega
    have hr' : k ∈ Region.ready md ops listed := by simpa using hr
    obtain ⟨v, hy, hK⟩ := h
    exact wpAnyS_first2 h0 (Region.noSelect_spec hsel) hs hc hn hkn (fun listed' a' hL j hj => by rw [hL.1.1] at hj; simp at hj; omega) l.length listed a inv (Region.free_spec h0 hf) hr' hy
      (wpAnyS_lex2 hsel hs hc hn l (k + 1) _ _ (fun j hj => by have := hl (j + 1) (by simp; omega); simpa [Nat.add_assoc, Nat.add_comm 1 j] using this) (by simp only [List.length_cons] at hk; omega) (inv.set hr' hkn) hB' hK)
theorem op_enter {o : Oper} {a : Act} {K : Act → World → Prop} {Q : Exit → Act → World → Prop} {W : World} {f : FuncId} {args : Array Value} (h1 : (execOp a.eval o).run P W = .ok (.enter f args) W)
    (h2 : Calls P f args W fun e W' => ∃ v, e = .returned v ∧ K (a.put o.dst v) W') : o.wp P a W K Q := by
  unfold Oper.wp
  rw [h1]
  exact Calls.mono h2 fun e w'' he => by obtain ⟨v, rfl, hs⟩ := he; exact hs
theorem wp_region_HC {id : Nat} {Q : Exit → Act → World → Prop} {a : Act} {w : World} {l : List Oper} (n : Nat) {o : Oper} {rest : List Oper} (S : World → Prop) (hm : P.follows .mixedOrders = true) (hB : lexCallB .any l.toArray n = true) (hS : S w.drew)
    (ho : l.drop n = o :: rest)
    (h : wpH P l.toArray S (fun a' => Region.wanted o (yielded l.toArray a'.tmps) = true ∧ ∀ W, S W → ∃ f args, (execOp a'.eval o).run P W = .ok (.enter f args) W ∧
      Calls P f args W fun e W' => ∃ v, e = .returned v ∧ wpStill P l.toArray W' (fun a'' => Q .normal a'' W') rest (a'.put o.dst v)) (l.take n) a) : (Code.region id l.toArray true).wp P Q a w := by
  simp only [lexCallB, Bool.and_eq_true, decide_eq_true_eq] at hB
  obtain ⟨⟨⟨⟨hsel, hn⟩, hs⟩, hc⟩, hlex⟩ := hB
  have hn' : n < l.length := by simpa using hn
  have htl : (l.take n).length = n := by simp; omega
  have hrl : rest.length = l.toArray.size - n - 1 := by
    have := congrArg List.length ho
    simp at this ⊢
    omega
  have inv0 : HeadInv .any l.toArray n (Array.replicate l.toArray.size false) :=
    ⟨by simp, fun j oj _ hl => (by rw [getD_replicate_false] at hl; cases hl), fun t _ ht => getD_in (by simpa using ht) (getD_replicate_false _ _)⟩
  have H := wpAnyS_lex2 (md := .any) (g := l.toArray.size - n - 1) hsel hs hc hn (l.take n) 0 _ a (fun j hj => by
    have hj' : j < n := by rw [htl] at hj; exact hj
    simp [hj']) (by simpa using htl) inv0 (by rw [htl]; exact hlex) h
  refine wp_region_any hm ?_
  have hoi : l.toArray[n]? = some o := by
    have h0 : (l.drop n)[0]? = some o := by rw [ho]; rfl
    simpa [List.getElem?_drop] using h0
  have hrest : ∀ j, rest[j]? = l.toArray[n + 1 + j]? := fun j => by
    have h0 : (l.drop n)[j + 1]? = rest[j]? := by rw [ho]; rfl
    rw [← h0]
    simp [List.getElem?_drop]
    congr 1
    omega
  have := wpAny_of_S (Q := Q) (g := rest.length + 1) (fun listed a' hL W hW => by
    obtain ⟨⟨hr, hlf⟩, hwt, hT⟩ := hL
    refine ⟨fun h0 => (by rw [hr] at h0; cases h0), fun i hi => ?_⟩
    rw [hr] at hi
    have hin : i = n := by simpa using hi
    subst hin
    unfold wpOp
    simp only [hoi, hwt, if_true]
    left
    obtain ⟨f, args, h1, h2⟩ := hT W hW
    refine op_enter h1 (h2.mono fun e W' ⟨v, he, hst⟩ => ⟨v, he, ?_⟩)
    refine wpAny_of_still (Q := fun a'' => Q .normal a'' W') (fun _ h => h) _ _ _ ?_
    exact Go.wpAnyS_lex (md := .any) hsel rest (i + 1) _ _ hrest (by rw [hrl]; exact hlf) hst) _ _ _ H w.drew hS
  rw [htl, show n + (rest.length + 1) = l.toArray.size by rw [hrl]; omega] at this
  exact this
end
end Go.Proofs.Ytgjegildeejghaa
/- contracts: GrowThree, the model -/
namespace Go.Proofs.Ytgjegildeejghaa
open Go.ChangeShapes Go.WideShapes Go.ChangeAt Go.RowKit Go.Joins
set_option linter.unusedVariables false
set_option linter.unusedSimpArgs false
set_option maxRecDepth 4000
/-- a grown triangle's corners -/
def growF (l : List (Int × Int)) (k : Int) (i : Nat) : Int × Int := mapF k 0 0 k ((1 - k) * (vx l 0).1) ((1 - k) * (vx l 0).2) l i
set_option maxHeartbeats 1000000 in
theorem specGrowThree_any (A : Option Addr) (c : Nat) (l : List (Int × Int)) (k : Int) (w : World) (hn : l.length ≤ 1048576) (hcap : l.length ≤ c) (hc2 : c ≤ 9223372036854775807) (hR : Rd w w.heap.size A l) :
    Calls Try.prog 50 #[.slice A l.length c, .int .i64 k] w (RetL w (sel (tB l && inR 1 20 k && allB (growF l k) l.length) (firsts (growF l k) l.length)) (tB l && inR 1 20 k && allB (growF l k) l.length)) := by
  have K := Lib.hid (trThree_any A c l w hn hcap hc2 hR)
  by_cases ht : tB l = true
  · obtain ⟨a1, a2, b1, b2, c1, c2, htr⟩ := tB_true ht
    have hg := htr.2
    rw [ht] at K ⊢
    rw [Bool.true_and]
    have KL := Lib.hid (fun W => l1In_r k 1 20 W)
    by_cases hk : inR 1 20 k = true
    · rw [hk] at KL ⊢
      rw [Bool.true_and]
      unfold inR at hk
      simp only [Bool.and_eq_true, decide_eq_true_eq] at hk
      obtain ⟨k1, k2⟩ := hk
      obtain ⟨⟨u1, u2⟩, ⟨u3, u4⟩, _⟩ := tri_bd htr
      have m1 := mul_bd (x := 1 - k) (y := a1) (m := 19) (n := 40) (by omega) (by omega) (by omega) (by omega)
      have m2 := mul_bd (x := 1 - k) (y := a2) (m := 19) (n := 40) (by omega) (by omega) (by omega) (by omega)
      have v0 : vx l 0 = (a1, a2) := by rw [htr.1]; rfl
      have K2 := Lib.hid (fun W (hb : Below w.heap.size w W) => (show Calls Try.prog 82 #[.slice A l.length c, .int .i64 k, .int .i64 0, .int .i64 0, .int .i64 k, .int .i64 ((1 - k) * a1), .int .i64 ((1 - k) * a2)] W (RetL W (sel (allB (growF l k) l.length) (firsts (growF l k) l.length)) (allB (growF l k) l.length)) from by
        have := pgMap_any A c l k 0 0 k ((1 - k) * a1) ((1 - k) * a2) W (good_pos hg) hg.few.2 hg.pegs (rd_more (rd_below hR hb (Nat.le_refl _)) hb.size) (by omega) (by omega) (by omega) (by omega) (by omega) (by omega)
        have e : growF l k = mapF k 0 0 k ((1 - k) * a1) ((1 - k) * a2) l := by funext i; unfold growF; rw [v0]
        rw [e]; exact this))
      generalize growF l k = f at *
      have e1 : IntKind.i64.wrap (1 - k) = 1 - k := IntWalk.i64_in _ (by omega)
      have e2 : IntKind.i64.wrap ((1 - k) * a1) = (1 - k) * a1 := IntWalk.i64_in _ (by omega)
      have e3 : IntKind.i64.wrap ((1 - k) * a2) = (1 - k) * a2 := IntWalk.i64_in _ (by omega)
      obtain ⟨rfl, _⟩ := htr
      obtain ⟨b, off, rfl, hb, H3⟩ := rd3_of hR
      change Hid (Calls Try.prog 53 #[.slice (some ⟨b, off, none⟩) 3 c] w fun e w' => e = .returned (.bool true) ∧ Below w.heap.size w w') at K
      change Hid (∀ W, Below w.heap.size w W → Calls Try.prog 82 #[.slice (some ⟨b, off, none⟩) 3 c, .int .i64 k, .int .i64 0, .int .i64 0, .int .i64 k, .int .i64 ((1 - k) * a1), .int .i64 ((1 - k) * a2)] W (RetL W (sel (allB f 3) (firsts f 3)) (allB f 3))) at K2
      change Calls Try.prog 50 #[.slice (some ⟨b, off, none⟩) 3 c, .int .i64 k] w (RetL w (sel (allB f 3) (firsts f 3)) (allB f 3))
      clear ht hg hR hn hcap m1 m2 v0 u1 u2 u3 u4 k1 k2
      go_enter Try.func50, Try.ntmps50
      go_wp2_with fail
      refine K.out.mono ?_; rintro e w1 ⟨rfl, hb1⟩
      go_wp2_with fail
      refine (KL.out _).mono ?_; rintro e _ ⟨rfl, rfl⟩
      obtain ⟨x0, x1, x2, x3, x4, x5⟩ := H3.out w1 hb1
      have hbz : b < w1.heap.size := by have := hb1.size; omega
      clear x2 x3 x4 x5
      go_wp2_with fail
      refine wp_region_HC 17 (fun W => Below (w1).heap.size (w1) W) (by kernel_rfl) (by kernel_rfl) (by repeat (first | exact Below.refl _ _ | apply Below.drew)) rfl ?_
      simp only [List.take_succ_cons, List.take_zero, List.drop_succ_cons, List.drop_zero]
      first | refine wpH_skip (by rfl) ?_ | (refine wpH_text (v := ?_) (by rfl) (fun W k1 => ?_) ?_; rotate_left; (obtain ⟨hc1, hf1⟩ := bcell k1;  go_simp; refine comes_v ?_; exact k1))
      (try simp only [Act.put, List.setIfInBounds_toArray, List.set_cons_zero, List.set_cons_succ])
      first | refine wpH_skip (by rfl) ?_ | (refine wpH_text (v := ?_) (by rfl) (fun W k1 => ?_) ?_; rotate_left; (obtain ⟨hc1, hf1⟩ := bcell k1;  go_simp; refine comes_v ?_; exact k1))
      (try simp only [Act.put, List.setIfInBounds_toArray, List.set_cons_zero, List.set_cons_succ])
      first | refine wpH_skip (by rfl) ?_ | (refine wpH_text (v := ?_) (by rfl) (fun W k1 => ?_) ?_; rotate_left; (obtain ⟨hc1, hf1⟩ := bcell k1;  go_simp; refine comes_v ?_; exact k1))
      (try simp only [Act.put, List.setIfInBounds_toArray, List.set_cons_zero, List.set_cons_succ])
      first | refine wpH_skip (by rfl) ?_ | (refine wpH_text (v := ?_) (by rfl) (fun W k1 => ?_) ?_; rotate_left; (obtain ⟨hc1, hf1⟩ := bcell k1;  go_simp; refine comes_v ?_; exact k1))
      (try simp only [Act.put, List.setIfInBounds_toArray, List.set_cons_zero, List.set_cons_succ])
      first | refine wpH_skip (by rfl) ?_ | (refine wpH_text (v := ?_) (by rfl) (fun W k1 => ?_) ?_; rotate_left; (obtain ⟨hc1, hf1⟩ := bcell k1;  go_simp; refine comes_v ?_; exact k1))
      (try simp only [Act.put, List.setIfInBounds_toArray, List.set_cons_zero, List.set_cons_succ])
      first | refine wpH_skip (by rfl) ?_ | (refine wpH_text (v := ?_) (by rfl) (fun W k1 => ?_) ?_; rotate_left; (obtain ⟨hc1, hf1⟩ := bcell k1;  go_simp; refine comes_v ?_; exact k1))
      (try simp only [Act.put, List.setIfInBounds_toArray, List.set_cons_zero, List.set_cons_succ])
      first | refine wpH_skip (by rfl) ?_ | (refine wpH_text (v := ?_) (by rfl) (fun W k1 => ?_) ?_; rotate_left; (obtain ⟨hc1, hf1⟩ := bcell k1;  go_simp; refine comes_v ?_; exact k1))
      (try simp only [Act.put, List.setIfInBounds_toArray, List.set_cons_zero, List.set_cons_succ])
      first | refine wpH_skip (by rfl) ?_ | (refine wpH_text (v := ?_) (by rfl) (fun W k1 => ?_) ?_; rotate_left; (obtain ⟨hc1, hf1⟩ := bcell k1;  go_simp; refine comes_v ?_; exact k1))
      (try simp only [Act.put, List.setIfInBounds_toArray, List.set_cons_zero, List.set_cons_succ])
      first | refine wpH_skip (by rfl) ?_ | (refine wpH_text (v := ?_) (by rfl) (fun W k1 => ?_) ?_; rotate_left; (obtain ⟨hc1, hf1⟩ := bcell k1;  go_simp; refine comes_v ?_; exact k1))
      (try simp only [Act.put, List.setIfInBounds_toArray, List.set_cons_zero, List.set_cons_succ])
      first | refine wpH_skip (by rfl) ?_ | (refine wpH_text (v := ?_) (by rfl) (fun W k1 => ?_) ?_; rotate_left; (obtain ⟨hc1, hf1⟩ := bcell k1;  go_simp; refine comes_v ?_; exact k1))
      (try simp only [Act.put, List.setIfInBounds_toArray, List.set_cons_zero, List.set_cons_succ])
      first | refine wpH_skip (by rfl) ?_ | (refine wpH_text (v := ?_) (by rfl) (fun W k1 => ?_) ?_; rotate_left; (obtain ⟨hc1, hf1⟩ := bcell k1;  go_simp; refine comes_v ?_; exact k1))
      (try simp only [Act.put, List.setIfInBounds_toArray, List.set_cons_zero, List.set_cons_succ])
      first | refine wpH_skip (by rfl) ?_ | (refine wpH_text (v := ?_) (by rfl) (fun W k1 => ?_) ?_; rotate_left; (obtain ⟨hc1, hf1⟩ := bcell k1;  go_simp; refine comes_v ?_; exact k1))
      (try simp only [Act.put, List.setIfInBounds_toArray, List.set_cons_zero, List.set_cons_succ])
      first | refine wpH_skip (by rfl) ?_ | (refine wpH_text (v := ?_) (by rfl) (fun W k1 => ?_) ?_; rotate_left; (obtain ⟨hc1, hf1⟩ := bcell k1;  go_simp; refine comes_v ?_; exact k1))
      (try simp only [Act.put, List.setIfInBounds_toArray, List.set_cons_zero, List.set_cons_succ])
      first | refine wpH_skip (by rfl) ?_ | (refine wpH_text (v := ?_) (by rfl) (fun W k1 => ?_) ?_; rotate_left; (obtain ⟨hc1, hf1⟩ := bcell k1;  go_simp; refine comes_v ?_; exact k1))
      (try simp only [Act.put, List.setIfInBounds_toArray, List.set_cons_zero, List.set_cons_succ])
      first | refine wpH_skip (by rfl) ?_ | (refine wpH_text (v := ?_) (by rfl) (fun W k1 => ?_) ?_; rotate_left; (obtain ⟨hc1, hf1⟩ := bcell k1;  go_simp; refine comes_v ?_; exact k1))
      (try simp only [Act.put, List.setIfInBounds_toArray, List.set_cons_zero, List.set_cons_succ])
      first | refine wpH_skip (by rfl) ?_ | (refine wpH_text (v := ?_) (by rfl) (fun W k1 => ?_) ?_; rotate_left; (obtain ⟨hc1, hf1⟩ := bcell k1;  go_simp; refine comes_v ?_; exact k1))
      (try simp only [Act.put, List.setIfInBounds_toArray, List.set_cons_zero, List.set_cons_succ])
      first | refine wpH_skip (by rfl) ?_ | (refine wpH_text (v := ?_) (by rfl) (fun W k1 => ?_) ?_; rotate_left; (obtain ⟨hc1, hf1⟩ := bcell k1;  go_simp; refine comes_v ?_; exact k1))
      (try simp only [Act.put, List.setIfInBounds_toArray, List.set_cons_zero, List.set_cons_succ])
      refine wpH_nil ?_
      refine ⟨(by rfl), ?_⟩
      intro W k1; obtain ⟨hc1, hf1⟩ := bcell k1
      refine ⟨82, #[.slice (some ⟨b, off, none⟩) 3 c, .int .i64 k, .int .i64 0, .int .i64 0, .int .i64 k, .int .i64 ((1 - k) * a1), .int .i64 ((1 - k) * a2)], (by go_simp), ?_⟩
      refine (K2.out W (hb1.trans (k1.mono hb1.size))).mono ?_; rintro e w2 ⟨A2, c2', rfl, q1, q2, hb2, q3⟩
      refine ⟨_, rfl, ?_⟩
      simp only [Act.put, List.setIfInBounds_toArray, List.set_cons_zero, List.set_cons_succ]
      repeat still_step
      refine wpStill_nil ?_
      have B1 := hb1.trans (k1.mono hb1.size)
      clear hc1 hf1 x0 x1 e1 e2 e3
      go_wp2_with fail
      go_ret2
      exact retL_up B1 ⟨A2, c2', rfl, q1, q2, hb2, q3⟩
    · have hkf : inR 1 20 k = false := by simpa using hk
      rw [hkf] at KL ⊢
      rw [Bool.false_and]
      clear ht hg htr hR hk hkf
      go_enter Try.func50, Try.ntmps50
      go_wp2_with fail
      refine K.out.mono ?_; rintro e w1 ⟨rfl, hb1⟩
      go_wp2_with fail
      refine (KL.out _).mono ?_; rintro e _ ⟨rfl, rfl⟩
      go_wp2_with fail
      go_ret2
      exact retL_nil hb1
  · have htf : tB l = false := by simpa using ht
    rw [htf] at K ⊢
    rw [Bool.false_and, Bool.false_and]
    clear ht htf hR
    go_enter Try.func50, Try.ntmps50
    go_wp2_with fail
    refine K.out.mono ?_; rintro e w1 ⟨rfl, hb1⟩
    go_wp2_with fail
    go_ret2
    exact retL_nil hb1
end Go.Proofs.Ytgjegildeejghaa
/- a triangle's corner, by its number -/
namespace Go.Proofs.Ytgjegildeejghaa
open Go.ChangeShapes Go.WideShapes Go.ChangeAt Go.RowKit Go.Joins
set_option linter.unusedVariables false
set_option linter.unusedSimpArgs false
set_option maxRecDepth 4000
theorem index3_0 (a1 a2 b1 b2 c1 c2 : Int) (W : World) : (Instr.index 67 (.agg #[.int .i64 a1, .int .i64 a2, .int .i64 b1, .int .i64 b2, .int .i64 c1, .int .i64 c2]) (.int .i64 0)).run Try.prog W = .ok (.agg #[.int .i64 a1, .int .i64 a2]) W := by
  first | rfl | kernel_rfl | simp [Instr.index, go_sem]
theorem index3_1 (a1 a2 b1 b2 c1 c2 : Int) (W : World) : (Instr.index 67 (.agg #[.int .i64 a1, .int .i64 a2, .int .i64 b1, .int .i64 b2, .int .i64 c1, .int .i64 c2]) (.int .i64 1)).run Try.prog W = .ok (.agg #[.int .i64 b1, .int .i64 b2]) W := by
  first | rfl | kernel_rfl | simp [Instr.index, go_sem]
theorem index3_2 (a1 a2 b1 b2 c1 c2 : Int) (W : World) : (Instr.index 67 (.agg #[.int .i64 a1, .int .i64 a2, .int .i64 b1, .int .i64 b2, .int .i64 c1, .int .i64 c2]) (.int .i64 2)).run Try.prog W = .ok (.agg #[.int .i64 c1, .int .i64 c2]) W := by
  first | rfl | kernel_rfl | simp [Instr.index, go_sem]
end Go.Proofs.Ytgjegildeejghaa
/- 'x = append(x, ..)' whose order is open: the first operation, a move, may come ahead of any other one up to the append. -/
namespace Go.Proofs.Ytgjegildeejghaa
open Go.ChangeShapes Go.WideShapes Go.ChangeAt Go.RowKit Go.Joins
set_option linter.unusedVariables false
set_option linter.unusedSimpArgs false
set_option maxRecDepth 4000
section
variable {P : Program} {ops : Array Oper} {md : Region.Mode} {S : World → Prop}
def sink1B (md : Region.Mode) (ops : Array Oper) (n : Nat) : Bool :=
  (List.range n).all fun i => decide (i = 0) || (List.range (n + 1)).any fun j => decide (i < j) && Region.waitsFor md ops j i
theorem tail_waits1 {n : Nat} {listed : Array Bool} (hs : sink1B md ops n = true) (hc : Region.chainB md ops n = true) (hn : n < ops.size) (inv : HeadInv md ops n listed) :
    ∀ (d i : Nat), n - i = d → i < n → i ≠ 0 → listed.getD i true = false → ∀ t, n ≤ t → t ∉ Region.ready md ops listed := by
  intro d
  induction d using Nat.strongRecOn with
  | _ d ih =>
    intro i hd hi hi0 hun t ht hr
    obtain ⟨_, ot, hot, hall⟩ := mem_ready.1 hr
    have htlt : t < ops.size := (Array.getElem?_eq_some_iff.1 hot).1
    by_cases htn : t = n
    · subst htn
      have h1 := List.all_eq_true.1 hs i (List.mem_range.2 hi)
      simp only [Bool.or_eq_true, decide_eq_true_eq] at h1
      rcases h1 with h1 | h1
      · exact hi0 h1
      obtain ⟨j, hj, hj2⟩ := List.any_eq_true.1 h1
      simp only [Bool.and_eq_true, decide_eq_true_eq] at hj2
      obtain ⟨oj, hoj, e, he, hb, hon⟩ := Region.waitsFor_spec hj2.2
      have hjle : j ≤ t := by have := List.mem_range.1 hj; omega
      by_cases hjt : j = t
      · subst hjt
        have : oj = ot := Option.some.inj (hoj.symm.trans hot)
        subst this
        have h2 := hall e he hb
        rw [hon, getD_both hun] at h2
        cases h2
      · cases hl : listed.getD j false with
        | true =>
          have h2 := inv.closed j oj hoj hl e he hb
          rw [hon, getD_both hun] at h2
          cases h2
        | false =>
          have hjs : j < listed.size := by rw [inv.size]; omega
          exact ih (t - j) (by omega) j rfl (by omega) (by omega) (getD_in hjs hl) t (Nat.le_refl _) hr
    · have h1 := List.all_eq_true.1 hc t (List.mem_range.2 htlt)
      simp only [Bool.or_eq_true, decide_eq_true_eq] at h1
      rcases h1 with h1 | h1
      · omega
      · obtain ⟨o', ho', e, he, hb, hon⟩ := Region.waitsFor_spec h1
        have : o' = ot := Option.some.inj (ho'.symm.trans hot)
        subst this
        have h2 := hall e he hb
        rw [hon, getD_both (inv.tail (t - 1) (by omega) (by omega))] at h2
        cases h2
theorem wpAnyS_first1 {n i : Nat} {oi : Oper} {v : Value} {L : Array Bool → Act → Prop} (hi : ops[i]? = some oi) (hsel : ∀ (j : Nat) (o : Oper) cs b, ops[j]? = some o → o.op ≠ .select cs b)
    (hs : sink1B md ops n = true) (hc : Region.chainB md ops n = true) (hn : n < ops.size) (hin : i < n) (hi0 : i ≠ 0)
    (hdone : ∀ listed a, L listed a → ∀ j ∈ Region.ready md ops listed, n ≤ j) :
    ∀ (f : Nat) (listed : Array Bool) (a : Act), HeadInv md ops n listed →
      (∀ j oj, ops[j]? = some oj → j ≠ i → listed.getD j true = false → (∀ e ∈ oj.after, Region.binds md e = true → e.on ≠ i) → oi.apart ops oj = true) →
      i ∈ Region.ready md ops listed → Steady P ops S oi v a →
      wpAnyS P md ops S n L f (listed.setIfInBounds i true) (a.put oi.dst v) → wpAnyS P md ops S n L (f + 1) listed a := by
  intro f
  induction f with
  | zero =>
    intro listed a inv _ hr hy H
    have hun := (mem_ready.1 hr).1
    refine ⟨fun h => (by rw [h] at hr; cases hr), fun j hj => ?_⟩
    have hjn : j < n := by
      rcases Nat.lt_or_ge j n with h | h
      · exact h
      · exact absurd hj (tail_waits1 hs hc hn inv _ i rfl hin hi0 hun j h)
    refine ⟨hjn, ?_⟩
    by_cases hji : j = i
    · subst hji; exact ⟨oi, v, hi, hy, H⟩
    · have := hdone _ _ H j (ready_mono hj hji)
      omega
  | succ f ih =>
    intro listed a inv hfree hr hy H
    have hun := (mem_ready.1 hr).1
    refine ⟨fun h => (by rw [h] at hr; cases hr), fun j hj => ?_⟩
    have hjn : j < n := by
      rcases Nat.lt_or_ge j n with h | h
      · exact h
      · exact absurd hj (tail_waits1 hs hc hn inv _ i rfl hin hi0 hun j h)
    refine ⟨hjn, ?_⟩
    by_cases hji : j = i
    · subst hji; exact ⟨oi, v, hi, hy, H⟩
    · obtain ⟨_, oj, u, hoj, hsj, Hj⟩ := H.2 j (ready_mono hj hji)
      obtain ⟨hjun, oj', hoj', hall⟩ := mem_ready.1 hj
      obtain rfl : oj' = oj := Option.some.inj (hoj'.symm.trans hoj)
      have hnot : ∀ e ∈ oj'.after, Region.binds md e = true → e.on ≠ i := fun e he hb heq => by
        have h1 := hall e he hb
        rw [heq, getD_both hun] at h1
        cases h1
      obtain ⟨h1, h2, h3⟩ := Oper.apart_spec (hfree j oj' hoj hji hjun hnot)
      have k1 : Steady P ops S oj' u a := steady_same hsj (execOp_put oj' (fun cs b => hsel j oj' cs b hoj) a oi.dst v h1).symm (wanted_put oj' a oi.dst v h1).symm
      have k2 : Steady P ops S oi v (a.put oj'.dst u) := steady_same hy (execOp_put oi (fun cs b => hsel i oi cs b hi) a oj'.dst u h3) (wanted_put oi a oj'.dst u h3)
      refine ⟨oj', u, hoj, k1, ih _ _ (inv.set hj hjn) (fun k ok hk hki hun hno => ?_) (ready_mono hr (Ne.symm hji)) k2 ?_⟩
      · refine hfree k ok hk hki ?_ hno
        by_cases hjk : j = k
        · subst hjk; exact hjun
        · rw [getD_set_ne true hjk] at hun; exact hun
      · rw [Array.setIfInBounds_comm _ _ hji, ← Act.put_comm a v u h2]
        exact Hj
theorem wpAnyS_lex1 {n g : Nat} {T : Act → Prop} (hsel : Region.noSelect ops = true) (hs : sink1B md ops n = true) (hc : Region.chainB md ops n = true) (hn : n < ops.size) :
    ∀ (l : List Oper) (k : Nat) (listed : Array Bool) (a : Act), (∀ j, j < l.length → l[j]? = ops[k + j]?) → k + l.length = n → k ≠ 0 → HeadInv md ops n listed →
    Region.lexHead md ops g l.length k listed = true → wpH P ops S T l a →
    wpAnyS P md ops S n (fun listed' a' => Region.seqB md ops g n listed' = true ∧ T a') l.length listed a
  | [], k, listed, a, _, hk, _, _, hB, h => by
    have : k = n := by simpa using hk
    subst this
    exact ⟨by simpa [Region.lexHead] using hB, h⟩
  | o :: l, k, listed, a, hl, hk, hk0, inv, hB, h => by
    have h0 : ops[k]? = some o := by simpa using (hl 0 (by simp)).symm
    simp only [List.length_cons, Region.lexHead, Bool.and_eq_true] at hB
    obtain ⟨⟨hr, hf⟩, hB'⟩ := hB
    have hkn : k < n := by simp only [List.length_cons] at hk; omega
    have hr' : k ∈ Region.ready md ops listed := by simpa using hr
    obtain ⟨v, hy, hK⟩ := h
    exact wpAnyS_first1 h0 (Region.noSelect_spec hsel) hs hc hn hkn hk0 (fun listed' a' hL => seqB_ready hL.1) l.length listed a inv (Region.free_spec h0 hf) hr' hy
      (wpAnyS_lex1 hsel hs hc hn l (k + 1) _ _ (fun j hj => by have := hl (j + 1) (by simp; omega); simpa [Nat.add_assoc, Nat.add_comm 1 j] using this) (by simp only [List.length_cons] at hk; omega) (by omega) (inv.set hr' hkn) hB' hK)
/-- what the first operation behind the head comes to: a value, in a world of its own -/
def TailV (P : Program) (ops : Array Oper) (Q : Exit → Act → World → Prop) (o : Oper) (rest : List Oper) (a : Act) (W : World) : Prop :=
  ∃ v w', (execOp a.eval o).run P W = .ok (.value v) w' ∧ wpList P ops Q rest (a.put o.dst v) w'
theorem op_value {o : Oper} {a : Act} {K : Act → World → Prop} {Q : Exit → Act → World → Prop} {W w' : World} {v : Value} (h1 : (execOp a.eval o).run P W = .ok (.value v) w') (h2 : K (a.put o.dst v) w') : o.wp P a W K Q := by
  unfold Oper.wp
  rw [h1]
  exact h2
theorem wpOp_value {i : Nat} {o : Oper} {a : Act} {K : Act → World → Prop} {Q : Exit → Act → World → Prop} {W w' : World} {v : Value} (hi : ops[i]? = some o) (hw : Region.wanted o (yielded ops a.tmps) = true)
    (h1 : (execOp a.eval o).run P W = .ok (.value v) w') (h2 : K (a.put o.dst v) w') : wpOp P ops Q i K a W := by
  unfold wpOp
  simp only [hi, hw, if_true]
  left
  exact op_value h1 h2
theorem wpAny_lazy {n g : Nat} {o0 on : Oper} {rest : List Oper} {v0 : Value} {Q : Exit → Act → World → Prop} (h0 : ops[0]? = some o0) (hon : ops[n]? = some on) (hn0 : n ≠ 0)
    (hrest : ∀ j, rest[j]? = ops[n + 1 + j]?) (hg : rest.length = g) (hsel : ∀ (j : Nat) (o : Oper) cs b, ops[j]? = some o → o.op ≠ .select cs b)
    (hap : o0.apart ops on = true) (hw1 : Region.waitsFor md ops (n + 1) 0 = true) (hc : Region.chainB md ops n = true) (hsz : n + 1 < ops.size) (hwn : ∀ a : Act, Region.wanted on (yielded ops a.tmps) = true) :
    ∀ (f : Nat) (listed : Array Bool) (a : Act), HeadInv md ops n listed →
      (∀ j oj, ops[j]? = some oj → j ≠ 0 → listed.getD j true = false → (∀ e ∈ oj.after, Region.binds md e = true → e.on ≠ 0) → o0.apart ops oj = true) →
      0 ∈ Region.ready md ops listed → Region.wanted o0 (yielded ops a.tmps) = true → (∀ w, (execOp a.eval o0).run P w = .ok (.value v0) w) →
      wpAnyS P md ops S n (fun listed' a' => Region.seqB md ops (g + 1) n listed' = true ∧ ∀ W, S W → TailV P ops Q on rest a' W) f (listed.setIfInBounds 0 true) (a.put o0.dst v0) →
      ∀ W, S W → wpAny P md ops Q (f + 1 + (g + 1)) listed a W := by
  intro f
  induction f with
  | zero =>
    intro listed a inv hfree hr hw hp H W hS
    obtain ⟨hB, hT⟩ := H
    obtain ⟨v, w', hv, hl⟩ := hT W hS
    have hB' := hB
    simp only [Region.seqB, Bool.and_eq_true, decide_eq_true_eq] at hB'
    obtain ⟨hrd, hB2⟩ := hB'
    have done : wpAny P md ops Q (g + 1) (listed.setIfInBounds 0 true) (a.put o0.dst v0) W := by
      refine ⟨fun h => (by rw [hrd] at h; cases h), fun i hi => ?_⟩
      rw [hrd] at hi
      have hin : i = n := by simpa using hi
      subst hin
      refine wpOp_value hon (hwn _) hv ?_
      have := wpAny_of_seq (md := md) (Q' := Q) rest (i + 1) ((listed.setIfInBounds 0 true).setIfInBounds i true) _ w' hrest (by rw [hg]; exact hB2) hl
      rw [hg] at this
      exact this
    rw [show 0 + 1 + (g + 1) = (g + 1) + 1 by omega]
    refine ⟨fun h => (by rw [h] at hr; cases hr), fun j hj => ?_⟩
    by_cases hj0 : j = 0
    · subst hj0
      exact wpOp_value h0 hw (hp W) done
    · have hjr := ready_mono (i := 0) hj hj0
      rw [hrd] at hjr
      have hjn : j = n := by simpa using hjr
      subst hjn
      obtain ⟨a1, a2, a3⟩ := Oper.apart_spec hap
      have hv2 : (execOp a.eval on).run P W = .ok (.value v) w' := by
        rw [← execOp_put on (fun cs b => hsel j on cs b hon) a o0.dst v0 a1]; exact hv
      refine wpOp_value hon (hwn _) hv2 ?_
      refine ⟨fun h => ?_, fun i hi => ?_⟩
      · have := ready_mono (i := j) hr (Ne.symm hj0)
        rw [h] at this; cases this
      · have hi0 : i = 0 := by
          apply Classical.byContradiction
          intro hi0
          have h0un : (listed.setIfInBounds j true).getD 0 false = false := by
            rw [getD_set_ne false hj0]; exact getD_both (mem_ready.1 hr).1
          have hi' := ready_mono (i := 0) hi hi0
          rw [Array.setIfInBounds_comm _ _ hj0] at hi'
          cases g with
          | zero =>
            simp only [Region.seqB, List.isEmpty_iff] at hB2
            rw [hB2] at hi'
            cases hi'
          | succ g =>
            simp only [Region.seqB, Bool.and_eq_true, decide_eq_true_eq] at hB2
            rw [hB2.1] at hi'
            have hi1 : i = j + 1 := by simpa using hi'
            subst hi1
            obtain ⟨_, oi, hoi, hall⟩ := mem_ready.1 hi
            obtain ⟨o', ho', e, he, hb, hon'⟩ := Region.waitsFor_spec hw1
            have : o' = oi := Option.some.inj (ho'.symm.trans hoi)
            subst this
            have h2 := hall e he hb
            rw [hon', h0un] at h2
            cases h2
        subst hi0
        have hp2 : (execOp (a.put on.dst v).eval o0).run P w' = .ok (.value v0) w' := by
          rw [execOp_put o0 (fun cs b => hsel 0 o0 cs b h0) a on.dst v a3]; exact hp w'
        have hw2 : Region.wanted o0 (yielded ops (a.put on.dst v).tmps) = true := by rw [wanted_put o0 a on.dst v a3]; exact hw
        refine wpOp_value h0 hw2 hp2 ?_
        rw [Array.setIfInBounds_comm _ _ hj0, ← Act.put_comm a v0 v a2]
        have := wpAny_of_seq (md := md) (Q' := Q) rest (j + 1) ((listed.setIfInBounds 0 true).setIfInBounds j true) _ w' hrest (by rw [hg]; exact hB2) hl
        rw [hg] at this
        exact this
  | succ f ih =>
    intro listed a inv hfree hr hw hp H W hS
    rw [show f + 1 + 1 + (g + 1) = (f + 1 + (g + 1)) + 1 by omega]
    refine ⟨fun h => (by rw [h] at hr; cases hr), fun j hj => ?_⟩
    by_cases hj0 : j = 0
    · subst hj0
      refine wpOp_value h0 hw (hp W) ?_
      refine wpAny_of_S (Q := Q) (g := g + 1) (fun listed' a' hL W' hW' => ?_) (f + 1) _ _ H W hS
      obtain ⟨hB, hT⟩ := hL
      obtain ⟨v, w', hv, hl⟩ := hT W' hW'
      simp only [Region.seqB, Bool.and_eq_true, decide_eq_true_eq] at hB
      refine ⟨fun h => (by rw [hB.1] at h; cases h), fun i hi => ?_⟩
      rw [hB.1] at hi
      have hin : i = n := by simpa using hi
      subst hin
      refine wpOp_value hon (hwn _) hv ?_
      have := wpAny_of_seq (md := md) (Q' := Q) rest (i + 1) (listed'.setIfInBounds i true) _ w' hrest (by rw [hg]; exact hB.2) hl
      rw [hg] at this
      exact this
    · obtain ⟨hjn, oj, u, hoj, hsj, Hj⟩ := H.2 j (ready_mono hj hj0)
      obtain ⟨hjun, oj', hoj', hall⟩ := mem_ready.1 hj
      obtain rfl : oj' = oj := Option.some.inj (hoj'.symm.trans hoj)
      have hnot : ∀ e ∈ oj'.after, Region.binds md e = true → e.on ≠ 0 := fun e he hb heq => by
        have h1 := hall e he hb
        rw [heq, getD_both (mem_ready.1 hr).1] at h1
        cases h1
      obtain ⟨h1, h2, h3⟩ := Oper.apart_spec (hfree j oj' hoj hj0 hjun hnot)
      have k1 : Steady P ops S oj' u a := steady_same hsj (execOp_put oj' (fun cs b => hsel j oj' cs b hoj) a o0.dst v0 h1).symm (wanted_put oj' a o0.dst v0 h1).symm
      refine steady_op hoj k1 hS fun w' hS' => ?_
      refine ih (listed.setIfInBounds j true) (a.put oj'.dst u) (inv.set hj hjn) (fun k ok hk hki hun hno => ?_) (ready_mono hr (Ne.symm hj0)) (by rw [wanted_put o0 a oj'.dst u h3]; exact hw) (fun w => ?_) ?_ w' hS'
      · refine hfree k ok hk hki ?_ hno
        by_cases hjk : j = k
        · subst hjk; exact hjun
        · rw [getD_set_ne true hjk] at hun; exact hun
      · rw [execOp_put o0 (fun cs b => hsel 0 o0 cs b h0) a oj'.dst u h3]; exact hp w
      · rw [Array.setIfInBounds_comm _ _ hj0, ← Act.put_comm a v0 u h2]
        exact Hj
def lexAppB (md : Region.Mode) (ops : Array Oper) (n : Nat) : Bool :=
  Region.noSelect ops && decide (n + 1 < ops.size) && sink1B md ops n && Region.chainB md ops n && Region.waitsFor md ops (n + 1) 0 &&
    (Region.ready md ops (Array.replicate ops.size false)).contains 0 && Region.free md ops (Array.replicate ops.size false) 0 &&
    Region.lexHead md ops (ops.size - n) (n - 1) 1 ((Array.replicate ops.size false).setIfInBounds 0 true)
theorem wp_region_AP {id : Nat} {Q : Exit → Act → World → Prop} {a : Act} {w : World} {l : List Oper} (n : Nat) {o0 on : Oper} {hd rest : List Oper} {v0 : Value} (S : World → Prop) (hm : P.follows .mixedOrders = true) (hB : lexAppB .any l.toArray n = true) (hS : S w.drew)
    (hl0 : l.take n = o0 :: hd) (hln : l.drop n = on :: rest) (hap : o0.apart l.toArray on = true) (hwn : ∀ a, Region.wanted on (yielded l.toArray a) = true)
    (hw0 : Region.wanted o0 (yielded l.toArray a.tmps) = true) (hp : ∀ w, (execOp a.eval o0).run P w = .ok (.value v0) w)
    (h : wpH P l.toArray S (fun a' => ∀ W, S W → TailV P l.toArray Q on rest a' W) hd (a.put o0.dst v0)) : (Code.region id l.toArray true).wp P Q a w := by
  simp only [lexAppB, Bool.and_eq_true, decide_eq_true_eq] at hB
  obtain ⟨⟨⟨⟨⟨⟨⟨hsel, hn⟩, hs⟩, hc⟩, hw1⟩, hr0⟩, hf0⟩, hlex⟩ := hB
  have hn' : n + 1 < l.length := by simpa using hn
  have hn0 : n ≠ 0 := by
    intro h0
    subst h0
    simp at hl0
  have htl : (l.take n).length = n := by simp; omega
  have hhd : hd.length = n - 1 := by
    have := congrArg List.length hl0
    simp at this
    omega
  have h0i : l.toArray[0]? = some o0 := by
    have h0 : (l.take n)[0]? = some o0 := by rw [hl0]; rfl
    have hlt : 0 < n := by omega
    simpa [List.getElem?_take, hlt] using h0
  have hoi : l.toArray[n]? = some on := by
    have h0 : (l.drop n)[0]? = some on := by rw [hln]; rfl
    simpa [List.getElem?_drop] using h0
  have hrest : ∀ j, rest[j]? = l.toArray[n + 1 + j]? := fun j => by
    have h0 : (l.drop n)[j + 1]? = rest[j]? := by rw [hln]; rfl
    rw [← h0]
    simp [List.getElem?_drop]
    congr 1
    omega
  have hrl : rest.length = l.toArray.size - n - 1 := by
    have := congrArg List.length hln
    simp at this ⊢
    omega
  have inv0 : HeadInv .any l.toArray n (Array.replicate l.toArray.size false) :=
    ⟨by simp, fun j oj _ hl => (by rw [getD_replicate_false] at hl; cases hl), fun t _ ht => getD_in (by simpa using ht) (getD_replicate_false _ _)⟩
  have hr0' : 0 ∈ Region.ready .any l.toArray (Array.replicate l.toArray.size false) := by simpa using hr0
  have H := wpAnyS_lex1 (md := .any) (g := l.toArray.size - n) hsel hs hc (by omega) hd 1 _ _ (fun j hj => by
    have h0 : (l.take n)[j + 1]? = hd[j]? := by rw [hl0]; rfl
    rw [← h0]
    have hlt : j + 1 < n := by omega
    simp [List.getElem?_take, hlt, Nat.add_comm 1 j]) (by omega) (by omega) (inv0.set hr0' (by omega)) (by rw [hhd]; exact hlex) h
  refine wp_region_any hm ?_
  have hg1 : l.toArray.size - n = rest.length + 1 := by rw [hrl]; omega
  rw [hg1] at H
  have := wpAny_lazy (md := .any) (Q := Q) h0i hoi hn0 hrest rfl (Region.noSelect_spec hsel) hap hw1 hc hn (fun a => hwn a.tmps) hd.length _ a inv0 (Region.free_spec h0i hf0) hr0' hw0 hp H w.drew hS
  rw [hhd, show n - 1 + 1 + (rest.length + 1) = l.toArray.size by rw [hrl]; omega] at this
  exact this
end
end Go.Proofs.Ytgjegildeejghaa
/- contracts: GrowThree, the program -/
namespace Go.Proofs.Ytgjegildeejghaa
open Go.ChangeShapes Go.WideShapes Go.ChangeAt Go.RowKit Go.Joins
set_option linter.unusedVariables false
set_option linter.unusedSimpArgs false
set_option maxRecDepth 4000
theorem grow_eq (l : List (Int × Int)) (k a1 a2 : Int) (h : vx l 0 = (a1, a2)) (i : Nat) : growF l k i = (a1 + ((vx l i).1 - a1) * k, a2 + ((vx l i).2 - a2) * k) := by
  unfold growF mapF
  rw [h]
  apply Prod.ext
  · show k * (vx l i).1 + 0 * (vx l i).2 + (1 - k) * a1 = a1 + ((vx l i).1 - a1) * k
    grind
  · show 0 * (vx l i).1 + k * (vx l i).2 + (1 - k) * a2 = a2 + ((vx l i).2 - a2) * k
    grind
theorem retL_of_rw {w w' : World} {lo B k c : Nat} {A : Option Addr} {f : Nat → Int × Int} (h : Rw w' lo B A k f) (hl : w.heap.size ≤ lo) (hB : B ≤ w'.heap.size) (h1 : k ≤ c) (h2 : c ≤ maxLen) (hb : Below w.heap.size w w') :
    RetL w (firsts f k) true (.returned (.tuple #[.slice A k c, .bool true])) w' := by
  refine ⟨A, c, by rw [firsts_len], by rw [firsts_len]; exact h1, h2, hb, ?_⟩
  rw [firsts_len]
  exact rw_same (rw_more h hl hB) fun i hi => (firsts_pt f k i hi).symm
theorem row_made {w W : World} (hb : Below w.heap.size w W) (f : Nat → Int × Int) (n : Nat) (hn : n ≤ 1000) :
    Row (W.alloc (.cells (madeCells #[.int .i64 0, .int .i64 0] (n * 2)) 46)) w.heap.size (.slice (some ⟨W.heap.size, 0, none⟩) 0 n) f 0 :=
  World.ownsRow_made (base := w.heap.size) (e := 46) (size := 2) W _ n hb.size (by unfold maxLen; omega) (size_madeCells _ _)
set_option maxRecDepth 100000 in
set_option maxHeartbeats 4000000 in
theorem implGrowThree_any (A : Option Addr) (c : Nat) (l : List (Int × Int)) (k : Int) (w : World) (hn : l.length ≤ 1048576) (hR : Rd w w.heap.size A l) :
    Calls Try.prog 51 #[.slice A l.length c, .int .i64 k] w (RetL w (sel (tB l && inR 1 20 k && allB (growF l k) l.length) (firsts (growF l k) l.length)) (tB l && inR 1 20 k && allB (growF l k) l.length)) := by
  by_cases ht : tB l = true
  · obtain ⟨a1, a2, b1, b2, c1, c2, htr⟩ := tB_true ht
    have K := Lib.hid (threeOf_t A c l a1 a2 b1 b2 c1 c2 w hR htr)
    rw [ht, Bool.true_and]
    by_cases hk : inR 1 20 k = true
    · rw [hk, Bool.true_and]
      unfold inR at hk
      simp only [Bool.and_eq_true, decide_eq_true_eq] at hk
      obtain ⟨g1, g2⟩ := hk
      obtain ⟨⟨u1, u2⟩, ⟨u3, u4⟩, ⟨u5, u6⟩, ⟨u7, u8⟩, ⟨u9, u10⟩, ⟨u11, u12⟩⟩ := tri_bd htr
      have v0 : vx l 0 = (a1, a2) := by rw [htr.1]; rfl
      have v1 : vx l 1 = (b1, b2) := by rw [htr.1]; rfl
      have v2 : vx l 2 = (c1, c2) := by rw [htr.1]; rfl
      have F0 : Hid (growF l k 0 = (a1 + (a1 - a1) * k, a2 + (a2 - a2) * k)) := Lib.hid (by rw [grow_eq l k a1 a2 v0, v0])
      have F1 : Hid (growF l k 1 = (a1 + (b1 - a1) * k, a2 + (b2 - a2) * k)) := Lib.hid (by rw [grow_eq l k a1 a2 v0, v1])
      have F2 : Hid (growF l k 2 = (a1 + (c1 - a1) * k, a2 + (c2 - a2) * k)) := Lib.hid (by rw [grow_eq l k a1 a2 v0, v2])
      have l3 : l.length = 3 := by rw [htr.1]; rfl
      rw [l3] at K ⊢
      have KA := Lib.hid (fun W A c (h : Rw W w.heap.size W.heap.size A 3 (growF l k)) => (show Calls Try.prog 83 #[.slice A 3 c] W fun e w' => e = .returned (.bool (allB (growF l k) 3)) ∧ Below W.heap.size W w' from by
        have := arePegs_any A c (firsts (growF l k) 3) W (by rw [firsts_len]; omega) (rd_more (rw_rd (by rw [firsts_len]; exact rw_same h fun i hi => (firsts_pt _ _ _ hi).symm)) (Nat.le_refl _))
        rw [firsts_len] at this
        exact this))
      obtain ⟨i0, hi0, hz0, hz1, hz2⟩ := info_parts peg_info
      have HI := Lib.hid (And.intro hi0 (And.intro hz0 (And.intro hz1 hz2)))
      have hmk := fun W => run_make (P := Try.prog) W 26 46 i0 _ Try.underlying26 hi0 hz0 .i64 .i64 (0 : Int) (3 : Int) (by omega) (by omega) (by rw [hz2]; omega) (by omega)
      simp only [Int.toNat_zero, show (3 : Int).toNat = 3 from rfl, hz1] at hmk
      generalize growF l k = f at *
      have g3 : ¬ k < 1 := by omega
      have g4 : ¬ 20 < k := by omega
      clear ht htr hR v0 v1 v2 l3 hi0 hz0 hz1 hz2
      have UB := Lib.hid (show (-40 ≤ a1 ∧ a1 ≤ 40) ∧ (-40 ≤ a2 ∧ a2 ≤ 40) ∧ (-40 ≤ b1 ∧ b1 ≤ 40) ∧ (-40 ≤ b2 ∧ b2 ≤ 40) ∧ (-40 ≤ c1 ∧ c1 ≤ 40) ∧ (-40 ≤ c2 ∧ c2 ≤ 40) ∧ 1 ≤ k ∧ k ≤ 20 by omega)
      clear u1 u2 u3 u4 u5 u6 u7 u8 u9 u10 u11 u12
      go_enter Try.func51, Try.ntmps51
      go_wp2_with fail
      refine K.out.mono ?_; rintro e w1 ⟨rfl, hb1⟩
      go_wp2_with fail
      obtain ⟨W0, hW0⟩ : ∃ W0, W0 = (w1.alloc (.cells #[.int .i64 a1, .int .i64 a2, .int .i64 b1, .int .i64 b2, .int .i64 c1, .int .i64 c2] 67)) := ⟨_, rfl⟩
      rw [← hW0]
      have yW00_0 : W0.cell? ⟨w1.heap.size, 0, none⟩ = some (.int .i64 a1) := by rw [hW0]; go_simp
      have yW00_1 : W0.cell? ⟨w1.heap.size, 1, none⟩ = some (.int .i64 a2) := by rw [hW0]; go_simp
      have yW00_2 : W0.cell? ⟨w1.heap.size, 2, none⟩ = some (.int .i64 b1) := by rw [hW0]; go_simp
      have yW00_3 : W0.cell? ⟨w1.heap.size, 3, none⟩ = some (.int .i64 b2) := by rw [hW0]; go_simp
      have yW00_4 : W0.cell? ⟨w1.heap.size, 4, none⟩ = some (.int .i64 c1) := by rw [hW0]; go_simp
      have yW00_5 : W0.cell? ⟨w1.heap.size, 5, none⟩ = some (.int .i64 c2) := by rw [hW0]; go_simp
      have fW00 : ∀ o, W0.frozen? ⟨w1.heap.size, o, none⟩ = false := by intro o; rw [hW0]; (repeat rw [frozen?_alloc_cells]); simp [World.frozen?]
      have zW00 : w1.heap.size < W0.heap.size := by rw [hW0]; simp <;> omega
      have BW0 : Below w1.heap.size w1 W0 := by rw [hW0]; exact (Below.alloc (Below.refl _ _) (by simp <;> omega) _)
      have eW0 : Hid (W0.heap.size = w1.heap.size + 1) := Lib.hid (by rw [hW0]; simp)
      clear hW0
      have HR0 : Hid (Row (W0.alloc (.cells (madeCells #[.int .i64 0, .int .i64 0] 6) 46)) W0.heap.size (.slice (some ⟨w1.heap.size + 1, 0, none⟩) 0 3) f 0) := Lib.hid (by
        rw [show w1.heap.size + 1 = W0.heap.size from eW0.out.symm]
        exact row_made (w := W0) (W := W0) (Below.refl _ _) f 3 (by omega))
      have hB0 := Below.alloc (Below.refl W0.heap.size W0) (Nat.le_refl _) (.cells (madeCells #[.int .i64 0, .int .i64 0] (3 * 2)) 46)
      have r0 := ((bcell hB0).1 _ _ zW00).trans yW00_0
      have r1 := ((bcell hB0).1 _ _ zW00).trans yW00_1
      have zo : w1.heap.size < (W0.alloc (.cells (madeCells #[.int .i64 0, .int .i64 0] (3 * 2)) 46)).heap.size := by simp; omega
      clear hmk yW00_2 yW00_3 yW00_4 yW00_5 fW00
      go_loopg [8, 28] 3 (fun g s i wr => ∃ (j : Nat) (v : Value), s = v ∧ j ≤ 3 ∧ g = 3 - j ∧ i = .int .i64 j ∧ Below W0.heap.size W0 wr ∧ w1.heap.size < wr.heap.size ∧ wr.cell? ⟨w1.heap.size, 0, none⟩ = some (.int .i64 a1) ∧ wr.cell? ⟨w1.heap.size, 1, none⟩ = some (.int .i64 a2) ∧ Hid (Row wr W0.heap.size v f j))
      case atStart => exact ⟨0, _, rfl, by omega, rfl, rfl, hB0, zo, r0, r1, HR0⟩
      case round =>
        clear hB0 zo r0 r1 HR0
        obtain ⟨j, v, rfl, hj, hg, rfl, hBl, zo, r0, r1, hr⟩ := hrel
        rename World => wo
        rcases (show j = 0 ∨ j = 1 ∨ j = 2 ∨ j = 3 by omega) with rfl | rfl | rfl | rfl
        · skip
          have FK := F0
          have IX := index3_0 a1 a2 b1 b2 c1 c2
          obtain ⟨⟨u1, u2⟩, ⟨u3, u4⟩, ⟨u5, u6⟩, ⟨u7, u8⟩, ⟨u9, u10⟩, ⟨u11, u12⟩, g1, g2⟩ := UB.out
          have KM := Lib.hid (fun W => minus_any a1 a2 a1 a2 W (by unfold Mid; omega) (by unfold Mid; omega) (by unfold Mid; omega) (by unfold Mid; omega))
          have m1 := mul_bd (x := a1 - a1) (y := k) (m := 80) (n := 20) (by omega) (by omega) (by omega) (by omega)
          have m2 := mul_bd (x := a2 - a2) (y := k) (m := 80) (n := 20) (by omega) (by omega) (by omega) (by omega)
          have KT := Lib.hid (fun W => times_any (a1 - a1) (a2 - a2) k W (by omega) (by omega))
          have KP := Lib.hid (fun W => plus_any a1 a2 ((a1 - a1) * k) ((a2 - a2) * k) W (by unfold Mid; omega) (by unfold Mid; omega) (by unfold Mid; omega) (by unfold Mid; omega))
          clear m1 m2 u1 u2 u3 u4 u5 u6 u7 u8 u9 u10 u11 u12 g1 g2
          generalize a1 + (a1 - a1) * k = q1 at *
          generalize a2 + (a2 - a2) * k = q2 at *
          generalize (a1 - a1) * k = t1 at *
          generalize (a2 - a2) * k = t2 at *
          generalize a1 - a1 = d1 at *
          generalize a2 - a2 = d2 at *
          go_wp2_with fail
          clear IX
          obtain ⟨W1, hW1⟩ : ∃ W1, W1 = (wo.alloc (.cells #[.int .i64 a1, .int .i64 a2] 46)) := ⟨_, rfl⟩
          rw [← hW1]
          have yW10_0 : W1.cell? ⟨wo.heap.size, 0, none⟩ = some (.int .i64 a1) := by rw [hW1]; go_simp
          have yW10_1 : W1.cell? ⟨wo.heap.size, 1, none⟩ = some (.int .i64 a2) := by rw [hW1]; go_simp
          have fW10 : ∀ o, W1.frozen? ⟨wo.heap.size, o, none⟩ = false := by intro o; rw [hW1]; (repeat rw [frozen?_alloc_cells]); simp [World.frozen?]
          have zW10 : wo.heap.size < W1.heap.size := by rw [hW1]; simp <;> omega
          have BW1 : Below wo.heap.size wo W1 := by rw [hW1]; exact (Below.alloc (Below.refl _ _) (by simp <;> omega) _)
          have eW1 : Hid (W1.heap.size = wo.heap.size + 1) := Lib.hid (by rw [hW1]; simp)
          clear hW1
          have s0 := ((bcell BW1).1 _ _ zo).trans r0
          have s1 := ((bcell BW1).1 _ _ zo).trans r1
          have zp : w1.heap.size < W1.heap.size := by have := BW1.size; omega
          go_wp2_with fail
          refine wp_region_AP 10 (fun W => Below (W1).heap.size (W1) W) (by kernel_rfl) (by kernel_rfl) (by repeat (first | exact Below.refl _ _ | apply Below.drew)) rfl rfl (by kernel_rfl) (fun _ => by rfl) (by rfl) (fun _ => by rfl) ?_
          (try simp only [Act.put, List.setIfInBounds_toArray, List.set_cons_zero, List.set_cons_succ])
          first | refine wpH_skip (by rfl) ?_ | (refine wpH_text (v := ?_) (by rfl) (fun W k1 => ?_) ?_; rotate_left; (obtain ⟨hc1, hf1⟩ := bcell k1;  go_simp; refine comes_v ?_; exact k1))
          (try simp only [Act.put, List.setIfInBounds_toArray, List.set_cons_zero, List.set_cons_succ])
          first | refine wpH_skip (by rfl) ?_ | (refine wpH_text (v := ?_) (by rfl) (fun W k1 => ?_) ?_; rotate_left; (obtain ⟨hc1, hf1⟩ := bcell k1;  go_simp; refine comes_v ?_; exact k1))
          (try simp only [Act.put, List.setIfInBounds_toArray, List.set_cons_zero, List.set_cons_succ])
          first | refine wpH_skip (by rfl) ?_ | (refine wpH_text (v := ?_) (by rfl) (fun W k1 => ?_) ?_; rotate_left; (obtain ⟨hc1, hf1⟩ := bcell k1;  go_simp; refine comes_v ?_; exact k1))
          (try simp only [Act.put, List.setIfInBounds_toArray, List.set_cons_zero, List.set_cons_succ])
          first | refine wpH_skip (by rfl) ?_ | (refine wpH_text (v := ?_) (by rfl) (fun W k1 => ?_) ?_; rotate_left; (obtain ⟨hc1, hf1⟩ := bcell k1;  go_simp; refine comes_v ?_; exact k1))
          (try simp only [Act.put, List.setIfInBounds_toArray, List.set_cons_zero, List.set_cons_succ])
          first | refine wpH_skip (by rfl) ?_ | (refine wpH_text (v := ?_) (by rfl) (fun W k1 => ?_) ?_; rotate_left; (obtain ⟨hc1, hf1⟩ := bcell k1;  go_simp; refine comes_v ?_; exact k1))
          (try simp only [Act.put, List.setIfInBounds_toArray, List.set_cons_zero, List.set_cons_succ])
          first | refine wpH_skip (by rfl) ?_ | (refine wpH_text (v := .agg #[.int .i64 d1, .int .i64 d2]) (by rfl) (fun W k1 => ?_) ?_; (obtain ⟨hc1, hf1⟩ := bcell k1;  go_simp; exact comes_c ( KM.out _) (fun wn hbn => k1.trans (hbn.mono k1.size))))
          (try simp only [Act.put, List.setIfInBounds_toArray, List.set_cons_zero, List.set_cons_succ])
          first | refine wpH_skip (by rfl) ?_ | (refine wpH_text (v := ?_) (by rfl) (fun W k1 => ?_) ?_; rotate_left; (obtain ⟨hc1, hf1⟩ := bcell k1;  go_simp; refine comes_v ?_; exact k1))
          (try simp only [Act.put, List.setIfInBounds_toArray, List.set_cons_zero, List.set_cons_succ])
          first | refine wpH_skip (by rfl) ?_ | (refine wpH_text (v := .agg #[.int .i64 t1, .int .i64 t2]) (by rfl) (fun W k1 => ?_) ?_; (obtain ⟨hc1, hf1⟩ := bcell k1;  go_simp; exact comes_c ( KT.out _) (fun wn hbn => k1.trans (hbn.mono k1.size))))
          (try simp only [Act.put, List.setIfInBounds_toArray, List.set_cons_zero, List.set_cons_succ])
          first | refine wpH_skip (by rfl) ?_ | (refine wpH_text (v := .agg #[.int .i64 q1, .int .i64 q2]) (by rfl) (fun W k1 => ?_) ?_; (obtain ⟨hc1, hf1⟩ := bcell k1;  go_simp; exact comes_c ( KP.out _) (fun wn hbn => k1.trans (hbn.mono k1.size))))
          (try simp only [Act.put, List.setIfInBounds_toArray, List.set_cons_zero, List.set_cons_succ])
          refine wpH_nil ?_
          intro W k1; obtain ⟨hc1, hf1⟩ := bcell k1
          refine ⟨.slice (some ⟨W.heap.size, 0, none⟩) 1 1, W.alloc (.cells #[.int .i64 q1, .int .i64 q2] 46), (by go_simp), ?_⟩
          (try simp only [Act.put, List.setIfInBounds_toArray, List.set_cons_zero, List.set_cons_succ])
          have B1 := hBl.trans ((BW1.mono hBl.size).trans (k1.mono (by have := BW1.size; have := hBl.size; omega)))
          have R1 := row_below (row_below hr.out BW1 (Nat.le_refl _)) k1 (Nat.le_refl _)
          have RA := Lib.hid (row_alloc R1 (.cells #[.int .i64 q1, .int .i64 q2] 46))
          have BA := Lib.hid (Below.alloc B1 B1.size (.cells #[.int .i64 q1, .int .i64 q2] 46))
          have hz1 := B1.size
          clear R1 B1 hc1 hf1 s0 s1 hr yW10_0 yW10_1 fW10 r0 r1
          go_wp2_with (at_builtin; refine wpList_append_own _ rfl (.tmp 31) (.tmp 41) 26 rfl W0.heap.size 46 i0 (.agg #[.int .i64 0, .int .i64 0]) 2 16 Try.underlying26 HI.out.1 HI.out.2.1 HI.out.2.2.1 HI.out.2.2.2 rfl (by decide) _ 0 (flat (firsts f 0)) rfl RA.out ⟨W.heap.size, 0, none⟩ 1 1 [.int .i64 q1, .int .i64 q2] rfl rfl (two_cells (by go_simp) (by go_simp)) (two_one _ _) (by unfold maxLen; omega) (by omega) (by simp; omega) ?_)
          intro v' w4 hown hgr _
          have RB := row_push (f := f) (k := 0) BA.out RA.out (by rw [FK.out]; exact hown) hgr
          have R3 := Lib.hid RB.1
          have B3 := RB.2
          clear RB hown hgr BA RA
          have zq : w1.heap.size < w4.heap.size := by have := B3.size; omega
          have r0 := ((bcell B3).1 _ _ zW00).trans yW00_0
          have r1 := ((bcell B3).1 _ _ zW00).trans yW00_1
          go_wp2_with fail
          go_roundg (3 - (0 + 1))
          case measure => omega
          case rel => exact ⟨0 + 1, _, rfl, by omega, rfl, by go_num, B3, zq, r0, r1, R3⟩
        · skip
          have FK := F1
          have IX := index3_1 a1 a2 b1 b2 c1 c2
          obtain ⟨⟨u1, u2⟩, ⟨u3, u4⟩, ⟨u5, u6⟩, ⟨u7, u8⟩, ⟨u9, u10⟩, ⟨u11, u12⟩, g1, g2⟩ := UB.out
          have KM := Lib.hid (fun W => minus_any b1 b2 a1 a2 W (by unfold Mid; omega) (by unfold Mid; omega) (by unfold Mid; omega) (by unfold Mid; omega))
          have m1 := mul_bd (x := b1 - a1) (y := k) (m := 80) (n := 20) (by omega) (by omega) (by omega) (by omega)
          have m2 := mul_bd (x := b2 - a2) (y := k) (m := 80) (n := 20) (by omega) (by omega) (by omega) (by omega)
          have KT := Lib.hid (fun W => times_any (b1 - a1) (b2 - a2) k W (by omega) (by omega))
          have KP := Lib.hid (fun W => plus_any a1 a2 ((b1 - a1) * k) ((b2 - a2) * k) W (by unfold Mid; omega) (by unfold Mid; omega) (by unfold Mid; omega) (by unfold Mid; omega))
          clear m1 m2 u1 u2 u3 u4 u5 u6 u7 u8 u9 u10 u11 u12 g1 g2
          generalize a1 + (b1 - a1) * k = q1 at *
          generalize a2 + (b2 - a2) * k = q2 at *
          generalize (b1 - a1) * k = t1 at *
          generalize (b2 - a2) * k = t2 at *
          generalize b1 - a1 = d1 at *
          generalize b2 - a2 = d2 at *
          go_wp2_with fail
          clear IX
          obtain ⟨W1, hW1⟩ : ∃ W1, W1 = (wo.alloc (.cells #[.int .i64 b1, .int .i64 b2] 46)) := ⟨_, rfl⟩
          rw [← hW1]
          have yW10_0 : W1.cell? ⟨wo.heap.size, 0, none⟩ = some (.int .i64 b1) := by rw [hW1]; go_simp
          have yW10_1 : W1.cell? ⟨wo.heap.size, 1, none⟩ = some (.int .i64 b2) := by rw [hW1]; go_simp
          have fW10 : ∀ o, W1.frozen? ⟨wo.heap.size, o, none⟩ = false := by intro o; rw [hW1]; (repeat rw [frozen?_alloc_cells]); simp [World.frozen?]
          have zW10 : wo.heap.size < W1.heap.size := by rw [hW1]; simp <;> omega
          have BW1 : Below wo.heap.size wo W1 := by rw [hW1]; exact (Below.alloc (Below.refl _ _) (by simp <;> omega) _)
          have eW1 : Hid (W1.heap.size = wo.heap.size + 1) := Lib.hid (by rw [hW1]; simp)
          clear hW1
          have s0 := ((bcell BW1).1 _ _ zo).trans r0
          have s1 := ((bcell BW1).1 _ _ zo).trans r1
          have zp : w1.heap.size < W1.heap.size := by have := BW1.size; omega
          go_wp2_with fail
          refine wp_region_AP 10 (fun W => Below (W1).heap.size (W1) W) (by kernel_rfl) (by kernel_rfl) (by repeat (first | exact Below.refl _ _ | apply Below.drew)) rfl rfl (by kernel_rfl) (fun _ => by rfl) (by rfl) (fun _ => by rfl) ?_
          (try simp only [Act.put, List.setIfInBounds_toArray, List.set_cons_zero, List.set_cons_succ])
          first | refine wpH_skip (by rfl) ?_ | (refine wpH_text (v := ?_) (by rfl) (fun W k1 => ?_) ?_; rotate_left; (obtain ⟨hc1, hf1⟩ := bcell k1;  go_simp; refine comes_v ?_; exact k1))
          (try simp only [Act.put, List.setIfInBounds_toArray, List.set_cons_zero, List.set_cons_succ])
          first | refine wpH_skip (by rfl) ?_ | (refine wpH_text (v := ?_) (by rfl) (fun W k1 => ?_) ?_; rotate_left; (obtain ⟨hc1, hf1⟩ := bcell k1;  go_simp; refine comes_v ?_; exact k1))
          (try simp only [Act.put, List.setIfInBounds_toArray, List.set_cons_zero, List.set_cons_succ])
          first | refine wpH_skip (by rfl) ?_ | (refine wpH_text (v := ?_) (by rfl) (fun W k1 => ?_) ?_; rotate_left; (obtain ⟨hc1, hf1⟩ := bcell k1;  go_simp; refine comes_v ?_; exact k1))
          (try simp only [Act.put, List.setIfInBounds_toArray, List.set_cons_zero, List.set_cons_succ])
          first | refine wpH_skip (by rfl) ?_ | (refine wpH_text (v := ?_) (by rfl) (fun W k1 => ?_) ?_; rotate_left; (obtain ⟨hc1, hf1⟩ := bcell k1;  go_simp; refine comes_v ?_; exact k1))
          (try simp only [Act.put, List.setIfInBounds_toArray, List.set_cons_zero, List.set_cons_succ])
          first | refine wpH_skip (by rfl) ?_ | (refine wpH_text (v := ?_) (by rfl) (fun W k1 => ?_) ?_; rotate_left; (obtain ⟨hc1, hf1⟩ := bcell k1;  go_simp; refine comes_v ?_; exact k1))
          (try simp only [Act.put, List.setIfInBounds_toArray, List.set_cons_zero, List.set_cons_succ])
          first | refine wpH_skip (by rfl) ?_ | (refine wpH_text (v := .agg #[.int .i64 d1, .int .i64 d2]) (by rfl) (fun W k1 => ?_) ?_; (obtain ⟨hc1, hf1⟩ := bcell k1;  go_simp; exact comes_c ( KM.out _) (fun wn hbn => k1.trans (hbn.mono k1.size))))
          (try simp only [Act.put, List.setIfInBounds_toArray, List.set_cons_zero, List.set_cons_succ])
          first | refine wpH_skip (by rfl) ?_ | (refine wpH_text (v := ?_) (by rfl) (fun W k1 => ?_) ?_; rotate_left; (obtain ⟨hc1, hf1⟩ := bcell k1;  go_simp; refine comes_v ?_; exact k1))
          (try simp only [Act.put, List.setIfInBounds_toArray, List.set_cons_zero, List.set_cons_succ])
          first | refine wpH_skip (by rfl) ?_ | (refine wpH_text (v := .agg #[.int .i64 t1, .int .i64 t2]) (by rfl) (fun W k1 => ?_) ?_; (obtain ⟨hc1, hf1⟩ := bcell k1;  go_simp; exact comes_c ( KT.out _) (fun wn hbn => k1.trans (hbn.mono k1.size))))
          (try simp only [Act.put, List.setIfInBounds_toArray, List.set_cons_zero, List.set_cons_succ])
          first | refine wpH_skip (by rfl) ?_ | (refine wpH_text (v := .agg #[.int .i64 q1, .int .i64 q2]) (by rfl) (fun W k1 => ?_) ?_; (obtain ⟨hc1, hf1⟩ := bcell k1;  go_simp; exact comes_c ( KP.out _) (fun wn hbn => k1.trans (hbn.mono k1.size))))
          (try simp only [Act.put, List.setIfInBounds_toArray, List.set_cons_zero, List.set_cons_succ])
          refine wpH_nil ?_
          intro W k1; obtain ⟨hc1, hf1⟩ := bcell k1
          refine ⟨.slice (some ⟨W.heap.size, 0, none⟩) 1 1, W.alloc (.cells #[.int .i64 q1, .int .i64 q2] 46), (by go_simp), ?_⟩
          (try simp only [Act.put, List.setIfInBounds_toArray, List.set_cons_zero, List.set_cons_succ])
          have B1 := hBl.trans ((BW1.mono hBl.size).trans (k1.mono (by have := BW1.size; have := hBl.size; omega)))
          have R1 := row_below (row_below hr.out BW1 (Nat.le_refl _)) k1 (Nat.le_refl _)
          have RA := Lib.hid (row_alloc R1 (.cells #[.int .i64 q1, .int .i64 q2] 46))
          have BA := Lib.hid (Below.alloc B1 B1.size (.cells #[.int .i64 q1, .int .i64 q2] 46))
          have hz1 := B1.size
          clear R1 B1 hc1 hf1 s0 s1 hr yW10_0 yW10_1 fW10 r0 r1
          go_wp2_with (at_builtin; refine wpList_append_own _ rfl (.tmp 31) (.tmp 41) 26 rfl W0.heap.size 46 i0 (.agg #[.int .i64 0, .int .i64 0]) 2 16 Try.underlying26 HI.out.1 HI.out.2.1 HI.out.2.2.1 HI.out.2.2.2 rfl (by decide) _ 1 (flat (firsts f 1)) rfl RA.out ⟨W.heap.size, 0, none⟩ 1 1 [.int .i64 q1, .int .i64 q2] rfl rfl (two_cells (by go_simp) (by go_simp)) (two_one _ _) (by unfold maxLen; omega) (by omega) (by simp; omega) ?_)
          intro v' w4 hown hgr _
          have RB := row_push (f := f) (k := 1) BA.out RA.out (by rw [FK.out]; exact hown) hgr
          have R3 := Lib.hid RB.1
          have B3 := RB.2
          clear RB hown hgr BA RA
          have zq : w1.heap.size < w4.heap.size := by have := B3.size; omega
          have r0 := ((bcell B3).1 _ _ zW00).trans yW00_0
          have r1 := ((bcell B3).1 _ _ zW00).trans yW00_1
          go_wp2_with fail
          go_roundg (3 - (1 + 1))
          case measure => omega
          case rel => exact ⟨1 + 1, _, rfl, by omega, rfl, by go_num, B3, zq, r0, r1, R3⟩
        · skip
          have FK := F2
          have IX := index3_2 a1 a2 b1 b2 c1 c2
          obtain ⟨⟨u1, u2⟩, ⟨u3, u4⟩, ⟨u5, u6⟩, ⟨u7, u8⟩, ⟨u9, u10⟩, ⟨u11, u12⟩, g1, g2⟩ := UB.out
          have KM := Lib.hid (fun W => minus_any c1 c2 a1 a2 W (by unfold Mid; omega) (by unfold Mid; omega) (by unfold Mid; omega) (by unfold Mid; omega))
          have m1 := mul_bd (x := c1 - a1) (y := k) (m := 80) (n := 20) (by omega) (by omega) (by omega) (by omega)
          have m2 := mul_bd (x := c2 - a2) (y := k) (m := 80) (n := 20) (by omega) (by omega) (by omega) (by omega)
          have KT := Lib.hid (fun W => times_any (c1 - a1) (c2 - a2) k W (by omega) (by omega))
          have KP := Lib.hid (fun W => plus_any a1 a2 ((c1 - a1) * k) ((c2 - a2) * k) W (by unfold Mid; omega) (by unfold Mid; omega) (by unfold Mid; omega) (by unfold Mid; omega))
          clear m1 m2 u1 u2 u3 u4 u5 u6 u7 u8 u9 u10 u11 u12 g1 g2
          generalize a1 + (c1 - a1) * k = q1 at *
          generalize a2 + (c2 - a2) * k = q2 at *
          generalize (c1 - a1) * k = t1 at *
          generalize (c2 - a2) * k = t2 at *
          generalize c1 - a1 = d1 at *
          generalize c2 - a2 = d2 at *
          go_wp2_with fail
          clear IX
          obtain ⟨W1, hW1⟩ : ∃ W1, W1 = (wo.alloc (.cells #[.int .i64 c1, .int .i64 c2] 46)) := ⟨_, rfl⟩
          rw [← hW1]
          have yW10_0 : W1.cell? ⟨wo.heap.size, 0, none⟩ = some (.int .i64 c1) := by rw [hW1]; go_simp
          have yW10_1 : W1.cell? ⟨wo.heap.size, 1, none⟩ = some (.int .i64 c2) := by rw [hW1]; go_simp
          have fW10 : ∀ o, W1.frozen? ⟨wo.heap.size, o, none⟩ = false := by intro o; rw [hW1]; (repeat rw [frozen?_alloc_cells]); simp [World.frozen?]
          have zW10 : wo.heap.size < W1.heap.size := by rw [hW1]; simp <;> omega
          have BW1 : Below wo.heap.size wo W1 := by rw [hW1]; exact (Below.alloc (Below.refl _ _) (by simp <;> omega) _)
          have eW1 : Hid (W1.heap.size = wo.heap.size + 1) := Lib.hid (by rw [hW1]; simp)
          clear hW1
          have s0 := ((bcell BW1).1 _ _ zo).trans r0
          have s1 := ((bcell BW1).1 _ _ zo).trans r1
          have zp : w1.heap.size < W1.heap.size := by have := BW1.size; omega
          go_wp2_with fail
          refine wp_region_AP 10 (fun W => Below (W1).heap.size (W1) W) (by kernel_rfl) (by kernel_rfl) (by repeat (first | exact Below.refl _ _ | apply Below.drew)) rfl rfl (by kernel_rfl) (fun _ => by rfl) (by rfl) (fun _ => by rfl) ?_
          (try simp only [Act.put, List.setIfInBounds_toArray, List.set_cons_zero, List.set_cons_succ])
          first | refine wpH_skip (by rfl) ?_ | (refine wpH_text (v := ?_) (by rfl) (fun W k1 => ?_) ?_; rotate_left; (obtain ⟨hc1, hf1⟩ := bcell k1;  go_simp; refine comes_v ?_; exact k1))
          (try simp only [Act.put, List.setIfInBounds_toArray, List.set_cons_zero, List.set_cons_succ])
          first | refine wpH_skip (by rfl) ?_ | (refine wpH_text (v := ?_) (by rfl) (fun W k1 => ?_) ?_; rotate_left; (obtain ⟨hc1, hf1⟩ := bcell k1;  go_simp; refine comes_v ?_; exact k1))
          (try simp only [Act.put, List.setIfInBounds_toArray, List.set_cons_zero, List.set_cons_succ])
          first | refine wpH_skip (by rfl) ?_ | (refine wpH_text (v := ?_) (by rfl) (fun W k1 => ?_) ?_; rotate_left; (obtain ⟨hc1, hf1⟩ := bcell k1;  go_simp; refine comes_v ?_; exact k1))
          (try simp only [Act.put, List.setIfInBounds_toArray, List.set_cons_zero, List.set_cons_succ])
          first | refine wpH_skip (by rfl) ?_ | (refine wpH_text (v := ?_) (by rfl) (fun W k1 => ?_) ?_; rotate_left; (obtain ⟨hc1, hf1⟩ := bcell k1;  go_simp; refine comes_v ?_; exact k1))
          (try simp only [Act.put, List.setIfInBounds_toArray, List.set_cons_zero, List.set_cons_succ])
          first | refine wpH_skip (by rfl) ?_ | (refine wpH_text (v := ?_) (by rfl) (fun W k1 => ?_) ?_; rotate_left; (obtain ⟨hc1, hf1⟩ := bcell k1;  go_simp; refine comes_v ?_; exact k1))
          (try simp only [Act.put, List.setIfInBounds_toArray, List.set_cons_zero, List.set_cons_succ])
          first | refine wpH_skip (by rfl) ?_ | (refine wpH_text (v := .agg #[.int .i64 d1, .int .i64 d2]) (by rfl) (fun W k1 => ?_) ?_; (obtain ⟨hc1, hf1⟩ := bcell k1;  go_simp; exact comes_c ( KM.out _) (fun wn hbn => k1.trans (hbn.mono k1.size))))
          (try simp only [Act.put, List.setIfInBounds_toArray, List.set_cons_zero, List.set_cons_succ])
          first | refine wpH_skip (by rfl) ?_ | (refine wpH_text (v := ?_) (by rfl) (fun W k1 => ?_) ?_; rotate_left; (obtain ⟨hc1, hf1⟩ := bcell k1;  go_simp; refine comes_v ?_; exact k1))
          (try simp only [Act.put, List.setIfInBounds_toArray, List.set_cons_zero, List.set_cons_succ])
          first | refine wpH_skip (by rfl) ?_ | (refine wpH_text (v := .agg #[.int .i64 t1, .int .i64 t2]) (by rfl) (fun W k1 => ?_) ?_; (obtain ⟨hc1, hf1⟩ := bcell k1;  go_simp; exact comes_c ( KT.out _) (fun wn hbn => k1.trans (hbn.mono k1.size))))
          (try simp only [Act.put, List.setIfInBounds_toArray, List.set_cons_zero, List.set_cons_succ])
          first | refine wpH_skip (by rfl) ?_ | (refine wpH_text (v := .agg #[.int .i64 q1, .int .i64 q2]) (by rfl) (fun W k1 => ?_) ?_; (obtain ⟨hc1, hf1⟩ := bcell k1;  go_simp; exact comes_c ( KP.out _) (fun wn hbn => k1.trans (hbn.mono k1.size))))
          (try simp only [Act.put, List.setIfInBounds_toArray, List.set_cons_zero, List.set_cons_succ])
          refine wpH_nil ?_
          intro W k1; obtain ⟨hc1, hf1⟩ := bcell k1
          refine ⟨.slice (some ⟨W.heap.size, 0, none⟩) 1 1, W.alloc (.cells #[.int .i64 q1, .int .i64 q2] 46), (by go_simp), ?_⟩
          (try simp only [Act.put, List.setIfInBounds_toArray, List.set_cons_zero, List.set_cons_succ])
          have B1 := hBl.trans ((BW1.mono hBl.size).trans (k1.mono (by have := BW1.size; have := hBl.size; omega)))
          have R1 := row_below (row_below hr.out BW1 (Nat.le_refl _)) k1 (Nat.le_refl _)
          have RA := Lib.hid (row_alloc R1 (.cells #[.int .i64 q1, .int .i64 q2] 46))
          have BA := Lib.hid (Below.alloc B1 B1.size (.cells #[.int .i64 q1, .int .i64 q2] 46))
          have hz1 := B1.size
          clear R1 B1 hc1 hf1 s0 s1 hr yW10_0 yW10_1 fW10 r0 r1
          go_wp2_with (at_builtin; refine wpList_append_own _ rfl (.tmp 31) (.tmp 41) 26 rfl W0.heap.size 46 i0 (.agg #[.int .i64 0, .int .i64 0]) 2 16 Try.underlying26 HI.out.1 HI.out.2.1 HI.out.2.2.1 HI.out.2.2.2 rfl (by decide) _ 2 (flat (firsts f 2)) rfl RA.out ⟨W.heap.size, 0, none⟩ 1 1 [.int .i64 q1, .int .i64 q2] rfl rfl (two_cells (by go_simp) (by go_simp)) (two_one _ _) (by unfold maxLen; omega) (by omega) (by simp; omega) ?_)
          intro v' w4 hown hgr _
          have RB := row_push (f := f) (k := 2) BA.out RA.out (by rw [FK.out]; exact hown) hgr
          have R3 := Lib.hid RB.1
          have B3 := RB.2
          clear RB hown hgr BA RA
          have zq : w1.heap.size < w4.heap.size := by have := B3.size; omega
          have r0 := ((bcell B3).1 _ _ zW00).trans yW00_0
          have r1 := ((bcell B3).1 _ _ zW00).trans yW00_1
          go_wp2_with fail
          go_roundg (3 - (2 + 1))
          case measure => omega
          case rel => exact ⟨2 + 1, _, rfl, by omega, rfl, by go_num, B3, zq, r0, r1, R3⟩
        · skip
          obtain ⟨A3, c3, hv, h1, h2, hrw⟩ := row_out hr.out
          subst hv
          have hzB := hBl.size
          have B1 := hb1.trans ((BW0.trans (hBl.mono BW0.size)).mono hb1.size)
          have hw1 := B1.size
          have RW := Lib.hid (rw_more (lo' := w.heap.size) hrw (by have := BW0.size; have := hb1.size; omega) (Nat.le_refl _))
          have KB := Lib.hid (KA.out wo A3 c3 RW.out)
          clear hrw hr r0 r1 yW00_0 yW00_1
          cases hab : allB f 3
          · rw [hab] at KB
            have HAB := Lib.hid hab
            clear hab
            go_wp2_with fail
            refine KB.out.mono ?_; rintro e w5 ⟨rfl, hb5⟩
            have B2 := B1.trans (hb5.mono hw1)
            go_wp2_with fail
            go_ret2
            rw [HAB.out]
            exact retL_nil B2
          · rw [hab] at KB
            have HAB := Lib.hid hab
            clear hab
            go_wp2_with fail
            refine KB.out.mono ?_; rintro e w5 ⟨rfl, hb5⟩
            have B2 := B1.trans (hb5.mono hw1)
            have RW2 := Lib.hid (rw_below RW.out hb5 (Nat.le_refl _))
            have hz5 := hb5.size
            go_wp2_with fail
            go_ret2
            rw [HAB.out]
            exact retL_of_rw RW2.out (Nat.le_refl _) hz5 h1 h2 B2
    · have hkf : inR 1 20 k = false := by simpa using hk
      rw [hkf, Bool.false_and]
      unfold inR at hkf
      simp at hkf
      clear ht htr hR hk
      by_cases k3 : k < 1
      · go_enter Try.func51, Try.ntmps51
        go_wp2_with fail
        refine K.out.mono ?_; rintro e w1 ⟨rfl, hb1⟩
        have BA := Below.alloc hb1 hb1.size (.cells #[.int .i64 a1, .int .i64 a2, .int .i64 b1, .int .i64 b2, .int .i64 c1, .int .i64 c2] 67)
        go_wp2_with fail
        go_ret2
        exact retL_nil BA
      · have k4 : 20 < k := by omega
        clear hkf
        go_enter Try.func51, Try.ntmps51
        go_wp2_with fail
        refine K.out.mono ?_; rintro e w1 ⟨rfl, hb1⟩
        have BA := Below.alloc hb1 hb1.size (.cells #[.int .i64 a1, .int .i64 a2, .int .i64 b1, .int .i64 b2, .int .i64 c1, .int .i64 c2] 67)
        go_wp2_with fail
        go_ret2
        exact retL_nil BA
  · have K := Lib.hid (threeOf_f A c l w hn hR ht)
    have htf : tB l = false := by simpa using ht
    rw [htf, Bool.false_and, Bool.false_and]
    clear ht htf hR
    go_enter Try.func51, Try.ntmps51
    go_wp2_with fail
    refine K.out.mono ?_; rintro e w1 ⟨rfl, hb1⟩
    have BA := Below.alloc hb1 hb1.size (.cells #[.int .i64 0, .int .i64 0, .int .i64 0, .int .i64 0, .int .i64 0, .int .i64 0] 67)
    go_wp2_with fail
    go_ret2
    exact retL_nil BA
end Go.Proofs.Ytgjegildeejghaa
/- contracts: points that are marked, marks that are held -/
namespace Go.Proofs.Ytgjegildeejghaa
open Go.ChangeShapes Go.WideShapes Go.ChangeAt Go.RowKit Go.Joins
set_option linter.unusedVariables false
set_option linter.unusedSimpArgs false
set_option maxRecDepth 4000
/-- what marks write: number after number -/
def mk (k : Int) (i : Nat) : Int × Int := (k + 2 * (i : Int), k + 2 * (i : Int) + 1)
def mix (k : Int) (i : Nat) (f : Nat → Int × Int) (j : Nat) : Int × Int := if j < i then mk k j else f j
theorem mix_step (k : Int) (i : Nat) (f : Nat → Int × Int) : (fun j => if j = i then mk k i else mix k i f j) = mix k (i + 1) f := by
  funext j
  unfold mix
  by_cases h : j = i
  · subst h; rw [if_pos rfl, if_pos (by omega)]
  · rw [if_neg h]
    by_cases h2 : j < i
    · rw [if_pos h2, if_pos (by omega)]
    · rw [if_neg h2, if_neg (by omega)]
/-- behind a mark -/
structure Marked (w w' : World) (lo B : Nat) (A : Option Addr) (n : Nat) (k : Int) (i : Nat) (f : Nat → Int × Int) : Prop where
  only : Only lo B w w'
  row : Rw w' lo B A n (mix k i f)
theorem marked_step {w w' : World} {lo B b off n i : Nat} {k : Int} {f : Nat → Int × Int} (h : Marked w w' lo B (some ⟨b, off, none⟩) n k i f) (hi : i < n) (hb : lo ≤ b) (hB : b < B) :
    Marked w ((w'.setCell ⟨b, off + i * 2, none⟩ (.int .i64 (k + 2 * (i : Int)))).setCell ⟨b, off + i * 2 + 1, none⟩ (.int .i64 (k + 2 * (i : Int) + 1))) lo B (some ⟨b, off, none⟩) n k (i + 1) f :=
  ⟨(h.only.set hb hB _).set hb hB _, by
    have := rw_store h.row hi (k + 2 * (i : Int)) (k + 2 * (i : Int) + 1)
    rw [show (fun j => if j = i then (k + 2 * (i : Int), k + 2 * (i : Int) + 1) else mix k i f j) = mix k (i + 1) f from mix_step k i f] at this
    exact this⟩
set_option maxHeartbeats 1000000 in
theorem markPegS_any (A : Option Addr) (c n : Nat) (k : Int) (lo B : Nat) (f : Nat → Int × Int) (w : World) (hn : n ≤ 1048576) (hk1 : 1 ≤ k) (hk2 : k ≤ 1000000000) (hR : Rw w lo B A n f) :
    Calls Try.prog 25 #[.slice A n c, .int .i64 k] w fun e w' => e = .returned (.int .i64 (k + 2 * (n : Int))) ∧ Only lo B w w' ∧ Rw w' lo B A n (mk k) := by
  have HM := Lib.hid (show Marked w w lo B A n k 0 f from ⟨Only.refl _ _ _, rw_same hR fun i hi => by unfold mix; rw [if_neg (by omega)]⟩)
  clear hR
  go_enter Try.func25, Try.ntmps25
  go_wp2_with fail
  go_loopg [1, 5] n (fun g u i wr => ∃ j : Nat, j ≤ n ∧ g = n - j ∧ i = .int .i64 j ∧ u = .int .i64 (k + 2 * (j : Int)) ∧ Hid (Marked w wr lo B A n k j f))
  case atStart => exact ⟨0, Nat.zero_le _, rfl, rfl, by simp, HM⟩
  case round =>
    obtain ⟨j, hj, hg, rfl, rfl, hM⟩ := hrel
    rename World => wo
    have HGK := Lib.hid hg
    clear hg HM
    by_cases hlt : j < n
    · obtain ⟨b, off, hA, hb1, hb2, hc⟩ := hM.out.row (by omega)
      subst hA
      obtain ⟨⟨c1, c2⟩, z1, z2⟩ := hc j hlt
      have M2 := Lib.hid (marked_step hM.out hlt hb1 hb2)
      clear hc hM
      have e1 : IntKind.i64.wrap (k + 2 * (j : Int) + 1) = k + 2 * (j : Int) + 1 := IntWalk.i64_in _ (by omega)
      go_wp2_with fail
      go_roundg (n - (j + 1))
      case measure => have := HGK.out; omega
      case rel => exact ⟨j + 1, by omega, rfl, by go_num, by go_num, M2⟩
    · have hjn : n = j := by omega
      subst hjn
      go_wp2_with fail
      go_ret
      exact ⟨rfl, hM.out.only, rw_same hM.out.row fun i hi => by unfold mix; rw [if_pos hi]⟩
end Go.Proofs.Ytgjegildeejghaa
/- what the laws look at in their arguments, step by step -/
namespace Go.Proofs.Ytgjegildeejghaa
open Go.ChangeShapes Go.WideShapes Go.ChangeAt Go.RowKit Go.Joins
set_option linter.unusedVariables false
set_option linter.unusedSimpArgs false
set_option maxRecDepth 4000
theorem law_eqX (l : List (Int × Int)) (hl : l.length ≤ 1048576) (W : World) (g g' c c' : Nat) (h : Set W g l.length l.length l) (h' : Set W g' l.length l.length l) :
    Calls Try.prog 19 #[.slice (some ⟨g, 0, none⟩) l.length c, .slice (some ⟨g', 0, none⟩) l.length c'] W fun e w' => e = .returned (.bool true) ∧ Below W.heap.size W w' :=
  (eqPegS_any _ _ c c' l l W hl hl (rd_of_set h) (rd_of_set h')).mono fun e w' hh => ⟨hh.1.trans (ret_bool (by simp)), hh.2⟩
theorem law_mark (l : List (Int × Int)) (hl : l.length ≤ 1048576) (W : World) (g c : Nat) (h : Set W g l.length l.length l) :
    Calls Try.prog 25 #[.slice (some ⟨g, 0, none⟩) l.length c, .int .i64 1] W fun e w' => e = .returned (.int .i64 (1 + 2 * (l.length : Int))) ∧ Only g (g + 1) W w' :=
  (markPegS_any _ c l.length 1 g (g + 1) (pt l) W hl (by omega) (by omega) (rw_of_set h)).mono fun e w' hh => ⟨hh.1, hh.2.1⟩
theorem only_grow {w W W' : World} {lo B : Nat} (h : Below w.heap.size w W) (ho : Only lo B W W') (hl : w.heap.size ≤ lo) : Below w.heap.size w W' := h.trans (ho.below.mono hl)
theorem below_grow {w W W' : World} (h : Below w.heap.size w W) (hb : Below W.heap.size W W') : Below w.heap.size w W' := h.trans (hb.mono h.size)
end Go.Proofs.Ytgjegildeejghaa
/- contract: marks that are held -/
namespace Go.Proofs.Ytgjegildeejghaa
open Go.ChangeShapes Go.WideShapes Go.ChangeAt Go.RowKit Go.Joins
set_option linter.unusedVariables false
set_option linter.unusedSimpArgs false
set_option maxRecDepth 4000
set_option maxHeartbeats 1000000 in
theorem heldPegS_any (A : Option Addr) (c n : Nat) (k : Int) (lo B : Nat) (w : World) (hn : n ≤ 1048576) (hk1 : 1 ≤ k) (hk2 : k ≤ 1000000000) (hR : Rw w lo B A n (mk k)) :
    Calls Try.prog 52 #[.slice A n c, .int .i64 k] w fun e w' => e = .returned (.int .i64 (k + 2 * (n : Int))) ∧ w = w' := by
  have HR := Lib.hid hR
  clear hR
  go_enter Try.func52, Try.ntmps52
  go_wp2_with fail
  go_loopg [1, 5] n (fun g u i wr => ∃ j : Nat, j ≤ n ∧ g = n - j ∧ i = .int .i64 j ∧ u = .int .i64 (k + 2 * (j : Int)) ∧ w = wr)
  case atStart => exact ⟨0, Nat.zero_le _, rfl, rfl, by simp, rfl⟩
  case round =>
    obtain ⟨j, hj, hg, rfl, rfl, rfl⟩ := hrel
    have HGK := Lib.hid hg
    clear hg
    by_cases hlt : j < n
    · obtain ⟨b, off, hA, hb1, hb2, hc⟩ := HR.out (by omega)
      subst hA
      obtain ⟨⟨c1, c2⟩, z1, z2⟩ := hc j hlt
      have c1' : w.cell? ⟨b, off + j * 2, none⟩ = some (.int .i64 (k + 2 * (j : Int))) := c1
      have c2' : w.cell? ⟨b, off + j * 2 + 1, none⟩ = some (.int .i64 (k + 2 * (j : Int) + 1)) := c2
      clear hc c1 c2
      go_wp2_with fail
      go_roundg (n - (j + 1))
      case measure => have := HGK.out; omega
      case rel => exact ⟨j + 1, by omega, rfl, by go_num, by go_num, rfl⟩
    · have hjn : n = j := by omega
      subst hjn
      go_wp2_with fail
      go_ret
      exact ⟨rfl, rfl⟩
end Go.Proofs.Ytgjegildeejghaa
/- what the laws of functions that give a list of points look at, step by step -/
namespace Go.Proofs.Ytgjegildeejghaa
open Go.ChangeShapes Go.WideShapes Go.ChangeAt Go.RowKit Go.Joins
set_option linter.unusedVariables false
set_option linter.unusedSimpArgs false
set_option maxRecDepth 4000
/-- a call that gives p points F and says whether there are such -/
def RetN (w : World) (p : Nat) (F : Nat → Int × Int) (b : Bool) (e : Ending) (w' : World) : Prop :=
  ∃ A c, e = .returned (.tuple #[.slice A p c, .bool b]) ∧ Below w.heap.size w w' ∧ Rw w' w.heap.size w'.heap.size A p F
theorem retN_of_L {w w' : World} {m : List (Int × Int)} {b : Bool} {e : Ending} (h : RetL w m b e w') : RetN w m.length (pt m) b e w' := by
  obtain ⟨A, c, h1, _, _, h4, h5⟩ := h
  exact ⟨A, c, h1, h4, h5⟩
theorem law_eq (m : List (Int × Int)) (hm : m.length ≤ 1048576) (W : World) (lo B lo' B' c c' : Nat) (A A' : Option Addr) (h : Rw W lo B A m.length (pt m)) (hB : B ≤ W.heap.size) (h' : Rw W lo' B' A' m.length (pt m)) (hB' : B' ≤ W.heap.size) :
    Calls Try.prog 19 #[.slice A m.length c, .slice A' m.length c'] W fun e w' => e = .returned (.bool true) ∧ Below W.heap.size W w' :=
  (eqPegS_any A A' c c' m m W hm hm (rd_more (rw_rd h) hB) (rd_more (rw_rd h') hB')).mono fun e w' hh => ⟨hh.1.trans (ret_bool (by simp)), hh.2⟩
end Go.Proofs.Ytgjegildeejghaa
/- an argument that is a list of points, opened -/
namespace Go.Proofs.Ytgjegildeejghaa
open Go.ChangeShapes Go.WideShapes Go.ChangeAt Go.RowKit Go.Joins
set_option linter.unusedVariables false
set_option linter.unusedSimpArgs false
set_option maxRecDepth 4000
open Go.Deep
theorem lt_of_cell {w : World} {a : Addr} {u : Value} (h : w.cell? a = some u) : a.block < w.heap.size := by
  rcases Nat.lt_or_ge a.block w.heap.size with h1 | h1
  · exact h1
  · unfold World.cell? at h
    rw [Array.getElem?_eq_none h1] at h
    simp at h
section
variable {H : Type} {enc : TypeId × Value → H}
/-- a point of the laws' package, read from two cells -/
theorem read_peg {w : World} {base : Nat} {spare : Nat → Bool} {held : Bool} {fuel : Nat} {c0 c1 : Value} {x : DataW H × List MemPlace}
    (h : DataW.trod enc Try.prog w base spare held fuel 52 [c0, c1] = some x) : ∃ a b : Int, c0 = .int .i64 a ∧ c1 = .int .i64 b := by
  obtain ⟨xs, n, _, _, _, hlen, hg⟩ := DataW.trod_struct Try.underlying52 h
  have g0 : DataW.trod enc Try.prog w base spare held n 3 ((List.drop 0 [c0, c1]).take (Try.prog.cellsOf 3)) = xs[0]? := hg 0 _ rfl
  have g1 : DataW.trod enc Try.prog w base spare held n 3 ((List.drop 1 [c0, c1]).take (Try.prog.cellsOf 3)) = xs[1]? := hg 1 _ rfl
  have k3 : Try.prog.cellsOf 3 = 1 := by kernel_rfl
  rw [k3] at g0 g1
  match xs, hlen with
  | [y0, y1], _ =>
    simp only [List.drop_zero, List.drop_succ_cons, List.take_succ_cons, List.take_zero, List.getElem?_cons_zero, List.getElem?_cons_succ] at g0 g1
    obtain ⟨a, e0, _, _⟩ := DataW.trod_int Try.underlying3 g0
    obtain ⟨b, e1, _, _⟩ := DataW.trod_int Try.underlying3 g1
    simp only [List.cons.injEq, and_true] at e0 e1
    exact ⟨a, b, e0, e1⟩
/-- an argument that is a list of points -/
theorem open_pegs {w : World} {r : Reach} {b0 base : Nat} {spare : Nat → Bool} {v : Value} {d : DataW H} {p : List MemPlace} (hv : Value.okWide Try.prog w r b0 22 v)
    (h : DataW.Trod enc Try.prog w base spare true 22 v d p) : ∃ (A : Option Addr) (c : Nat) (l : List (Int × Int)), v = .slice A l.length c ∧ l.length ≤ c ∧ c ≤ maxLen ∧ Rd w w.heap.size A l := by
  obtain ⟨a0, len, cap, rfl⟩ := okWide_slice Try.underlying22 hv
  obtain ⟨fuel, hf⟩ := h
  rcases open_slice Try.underlying22 hf with ⟨hcs, _⟩ | ⟨a, len', cap', m, n, D, Pl, hcs, _, hl, hm, hmm, _, hi⟩
  · simp [Value.cells] at hcs
    obtain ⟨rfl, rfl, rfl⟩ := hcs
    exact ⟨none, 0, [], rfl, by simp, by simp, fun h => absurd h (by simp)⟩
  · simp [Value.cells] at hcs
    obtain ⟨rfl, rfl, rfl⟩ := hcs
    have hml : len ≤ m := by rw [hmm]; split <;> omega
    have hC : Try.prog.cellsOf 52 = 2 := cells52
    have key : ∀ i, ∃ q : Int × Int, i < len → w.cell? (a.add (i * 2)) = some (.int .i64 q.1) ∧ w.cell? ((a.add (i * 2)).add 1) = some (.int .i64 q.2) := fun i => by
      by_cases hlt : i < len
      · obtain ⟨cs', hc, ht⟩ := hi i (by omega)
        rw [hC] at hc
        obtain ⟨_, hcl, hat⟩ := World.cells?_some hc
        match cs', hcl with
        | [c0, c1], _ =>
          obtain ⟨x, y, rfl, rfl⟩ := read_peg ht
          have h0 := hat 0 (by omega)
          have h1 := hat 1 (by omega)
          refine ⟨(x, y), fun _ => ⟨?_, h1⟩⟩
          have : (a.add (i * 2)).add 0 = a.add (i * 2) := by unfold Addr.add; simp
          rw [this] at h0
          exact h0
      · exact ⟨(0, 0), fun h => absurd h hlt⟩
    refine ⟨some a, cap, (List.range len).map fun i => Classical.choose (key i), by simp, by simpa using hl, hm, fun hpos => ?_⟩
    have hpos' : 0 < len := by simpa using hpos
    have k0 := (Classical.choose_spec (key 0) hpos').1
    obtain ⟨b, off, spot⟩ := a
    have hspot : spot = none := by simpa [Addr.add] using World.cell?_spot k0
    subst hspot
    refine ⟨b, off, rfl, ?_, fun i q hq => ?_⟩
    · have := lt_of_cell k0
      rw [add_plain] at this
      exact this
    · have hlt : i < len := by
        have := (List.getElem?_eq_some_iff.1 hq).1
        simpa using this
      have e : q = Classical.choose (key i) := by
        rw [List.getElem?_map, List.getElem?_range hlt] at hq
        simpa using hq.symm
      have hs := Classical.choose_spec (key i) hlt
      rw [← e] at hs
      rw [add_plain, add_plain] at hs
      exact hs
end
end Go.Proofs.Ytgjegildeejghaa

