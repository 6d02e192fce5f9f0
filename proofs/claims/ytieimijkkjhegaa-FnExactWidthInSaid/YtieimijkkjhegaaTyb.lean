/- contract: the box around points -/
import Derived.Test.YtieimijkkjhegaaTwx
import Derived.Test.YtieimijkkjhegaaTwz
import Derived.Laws.Cover1
import Derived.Test.YtieimijkkjhegaaSax
namespace Go.Proofs.Ytieimijkkjhegaa
open Go.ChangeShapes Go.WideShapes Go.ChangeAt Go.RowKit Go.Joins
set_option linter.unusedVariables false
set_option linter.unusedSimpArgs false
set_option maxRecDepth 4000
theorem min_if (x y : Int) : (if y < x then y else x) = min x y := by omega
theorem max_if (x y : Int) : (if x < y then y else x) = max x y := by omega
set_option maxRecDepth 100000 in
set_option maxHeartbeats 4000000 in
theorem boxAround_any (A : Option Addr) (c : Nat) (l : List (Int × Int)) (w : World) (h1 : 1 ≤ l.length) (hn : l.length ≤ 1000) (hR : Rd w w.heap.size A l) :
    Calls Try.prog 81 #[.slice A l.length c] w fun e w' => e = .returned (.tuple #[.agg #[.int .i64 (loN l l.length).1, .int .i64 (loN l l.length).2], .agg #[.int .i64 (hiN l l.length).1, .int .i64 (hiN l l.length).2]]) ∧ Below w.heap.size w w' := by
  obtain ⟨b, off, rfl, hb, HC⟩ := pts_of (by omega) hR
  clear hR
  generalize hN : l.length = n at *
  clear hN
  go_enter Try.func81, Try.ntmps81
  go_wp2_with fail
  obtain ⟨w1, hw1⟩ : ∃ w1, w1 = ((w.alloc (.cells #[.int .i64 0, .int .i64 0] 42)).alloc (.cells #[.int .i64 0, .int .i64 0] 42)) := ⟨_, rfl⟩
  rw [← hw1]
  have yw10_0 : w1.cell? ⟨w.heap.size, 0, none⟩ = some (.int .i64 0) := by rw [hw1]; go_simp
  have yw10_1 : w1.cell? ⟨w.heap.size, 1, none⟩ = some (.int .i64 0) := by rw [hw1]; go_simp
  have fw10 : ∀ o, w1.frozen? ⟨w.heap.size, o, none⟩ = false := by intro o; rw [hw1]; (repeat rw [frozen?_alloc_cells]); simp [World.frozen?]
  have zw10 : w.heap.size < w1.heap.size := by rw [hw1]; simp <;> omega
  have yw11_0 : w1.cell? ⟨w.heap.size + 1, 0, none⟩ = some (.int .i64 0) := by rw [hw1]; go_simp
  have yw11_1 : w1.cell? ⟨w.heap.size + 1, 1, none⟩ = some (.int .i64 0) := by rw [hw1]; go_simp
  have fw11 : ∀ o, w1.frozen? ⟨w.heap.size + 1, o, none⟩ = false := by intro o; rw [hw1]; (repeat rw [frozen?_alloc_cells]); simp [World.frozen?]
  have zw11 : w.heap.size + 1 < w1.heap.size := by rw [hw1]; simp <;> omega
  have Bw1 : Below w.heap.size w w1 := by rw [hw1]; exact (Below.alloc (Below.alloc (Below.refl _ _) (by simp <;> omega) _) (by simp <;> omega) _)
  have ew1 : Hid (w1.heap.size = w.heap.size + 2) := Lib.hid (by rw [hw1]; simp)
  clear hw1
  have x0 := HC.out w1 Bw1 0 (by omega)
  simp only [Nat.zero_mul, Nat.add_zero] at x0
  obtain ⟨x0, x1⟩ := x0
  have hbz : b < w1.heap.size := by omega
  have hn0 : 0 < n := by omega
  have RC := Lib.hid (And.intro yw10_0 (And.intro yw10_1 (And.intro yw11_0 yw11_1)))
  have RF := Lib.hid (And.intro fw10 fw11)
  have q1 := zw10
  have q2 := zw11
  have hb1 := Bw1
  clear yw10_0 yw10_1 yw11_0 yw11_1 fw10 fw11 zw10 zw11 Bw1
  go_region
  · skip
    have T0 := Lib.hid (two_new (p := vx l 0) (t := 42) (Below.refl w1.heap.size w1))
    obtain ⟨W0, hW0⟩ : ∃ W0, W0 = ((w1.alloc (.cells #[.int .i64 (vx l 0).1, .int .i64 (vx l 0).2] 42)).alloc (.cells #[.int .i64 (vx l 0).1, .int .i64 (vx l 0).2] 42)) := ⟨_, rfl⟩
    rw [← hW0] at T0 ⊢
    clear hW0 x0 x1
    obtain ⟨h, hp⟩ : ∃ x, x = w1.heap.size + 1 := ⟨_, rfl⟩
    rw [← hp] at T0 ⊢
    obtain ⟨g, hq⟩ : ∃ x, x = w1.heap.size := ⟨_, rfl⟩
    rw [← hq] at T0 ⊢
    have HQ1 := Lib.hid (show w.heap.size < w1.heap.size from q1)
    clear hp hq
    have T1 : Hid (Two w1 W0.drew g h (loN l 0) (hiN l 0)) := Lib.hid (by have := T0.out; exact ⟨this.below.drew, this.g0, this.g1, this.h0, this.h1, this.gf, this.hf, this.lo1, this.lo2, this.up1, this.up2, this.ne⟩)
    clear T0
    go_wp2_with fail
    go_loopg [16] n (fun gg i wr => ∃ k : Nat, k ≤ n ∧ gg = n - k ∧ i = .int .i64 k ∧ Hid (Two w1 wr g h (loN l k) (hiN l k)))
    case atStart => exact ⟨0, Nat.zero_le _, rfl, rfl, T1⟩
    case round =>
      clear T1
      obtain ⟨k, hk, hgg, rfl, hT⟩ := hrel
      rename World => wo
      have HGK := Lib.hid hgg
      clear hgg
      have t1 := hT.out.g0
      have t2 := hT.out.g1
      have t3 := hT.out.h0
      have t4 := hT.out.h1
      have t5 := hT.out.up1
      have t6 := hT.out.up2
      have t7 := hT.out.gf 0
      have t8 := hT.out.gf 1
      have t9 := hT.out.hf 0
      have t10 := hT.out.hf 1
      have tn := hT.out.ne
      have zw := hT.out.below.size
      by_cases hlt : k < n
      · obtain ⟨x0, x1⟩ := HC.out wo (hb1.trans (hT.out.below.mono hb1.size)) k hlt
        have hbo : b < wo.heap.size := by omega
        have L1 : Hid (loN l (k + 1) = (min (loN l k).1 (vx l k).1, min (loN l k).2 (vx l k).2)) := Lib.hid rfl
        have L2 : Hid (hiN l (k + 1) = (max (hiN l k).1 (vx l k).1, max (hiN l k).2 (vx l k).2)) := Lib.hid rfl
        have T2 := Lib.hid (two_high (two_low hT.out (min (loN l k).1 (vx l k).1) (min (loN l k).2 (vx l k).2)) (max (hiN l k).1 (vx l k).1) (max (hiN l k).2 (vx l k).2))
        have T3 := Lib.hid (two_below T2.out (Below.alloc (Below.refl _ _) (Nat.le_refl _) (.cells #[.int .i64 (vx l k).1, .int .i64 (vx l k).2] 42)))
        clear T2
        have mn := min_if
        have mx := max_if
        have cg : g ≠ wo.heap.size := by omega
        have ch : h ≠ wo.heap.size := by omega
        go_wp2_with fail
        go_roundg (n - (k + 1))
        case measure => have := HGK.out; omega
        case rel => exact ⟨k + 1, by omega, rfl, by go_num, Lib.hid (by rw [L1.out, L2.out]; exact T3.out)⟩
      · have hk3 : n = k := by omega
        subst hk3
        obtain ⟨r0, r1, r2, r3⟩ := RC.out
        have y0 := (hT.out.below.cell (p := ⟨w.heap.size, 0, none⟩) q1).trans r0
        have y1 := (hT.out.below.cell (p := ⟨w.heap.size, 1, none⟩) q1).trans r1
        have y2 := (hT.out.below.cell (p := ⟨w.heap.size + 1, 0, none⟩) q2).trans r2
        have y3 := (hT.out.below.cell (p := ⟨w.heap.size + 1, 1, none⟩) q2).trans r3
        have f0 := (hT.out.below.frozen (p := ⟨w.heap.size, 0, none⟩) q1).trans (RF.out.1 0)
        have f1 := (hT.out.below.frozen (p := ⟨w.heap.size, 1, none⟩) q1).trans (RF.out.1 1)
        have f2 := (hT.out.below.frozen (p := ⟨w.heap.size + 1, 0, none⟩) q2).trans (RF.out.2 0)
        have f3 := (hT.out.below.frozen (p := ⟨w.heap.size + 1, 1, none⟩) q2).trans (RF.out.2 1)
        have zr0 : w.heap.size < wo.heap.size := by omega
        have zr1 : w.heap.size + 1 < wo.heap.size := by omega
        have BW := hb1.trans (hT.out.below.mono hb1.size)
        have l1 := hT.out.lo1
        have l2 := hT.out.lo2
        have n1 : g ≠ w.heap.size := by omega
        have n2 : g ≠ w.heap.size + 1 := by omega
        have n3 : h ≠ w.heap.size := by omega
        have n4 : h ≠ w.heap.size + 1 := by omega
        have n5 := Ne.symm n1
        have n6 := Ne.symm n2
        have n7 := Ne.symm n3
        have n8 := Ne.symm n4
        clear r0 r1 r2 r3 hT l1 l2
        go_wp2_with fail
        go_region
        go_wp2_with fail
        refine bodyPost_ret (v := .tuple #[.agg #[.int .i64 (loN l n).1, .int .i64 (loN l n).2], .agg #[.int .i64 (hiN l n).1, .int .i64 (hiN l n).2]]) (by simp [results, Try.results81, go_sem, zr0, zr1, y0, y1, y2, y3]) rfl ⟨rfl, ?_⟩
        repeat (first | with_reducible assumption | with_reducible exact Below.refl _ _ | with_reducible apply Below.drew | ((with_reducible refine Below.setCell ?_ ?_ _); rotate_left; (first | exact Nat.le_refl _ | omega | (simp <;> omega))) | ((with_reducible refine Below.alloc ?_ ?_ _); rotate_left; (first | omega | (simp <;> omega))))
  · skip
    have T0 := Lib.hid (two_swap (two_new (p := vx l 0) (t := 42) (Below.refl w1.heap.size w1)))
    obtain ⟨W0, hW0⟩ : ∃ W0, W0 = ((w1.alloc (.cells #[.int .i64 (vx l 0).1, .int .i64 (vx l 0).2] 42)).alloc (.cells #[.int .i64 (vx l 0).1, .int .i64 (vx l 0).2] 42)) := ⟨_, rfl⟩
    rw [← hW0] at T0 ⊢
    clear hW0 x0 x1
    obtain ⟨g, hp⟩ : ∃ x, x = w1.heap.size + 1 := ⟨_, rfl⟩
    rw [← hp] at T0 ⊢
    obtain ⟨h, hq⟩ : ∃ x, x = w1.heap.size := ⟨_, rfl⟩
    rw [← hq] at T0 ⊢
    have HQ1 := Lib.hid (show w.heap.size < w1.heap.size from q1)
    clear hp hq
    have T1 : Hid (Two w1 W0.drew g h (loN l 0) (hiN l 0)) := Lib.hid (by have := T0.out; exact ⟨this.below.drew, this.g0, this.g1, this.h0, this.h1, this.gf, this.hf, this.lo1, this.lo2, this.up1, this.up2, this.ne⟩)
    clear T0
    go_wp2_with fail
    go_loopg [16] n (fun gg i wr => ∃ k : Nat, k ≤ n ∧ gg = n - k ∧ i = .int .i64 k ∧ Hid (Two w1 wr g h (loN l k) (hiN l k)))
    case atStart => exact ⟨0, Nat.zero_le _, rfl, rfl, T1⟩
    case round =>
      clear T1
      obtain ⟨k, hk, hgg, rfl, hT⟩ := hrel
      rename World => wo
      have HGK := Lib.hid hgg
      clear hgg
      have t1 := hT.out.g0
      have t2 := hT.out.g1
      have t3 := hT.out.h0
      have t4 := hT.out.h1
      have t5 := hT.out.up1
      have t6 := hT.out.up2
      have t7 := hT.out.gf 0
      have t8 := hT.out.gf 1
      have t9 := hT.out.hf 0
      have t10 := hT.out.hf 1
      have tn := hT.out.ne
      have zw := hT.out.below.size
      by_cases hlt : k < n
      · obtain ⟨x0, x1⟩ := HC.out wo (hb1.trans (hT.out.below.mono hb1.size)) k hlt
        have hbo : b < wo.heap.size := by omega
        have L1 : Hid (loN l (k + 1) = (min (loN l k).1 (vx l k).1, min (loN l k).2 (vx l k).2)) := Lib.hid rfl
        have L2 : Hid (hiN l (k + 1) = (max (hiN l k).1 (vx l k).1, max (hiN l k).2 (vx l k).2)) := Lib.hid rfl
        have T2 := Lib.hid (two_high (two_low hT.out (min (loN l k).1 (vx l k).1) (min (loN l k).2 (vx l k).2)) (max (hiN l k).1 (vx l k).1) (max (hiN l k).2 (vx l k).2))
        have T3 := Lib.hid (two_below T2.out (Below.alloc (Below.refl _ _) (Nat.le_refl _) (.cells #[.int .i64 (vx l k).1, .int .i64 (vx l k).2] 42)))
        clear T2
        have mn := min_if
        have mx := max_if
        have cg : g ≠ wo.heap.size := by omega
        have ch : h ≠ wo.heap.size := by omega
        go_wp2_with fail
        go_roundg (n - (k + 1))
        case measure => have := HGK.out; omega
        case rel => exact ⟨k + 1, by omega, rfl, by go_num, Lib.hid (by rw [L1.out, L2.out]; exact T3.out)⟩
      · have hk3 : n = k := by omega
        subst hk3
        obtain ⟨r0, r1, r2, r3⟩ := RC.out
        have y0 := (hT.out.below.cell (p := ⟨w.heap.size, 0, none⟩) q1).trans r0
        have y1 := (hT.out.below.cell (p := ⟨w.heap.size, 1, none⟩) q1).trans r1
        have y2 := (hT.out.below.cell (p := ⟨w.heap.size + 1, 0, none⟩) q2).trans r2
        have y3 := (hT.out.below.cell (p := ⟨w.heap.size + 1, 1, none⟩) q2).trans r3
        have f0 := (hT.out.below.frozen (p := ⟨w.heap.size, 0, none⟩) q1).trans (RF.out.1 0)
        have f1 := (hT.out.below.frozen (p := ⟨w.heap.size, 1, none⟩) q1).trans (RF.out.1 1)
        have f2 := (hT.out.below.frozen (p := ⟨w.heap.size + 1, 0, none⟩) q2).trans (RF.out.2 0)
        have f3 := (hT.out.below.frozen (p := ⟨w.heap.size + 1, 1, none⟩) q2).trans (RF.out.2 1)
        have zr0 : w.heap.size < wo.heap.size := by omega
        have zr1 : w.heap.size + 1 < wo.heap.size := by omega
        have BW := hb1.trans (hT.out.below.mono hb1.size)
        have l1 := hT.out.lo1
        have l2 := hT.out.lo2
        have n1 : g ≠ w.heap.size := by omega
        have n2 : g ≠ w.heap.size + 1 := by omega
        have n3 : h ≠ w.heap.size := by omega
        have n4 : h ≠ w.heap.size + 1 := by omega
        have n5 := Ne.symm n1
        have n6 := Ne.symm n2
        have n7 := Ne.symm n3
        have n8 := Ne.symm n4
        clear r0 r1 r2 r3 hT l1 l2
        go_wp2_with fail
        go_region
        go_wp2_with fail
        refine bodyPost_ret (v := .tuple #[.agg #[.int .i64 (loN l n).1, .int .i64 (loN l n).2], .agg #[.int .i64 (hiN l n).1, .int .i64 (hiN l n).2]]) (by simp [results, Try.results81, go_sem, zr0, zr1, y0, y1, y2, y3]) rfl ⟨rfl, ?_⟩
        repeat (first | with_reducible assumption | with_reducible exact Below.refl _ _ | with_reducible apply Below.drew | ((with_reducible refine Below.setCell ?_ ?_ _); rotate_left; (first | exact Nat.le_refl _ | omega | (simp <;> omega))) | ((with_reducible refine Below.alloc ?_ ?_ _); rotate_left; (first | omega | (simp <;> omega))))
end Go.Proofs.Ytieimijkkjhegaa
