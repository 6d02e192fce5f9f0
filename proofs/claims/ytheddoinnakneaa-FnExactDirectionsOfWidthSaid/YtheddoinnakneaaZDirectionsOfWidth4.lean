/- joined: Wm1 Twx Tyb U2 Sa El Gm Qg Ta Tb0 Te Tw0 U3 U4 Lk Na Nb -/
import Derived.Test.YtheddoinnakneaaZDirectionsOfWidth3
import Derived.BigRegion
import Derived.OwnWalk
import Derived.Laws.Cover1
import Derived.StillTailTactics
import Derived.WideShapes
import Derived.Laws.OwnMore
/- plain: the told directions, one after the other -/
namespace Go.Proofs.Ytheddoinnakneaa
open Go.ChangeShapes Go.WideShapes Go.ChangeAt Go.RowKit Go.Joins
set_option linter.unusedVariables false
set_option linter.unusedSimpArgs false
set_option maxRecDepth 4000
/-- the directions that are found by the first i values, and the first j of the next one -/
def dirU (W : Int → Int → Int) (most : Nat) (p q : Int × Int) (i j : Nat) : List (Int × Int) := dirAll W most p q i ++ dirRow W most p q i j
theorem dirU_zero (W : Int → Int → Int) (most : Nat) (p q : Int × Int) (i : Nat) : dirU W most p q i 0 = dirAll W most p q i := by unfold dirU; rw [dirRow, List.append_nil]
theorem dirU_all (W : Int → Int → Int) (most : Nat) (p q : Int × Int) (i : Nat) : dirU W most p q i (2 * most + 1) = dirAll W most p q (i + 1) := rfl
theorem dirU_succ (W : Int → Int → Int) (most : Nat) (p q : Int × Int) (i j : Nat) : dirU W most p q i (j + 1) = dirU W most p q i j ++ dirO W most p q ((i : Int) - most) ((j : Int) - most) := by
  unfold dirU; rw [dirRow, List.append_assoc]
theorem dirRow_sub (W : Int → Int → Int) (most : Nat) (p q : Int × Int) (i j : Nat) : ∀ d, (dirRow W most p q i j).Sublist (dirRow W most p q i (j + d))
  | 0 => List.Sublist.refl _
  | d + 1 => by
    rw [← Nat.add_assoc, dirRow]
    exact (dirRow_sub W most p q i j d).trans (List.sublist_append_left _ _)
theorem dirU_nodup {W : Int → Int → Int} {most : Nat} {p q : Int × Int} (hd : detP p q ≠ 0) {i j : Nat} (hj : j ≤ 2 * most + 1) : (dirU W most p q i j).Nodup := by
  have h := dirAll_nodup (W := W) (most := most) hd (i + 1)
  refine h.sublist ?_
  rw [dirAll]
  unfold dirU
  refine List.Sublist.append (List.Sublist.refl _) ?_
  have := dirRow_sub W most p q i j (2 * most + 1 - j)
  rw [show j + (2 * most + 1 - j) = 2 * most + 1 by omega] at this
  exact this
theorem srt_snoc (l : List (Int × Int)) (x : Int × Int) : srt (l ++ [x]) = ins (srt l) x := by
  unfold srt; rw [List.foldl_append]; rfl
theorem dirO_none {W : Int → Int → Int} {most : Int} {p q : Int × Int} {m n : Int} (h : (soX p q m n).tmod (detP p q) ≠ 0 ∨ (soY p q m n).tmod (detP p q) ≠ 0) : dirO W most p q m n = [] := by
  unfold dirO solO
  rw [if_neg (by rintro ⟨h1, h2⟩; rcases h with h | h <;> contradiction)]
theorem dirO_some {W : Int → Int → Int} {most : Int} {p q : Int × Int} {m n u v : Int} (h1 : (soX p q m n).tmod (detP p q) = 0) (h2 : (soY p q m n).tmod (detP p q) = 0) (hu : u = (soX p q m n).tdiv (detP p q)) (hv : v = (soY p q m n).tdiv (detP p q)) :
    dirO W most p q m n = if (toldB u v && decide (W u v ≤ most)) = true then [(u, v)] else [] := by
  unfold dirO solO
  rw [if_pos ⟨h1, h2⟩, ← hu, ← hv]
theorem told_less {u v : Int} (h : u < 0) : toldB u v = false := by
  unfold toldB
  rw [decide_eq_false (show ¬ 0 < u by omega), decide_eq_false (show ¬ u = 0 by omega)]
  rfl
theorem told_zero {v : Int} (h : v < 1) : toldB 0 v = false := by
  unfold toldB
  rw [decide_eq_false (show ¬ v = 1 by omega)]
  simp
theorem told_gcd {u v : Int} (h1 : ¬ u < 0) (h2 : ¬ (u = 0 ∧ v < 1)) : toldB u v = decide (Nat.gcd u.natAbs v.natAbs = 1) := by
  unfold toldB
  rcases Int.lt_or_le 0 u with h | h
  · rw [decide_eq_true h]; simp
  · obtain rfl : u = 0 := by omega
    cases hg : decide (Nat.gcd (0 : Int).natAbs v.natAbs = 1)
    · simp
    · have := of_decide_eq_true hg
      rw [show (0 : Int).natAbs = 0 from rfl, Nat.gcd_zero_left] at this
      have hv : v = 1 := by omega
      subst hv
      rfl
/-- one that is new -/
theorem dirU_new {W : Int → Int → Int} {most : Nat} {p q : Int × Int} (hd : detP p q ≠ 0) {i j : Nat} (hj : j < 2 * most + 1) {t : Int × Int} (ht : dirO W most p q ((i : Int) - most) ((j : Int) - most) = [t]) : t ∉ srt (dirU W most p q i j) := by
  rw [srt_mem]
  intro hm
  have h := dirU_nodup (W := W) (i := i) hd (show j + 1 ≤ 2 * most + 1 by omega)
  rw [dirU_succ, ht, List.nodup_append] at h
  exact h.2.2 t hm t (by simp) rfl
theorem so_bd {p q : Int × Int} {m n : Int} (hp : (-80 ≤ p.1 ∧ p.1 ≤ 80) ∧ (-80 ≤ p.2 ∧ p.2 ≤ 80)) (hq : (-80 ≤ q.1 ∧ q.1 ≤ 80) ∧ (-80 ≤ q.2 ∧ q.2 ≤ 80)) (hm : -80 ≤ m ∧ m ≤ 80) (hn : -80 ≤ n ∧ n ≤ 80) :
    ((-6400 ≤ m * q.2 ∧ m * q.2 ≤ 6400) ∧ (-6400 ≤ n * p.2 ∧ n * p.2 ≤ 6400)) ∧ ((-6400 ≤ n * p.1 ∧ n * p.1 ≤ 6400) ∧ (-6400 ≤ m * q.1 ∧ m * q.1 ≤ 6400)) := by
  obtain ⟨⟨p1, p2⟩, p3, p4⟩ := hp
  obtain ⟨⟨q1, q2⟩, q3, q4⟩ := hq
  have a1 := mul_bd (x := m) (y := q.2) (m := 80) (n := 80) hm.1 hm.2 q3 q4
  have a2 := mul_bd (x := n) (y := p.2) (m := 80) (n := 80) hn.1 hn.2 p3 p4
  have a3 := mul_bd (x := n) (y := p.1) (m := 80) (n := 80) hn.1 hn.2 p1 p2
  have a4 := mul_bd (x := m) (y := q.1) (m := 80) (n := 80) hm.1 hm.2 q1 q2
  omega
theorem tdiv_bd {a d : Int} (h1 : -12800 ≤ a) (h2 : a ≤ 12800) : -12800 ≤ a.tdiv d ∧ a.tdiv d ≤ 12800 := by
  have h : (a.tdiv d).natAbs ≤ a.natAbs := by rw [Int.natAbs_tdiv]; exact Nat.div_le_self _ _
  omega
theorem dirO_len (W : Int → Int → Int) (most : Int) (p q : Int × Int) (m n : Int) : (dirO W most p q m n).length ≤ 1 := by
  unfold dirO
  split
  · split <;> simp
  · simp
theorem dirRow_len (W : Int → Int → Int) (most : Nat) (p q : Int × Int) (i : Nat) : ∀ j, (dirRow W most p q i j).length ≤ j
  | 0 => Nat.le_refl _
  | j + 1 => by
    rw [dirRow, List.length_append]
    have := dirRow_len W most p q i j
    have := dirO_len W most p q ((i : Int) - most) ((j : Int) - most)
    omega
theorem dirAll_len (W : Int → Int → Int) (most : Nat) (p q : Int × Int) : ∀ i, (dirAll W most p q i).length ≤ i * (2 * most + 1)
  | 0 => Nat.zero_le _
  | i + 1 => by
    rw [dirAll, List.length_append, Nat.add_mul, Nat.one_mul]
    have := dirAll_len W most p q i
    have := dirRow_len W most p q i (2 * most + 1)
    omega
theorem dirU_len {W : Int → Int → Int} {most : Nat} {p q : Int × Int} (hm : most ≤ 80) {i j : Nat} (hi : i ≤ 2 * most + 1) (hj : j ≤ 2 * most + 1) : (dirU W most p q i j).length ≤ 30000 := by
  unfold dirU
  rw [List.length_append]
  have h1 := dirAll_len W most p q i
  have h2 := dirRow_len W most p q i j
  have h3 : i * (2 * most + 1) ≤ 161 * 161 := Nat.mul_le_mul (by omega) (by omega)
  omega
/-- a box of two numbers, one of our own -/
structure Bx2 (W : World) (b : Nat) (u v : Int) : Prop where
  z : b < W.heap.size
  c0 : W.cell? ⟨b, 0, none⟩ = some (.int .i64 u)
  c1 : W.cell? ⟨b, 1, none⟩ = some (.int .i64 v)
  fz : ∀ o, W.frozen? ⟨b, o, none⟩ = false
theorem bx2_below {W W' : World} {b : Nat} {u v : Int} (h : Bx2 W b u v) (hb : Below W.heap.size W W') : Bx2 W' b u v :=
  ⟨Nat.lt_of_lt_of_le h.z hb.size, ((bcell hb).1 _ _ h.z).trans h.c0, ((bcell hb).1 _ _ h.z).trans h.c1, fun o => ((bcell hb).2 _ _ h.z).trans (h.fz o)⟩
theorem bx2_new (w : World) (u v : Int) (T : TypeId) : Bx2 (w.alloc (.cells #[.int .i64 u, .int .i64 v] T)) w.heap.size u v :=
  ⟨by simp, by go_simp, by go_simp, fun o => by rw [frozen?_alloc_cells]; simp [World.frozen?]⟩
theorem bx2_store {W : World} {g : Nat} {u v : Int} (h : Bx2 W g u v) (u' v' : Int) : Bx2 ((W.setCell ⟨g, 0, none⟩ (.int .i64 u')).setCell ⟨g, 1, none⟩ (.int .i64 v')) g u' v' := by
  have e0 : (W.setCell ⟨g, 0, none⟩ (.int .i64 u')).cell? ⟨g, 1, none⟩ = some (.int .i64 v) := by
    rw [World.cell?_setCell_other _ _ _ _ (fun e => by injection e with e1 e2; cases e2)]; exact h.c1
  refine ⟨by simpa [World.setCell] using h.z, ?_, World.cell?_setCell_same _ _ _ e0, fun o => by rw [World.frozen?_setCell, World.frozen?_setCell]; exact h.fz o⟩
  rw [World.cell?_setCell_other _ _ _ _ (fun e => by injection e with e1 e2; cases e2)]
  exact World.cell?_setCell_same _ _ _ h.c0
end Go.Proofs.Ytheddoinnakneaa
/- two boxes of points, each in a block of its own, that are written -/
namespace Go.Proofs.Ytheddoinnakneaa
open Go.ChangeShapes Go.WideShapes Go.ChangeAt Go.RowKit Go.Joins
set_option linter.unusedVariables false
set_option linter.unusedSimpArgs false
set_option maxRecDepth 4000
/-- two boxes of points, each in a block of its own, and one that is looked at; the other old blocks are as in w -/
structure Two (w wr : World) (g h : Nat) (p q : Int × Int) : Prop where
  below : Below w.heap.size w wr
  g0 : wr.cell? ⟨g, 0, none⟩ = some (.int .i64 p.1)
  g1 : wr.cell? ⟨g, 1, none⟩ = some (.int .i64 p.2)
  h0 : wr.cell? ⟨h, 0, none⟩ = some (.int .i64 q.1)
  h1 : wr.cell? ⟨h, 1, none⟩ = some (.int .i64 q.2)
  gf : ∀ o, wr.frozen? ⟨g, o, none⟩ = false
  hf : ∀ o, wr.frozen? ⟨h, o, none⟩ = false
  lo1 : w.heap.size ≤ g
  lo2 : w.heap.size ≤ h
  up1 : g < wr.heap.size
  up2 : h < wr.heap.size
  ne : g ≠ h
theorem two_below {w wr W : World} {g h : Nat} {p q : Int × Int} (t : Two w wr g h p q) (hb : Below wr.heap.size wr W) : Two w W g h p q := by
  obtain ⟨t1, t2, t3, t4, t5, t6, t7, t8, t9, t10, t11, t12⟩ := t
  have hc := (bcell hb).1
  have hf := (bcell hb).2
  have hz := hb.size
  exact ⟨t1.trans (hb.mono t1.size), by rw [hc _ _ t10]; exact t2, by rw [hc _ _ t10]; exact t3, by rw [hc _ _ t11]; exact t4, by rw [hc _ _ t11]; exact t5, fun o => by rw [hf _ _ t10]; exact t6 o, fun o => by rw [hf _ _ t11]; exact t7 o, t8, t9, by omega, by omega, t12⟩
theorem two_low {w wr : World} {g h : Nat} {p q : Int × Int} (t : Two w wr g h p q) (x y : Int) : Two w ((wr.setCell ⟨g, 0, none⟩ (.int .i64 x)).setCell ⟨g, 1, none⟩ (.int .i64 y)) g h (x, y) q := by
  obtain ⟨t1, t2, t3, t4, t5, t6, t7, t8, t9, t10, t11, t12⟩ := t
  have o : ∀ oo, ((wr.setCell ⟨g, 0, none⟩ (.int .i64 x)).setCell ⟨g, 1, none⟩ (.int .i64 y)).cell? ⟨h, oo, none⟩ = wr.cell? ⟨h, oo, none⟩ := fun oo => by
    rw [World.cell?_setCell_other _ _ _ _ (fun e => t12 (by injection e)), World.cell?_setCell_other _ _ _ _ (fun e => t12 (by injection e))]
  refine ⟨(t1.setCell t8 _).setCell t8 _, ?_, ?_, by rw [o]; exact t4, by rw [o]; exact t5, fun oo => by rw [World.frozen?_setCell, World.frozen?_setCell]; exact t6 oo, fun oo => by rw [World.frozen?_setCell, World.frozen?_setCell]; exact t7 oo, t8, t9, by simpa [World.setCell] using t10, by simpa [World.setCell] using t11, t12⟩
  · rw [World.cell?_setCell_other _ _ _ _ (fun e => by injection e with e1 e2; cases e2), World.cell?_setCell_same _ _ _ t2]
  · refine World.cell?_setCell_same (wr.setCell ⟨g, 0, none⟩ (.int .i64 x)) ⟨g, 1, none⟩ (.int .i64 y) (show (wr.setCell ⟨g, 0, none⟩ (.int .i64 x)).cell? ⟨g, 1, none⟩ = some (.int .i64 p.2) from ?_)
    rw [World.cell?_setCell_other _ _ _ _ (fun e => by injection e with e1 e2; cases e2)]
    exact t3
theorem two_swap {w wr : World} {g h : Nat} {p q : Int × Int} (t : Two w wr g h p q) : Two w wr h g q p := by
  obtain ⟨t1, t2, t3, t4, t5, t6, t7, t8, t9, t10, t11, t12⟩ := t
  exact ⟨t1, t4, t5, t2, t3, t7, t6, t9, t8, t11, t10, fun e => t12 e.symm⟩
theorem two_high {w wr : World} {g h : Nat} {p q : Int × Int} (t : Two w wr g h p q) (x y : Int) : Two w ((wr.setCell ⟨h, 0, none⟩ (.int .i64 x)).setCell ⟨h, 1, none⟩ (.int .i64 y)) g h p (x, y) :=
  two_swap (two_low (two_swap t) x y)
theorem two_new {w w1 : World} {p : Int × Int} {t : TypeId} (hb : Below w.heap.size w w1) : Two w ((w1.alloc (.cells #[.int .i64 p.1, .int .i64 p.2] t)).alloc (.cells #[.int .i64 p.1, .int .i64 p.2] t)) w1.heap.size (w1.heap.size + 1) p p := by
  have hz := hb.size
  refine ⟨Below.alloc (Below.alloc hb hz _) (by simp; omega) _, by go_simp, by go_simp, by go_simp, by go_simp, fun o => ?_, fun o => ?_, hz, by omega, by simp; omega, by simp, by omega⟩
  · rw [frozen?_alloc_cells, frozen?_alloc_cells]; simp [World.frozen?]
  · rw [frozen?_alloc_cells, frozen?_alloc_cells]; simp [World.frozen?]
end Go.Proofs.Ytheddoinnakneaa
/- contract: the box around points -/
namespace Go.Proofs.Ytheddoinnakneaa
open Go.ChangeShapes Go.WideShapes Go.ChangeAt Go.RowKit Go.Joins
set_option linter.unusedVariables false
set_option linter.unusedSimpArgs false
set_option maxRecDepth 4000
theorem min_if (x y : Int) : (if y < x then y else x) = min x y := by omega
theorem max_if (x y : Int) : (if x < y then y else x) = max x y := by omega
set_option maxRecDepth 100000 in
set_option maxHeartbeats 4000000 in
theorem boxAround_any (A : Option Addr) (c : Nat) (l : List (Int × Int)) (w : World) (h1 : 1 ≤ l.length) (hn : l.length ≤ 1000) (hR : Rd w w.heap.size A l) :
    Calls Try.prog 90 #[.slice A l.length c] w fun e w' => e = .returned (.tuple #[.agg #[.int .i64 (loN l l.length).1, .int .i64 (loN l l.length).2], .agg #[.int .i64 (hiN l l.length).1, .int .i64 (hiN l l.length).2]]) ∧ Below w.heap.size w w' := by
  obtain ⟨b, off, rfl, hb, HC⟩ := pts_of (by omega) hR
  clear hR
  generalize hN : l.length = n at *
  clear hN
  go_enter Try.func90, Try.ntmps90
  go_wp2_with fail
  obtain ⟨w1, hw1⟩ : ∃ w1, w1 = ((w.alloc (.cells #[.int .i64 0, .int .i64 0] 56)).alloc (.cells #[.int .i64 0, .int .i64 0] 56)) := ⟨_, rfl⟩
  rw [← hw1]
  have yw10_0 : w1.cell? ⟨w.heap.size, 0, none⟩ = some (.int .i64 0) := by rw [hw1]; go_simp
  have yw10_1 : w1.cell? ⟨w.heap.size, 1, none⟩ = some (.int .i64 0) := by rw [hw1]; go_simp
  have fw10 : ∀ o, w1.frozen? ⟨w.heap.size, o, none⟩ = false := by intro o; rw [hw1]; (repeat rw [frozen?_alloc_cells]); simp [World.frozen?]
  have zw10 : w.heap.size < w1.heap.size := by rw [hw1]; simp <;> omega
  have yw11_0 : w1.cell? ⟨w.heap.size + 1, 0, none⟩ = some (.int .i64 0) := by rw [hw1]; go_simp
  have yw11_1 : w1.cell? ⟨w.heap.size + 1, 1, none⟩ = some (.int .i64 0) := by rw [hw1]; go_simp
  have fw11 : ∀ o, w1.frozen? ⟨w.heap.size + 1, o, none⟩ = false := by intro o; rw [hw1]; (repeat rw [frozen?_alloc_cells]); simp [World.frozen?]
  have zw11 : w.heap.size + 1 < w1.heap.size := by rw [hw1]; simp <;> omega
  have Bw1 : Below w.heap.size w w1 := by rw [hw1]; exact (Below.alloc (Below.alloc (Below.refl _ _) (by simp <;> omega) _) (by simp <;> omega) _)
  have ew1 : Hid (w1.heap.size = w.heap.size + 2) := Lib.hid (by rw [hw1]; simp)
  clear hw1
  have x0 := HC.out w1 Bw1 0 (by omega)
  simp only [Nat.zero_mul, Nat.add_zero] at x0
  obtain ⟨x0, x1⟩ := x0
  have hbz : b < w1.heap.size := by omega
  have hn0 : 0 < n := by omega
  have RC := Lib.hid (And.intro yw10_0 (And.intro yw10_1 (And.intro yw11_0 yw11_1)))
  have RF := Lib.hid (And.intro fw10 fw11)
  have q1 := zw10
  have q2 := zw11
  have hb1 := Bw1
  clear yw10_0 yw10_1 yw11_0 yw11_1 fw10 fw11 zw10 zw11 Bw1
  go_region
  · skip
    have T0 := Lib.hid (two_new (p := vx l 0) (t := 56) (Below.refl w1.heap.size w1))
    obtain ⟨W0, hW0⟩ : ∃ W0, W0 = ((w1.alloc (.cells #[.int .i64 (vx l 0).1, .int .i64 (vx l 0).2] 56)).alloc (.cells #[.int .i64 (vx l 0).1, .int .i64 (vx l 0).2] 56)) := ⟨_, rfl⟩
    rw [← hW0] at T0 ⊢
    clear hW0 x0 x1
    obtain ⟨h, hp⟩ : ∃ x, x = w1.heap.size + 1 := ⟨_, rfl⟩
    rw [← hp] at T0 ⊢
    obtain ⟨g, hq⟩ : ∃ x, x = w1.heap.size := ⟨_, rfl⟩
    rw [← hq] at T0 ⊢
    have HQ1 := Lib.hid (show w.heap.size < w1.heap.size from q1)
    clear hp hq
    have T1 : Hid (Two w1 W0.drew g h (loN l 0) (hiN l 0)) := Lib.hid (by have := T0.out; exact ⟨this.below.drew, this.g0, this.g1, this.h0, this.h1, this.gf, this.hf, this.lo1, this.lo2, this.up1, this.up2, this.ne⟩)
    clear T0
    go_wp2_with fail
    go_loopg [16] n (fun gg i wr => ∃ k : Nat, k ≤ n ∧ gg = n - k ∧ i = .int .i64 k ∧ Hid (Two w1 wr g h (loN l k) (hiN l k)))
    case atStart => exact ⟨0, Nat.zero_le _, rfl, rfl, T1⟩
    case round =>
      clear T1
      obtain ⟨k, hk, hgg, rfl, hT⟩ := hrel
      rename World => wo
      have HGK := Lib.hid hgg
      clear hgg
      have t1 := hT.out.g0
      have t2 := hT.out.g1
      have t3 := hT.out.h0
      have t4 := hT.out.h1
      have t5 := hT.out.up1
      have t6 := hT.out.up2
      have t7 := hT.out.gf 0
      have t8 := hT.out.gf 1
      have t9 := hT.out.hf 0
      have t10 := hT.out.hf 1
      have tn := hT.out.ne
      have zw := hT.out.below.size
      by_cases hlt : k < n
      · obtain ⟨x0, x1⟩ := HC.out wo (hb1.trans (hT.out.below.mono hb1.size)) k hlt
        have hbo : b < wo.heap.size := by omega
        have L1 : Hid (loN l (k + 1) = (min (loN l k).1 (vx l k).1, min (loN l k).2 (vx l k).2)) := Lib.hid rfl
        have L2 : Hid (hiN l (k + 1) = (max (hiN l k).1 (vx l k).1, max (hiN l k).2 (vx l k).2)) := Lib.hid rfl
        have T2 := Lib.hid (two_high (two_low hT.out (min (loN l k).1 (vx l k).1) (min (loN l k).2 (vx l k).2)) (max (hiN l k).1 (vx l k).1) (max (hiN l k).2 (vx l k).2))
        have T3 := Lib.hid (two_below T2.out (Below.alloc (Below.refl _ _) (Nat.le_refl _) (.cells #[.int .i64 (vx l k).1, .int .i64 (vx l k).2] 56)))
        clear T2
        have mn := min_if
        have mx := max_if
        have cg : g ≠ wo.heap.size := by omega
        have ch : h ≠ wo.heap.size := by omega
        go_wp2_with fail
        go_roundg (n - (k + 1))
        case measure => have := HGK.out; omega
        case rel => exact ⟨k + 1, by omega, rfl, by go_num, Lib.hid (by rw [L1.out, L2.out]; exact T3.out)⟩
      · have hk3 : n = k := by omega
        subst hk3
        obtain ⟨r0, r1, r2, r3⟩ := RC.out
        have y0 := (hT.out.below.cell (p := ⟨w.heap.size, 0, none⟩) q1).trans r0
        have y1 := (hT.out.below.cell (p := ⟨w.heap.size, 1, none⟩) q1).trans r1
        have y2 := (hT.out.below.cell (p := ⟨w.heap.size + 1, 0, none⟩) q2).trans r2
        have y3 := (hT.out.below.cell (p := ⟨w.heap.size + 1, 1, none⟩) q2).trans r3
        have f0 := (hT.out.below.frozen (p := ⟨w.heap.size, 0, none⟩) q1).trans (RF.out.1 0)
        have f1 := (hT.out.below.frozen (p := ⟨w.heap.size, 1, none⟩) q1).trans (RF.out.1 1)
        have f2 := (hT.out.below.frozen (p := ⟨w.heap.size + 1, 0, none⟩) q2).trans (RF.out.2 0)
        have f3 := (hT.out.below.frozen (p := ⟨w.heap.size + 1, 1, none⟩) q2).trans (RF.out.2 1)
        have zr0 : w.heap.size < wo.heap.size := by omega
        have zr1 : w.heap.size + 1 < wo.heap.size := by omega
        have BW := hb1.trans (hT.out.below.mono hb1.size)
        have l1 := hT.out.lo1
        have l2 := hT.out.lo2
        have n1 : g ≠ w.heap.size := by omega
        have n2 : g ≠ w.heap.size + 1 := by omega
        have n3 : h ≠ w.heap.size := by omega
        have n4 : h ≠ w.heap.size + 1 := by omega
        have n5 := Ne.symm n1
        have n6 := Ne.symm n2
        have n7 := Ne.symm n3
        have n8 := Ne.symm n4
        clear r0 r1 r2 r3 hT l1 l2
        go_wp2_with fail
        go_region
        go_wp2_with fail
        refine bodyPost_ret (v := .tuple #[.agg #[.int .i64 (loN l n).1, .int .i64 (loN l n).2], .agg #[.int .i64 (hiN l n).1, .int .i64 (hiN l n).2]]) (by simp [results, Try.results90, go_sem, zr0, zr1, y0, y1, y2, y3]) rfl ⟨rfl, ?_⟩
        repeat (first | with_reducible assumption | with_reducible exact Below.refl _ _ | with_reducible apply Below.drew | ((with_reducible refine Below.setCell ?_ ?_ _); rotate_left; (first | exact Nat.le_refl _ | omega | (simp <;> omega))) | ((with_reducible refine Below.alloc ?_ ?_ _); rotate_left; (first | omega | (simp <;> omega))))
  · skip
    have T0 := Lib.hid (two_swap (two_new (p := vx l 0) (t := 56) (Below.refl w1.heap.size w1)))
    obtain ⟨W0, hW0⟩ : ∃ W0, W0 = ((w1.alloc (.cells #[.int .i64 (vx l 0).1, .int .i64 (vx l 0).2] 56)).alloc (.cells #[.int .i64 (vx l 0).1, .int .i64 (vx l 0).2] 56)) := ⟨_, rfl⟩
    rw [← hW0] at T0 ⊢
    clear hW0 x0 x1
    obtain ⟨g, hp⟩ : ∃ x, x = w1.heap.size + 1 := ⟨_, rfl⟩
    rw [← hp] at T0 ⊢
    obtain ⟨h, hq⟩ : ∃ x, x = w1.heap.size := ⟨_, rfl⟩
    rw [← hq] at T0 ⊢
    have HQ1 := Lib.hid (show w.heap.size < w1.heap.size from q1)
    clear hp hq
    have T1 : Hid (Two w1 W0.drew g h (loN l 0) (hiN l 0)) := Lib.hid (by have := T0.out; exact ⟨this.below.drew, this.g0, this.g1, this.h0, this.h1, this.gf, this.hf, this.lo1, this.lo2, this.up1, this.up2, this.ne⟩)
    clear T0
    go_wp2_with fail
    go_loopg [16] n (fun gg i wr => ∃ k : Nat, k ≤ n ∧ gg = n - k ∧ i = .int .i64 k ∧ Hid (Two w1 wr g h (loN l k) (hiN l k)))
    case atStart => exact ⟨0, Nat.zero_le _, rfl, rfl, T1⟩
    case round =>
      clear T1
      obtain ⟨k, hk, hgg, rfl, hT⟩ := hrel
      rename World => wo
      have HGK := Lib.hid hgg
      clear hgg
      have t1 := hT.out.g0
      have t2 := hT.out.g1
      have t3 := hT.out.h0
      have t4 := hT.out.h1
      have t5 := hT.out.up1
      have t6 := hT.out.up2
      have t7 := hT.out.gf 0
      have t8 := hT.out.gf 1
      have t9 := hT.out.hf 0
      have t10 := hT.out.hf 1
      have tn := hT.out.ne
      have zw := hT.out.below.size
      by_cases hlt : k < n
      · obtain ⟨x0, x1⟩ := HC.out wo (hb1.trans (hT.out.below.mono hb1.size)) k hlt
        have hbo : b < wo.heap.size := by omega
        have L1 : Hid (loN l (k + 1) = (min (loN l k).1 (vx l k).1, min (loN l k).2 (vx l k).2)) := Lib.hid rfl
        have L2 : Hid (hiN l (k + 1) = (max (hiN l k).1 (vx l k).1, max (hiN l k).2 (vx l k).2)) := Lib.hid rfl
        have T2 := Lib.hid (two_high (two_low hT.out (min (loN l k).1 (vx l k).1) (min (loN l k).2 (vx l k).2)) (max (hiN l k).1 (vx l k).1) (max (hiN l k).2 (vx l k).2))
        have T3 := Lib.hid (two_below T2.out (Below.alloc (Below.refl _ _) (Nat.le_refl _) (.cells #[.int .i64 (vx l k).1, .int .i64 (vx l k).2] 56)))
        clear T2
        have mn := min_if
        have mx := max_if
        have cg : g ≠ wo.heap.size := by omega
        have ch : h ≠ wo.heap.size := by omega
        go_wp2_with fail
        go_roundg (n - (k + 1))
        case measure => have := HGK.out; omega
        case rel => exact ⟨k + 1, by omega, rfl, by go_num, Lib.hid (by rw [L1.out, L2.out]; exact T3.out)⟩
      · have hk3 : n = k := by omega
        subst hk3
        obtain ⟨r0, r1, r2, r3⟩ := RC.out
        have y0 := (hT.out.below.cell (p := ⟨w.heap.size, 0, none⟩) q1).trans r0
        have y1 := (hT.out.below.cell (p := ⟨w.heap.size, 1, none⟩) q1).trans r1
        have y2 := (hT.out.below.cell (p := ⟨w.heap.size + 1, 0, none⟩) q2).trans r2
        have y3 := (hT.out.below.cell (p := ⟨w.heap.size + 1, 1, none⟩) q2).trans r3
        have f0 := (hT.out.below.frozen (p := ⟨w.heap.size, 0, none⟩) q1).trans (RF.out.1 0)
        have f1 := (hT.out.below.frozen (p := ⟨w.heap.size, 1, none⟩) q1).trans (RF.out.1 1)
        have f2 := (hT.out.below.frozen (p := ⟨w.heap.size + 1, 0, none⟩) q2).trans (RF.out.2 0)
        have f3 := (hT.out.below.frozen (p := ⟨w.heap.size + 1, 1, none⟩) q2).trans (RF.out.2 1)
        have zr0 : w.heap.size < wo.heap.size := by omega
        have zr1 : w.heap.size + 1 < wo.heap.size := by omega
        have BW := hb1.trans (hT.out.below.mono hb1.size)
        have l1 := hT.out.lo1
        have l2 := hT.out.lo2
        have n1 : g ≠ w.heap.size := by omega
        have n2 : g ≠ w.heap.size + 1 := by omega
        have n3 : h ≠ w.heap.size := by omega
        have n4 : h ≠ w.heap.size + 1 := by omega
        have n5 := Ne.symm n1
        have n6 := Ne.symm n2
        have n7 := Ne.symm n3
        have n8 := Ne.symm n4
        clear r0 r1 r2 r3 hT l1 l2
        go_wp2_with fail
        go_region
        go_wp2_with fail
        refine bodyPost_ret (v := .tuple #[.agg #[.int .i64 (loN l n).1, .int .i64 (loN l n).2], .agg #[.int .i64 (hiN l n).1, .int .i64 (hiN l n).2]]) (by simp [results, Try.results90, go_sem, zr0, zr1, y0, y1, y2, y3]) rfl ⟨rfl, ?_⟩
        repeat (first | with_reducible assumption | with_reducible exact Below.refl _ _ | with_reducible apply Below.drew | ((with_reducible refine Below.setCell ?_ ?_ _); rotate_left; (first | exact Nat.le_refl _ | omega | (simp <;> omega))) | ((with_reducible refine Below.alloc ?_ ?_ _); rotate_left; (first | omega | (simp <;> omega))))
end Go.Proofs.Ytheddoinnakneaa
/- contracts: BoxOf, the program -/
namespace Go.Proofs.Ytheddoinnakneaa
open Go.ChangeShapes Go.WideShapes Go.ChangeAt Go.RowKit Go.Joins
set_option linter.unusedVariables false
set_option linter.unusedSimpArgs false
set_option maxRecDepth 4000
/-- what BoxOf returns -/
noncomputable def boS (l : List (Int × Int)) (i : Nat) : Int := if goodB l = true then (if i = 0 then (loN l l.length).1 else if i = 1 then (loN l l.length).2 else if i = 2 then (hiN l l.length).1 else (hiN l l.length).2) else 0
theorem boS_f {l : List (Int × Int)} (h : goodB l = false) (i : Nat) : boS l i = 0 := by unfold boS; rw [h]; rfl
theorem boS_0 {l : List (Int × Int)} (h : goodB l = true) : boS l 0 = (loN l l.length).1 := by unfold boS; rw [if_pos h]; rfl
theorem boS_1 {l : List (Int × Int)} (h : goodB l = true) : boS l 1 = (loN l l.length).2 := by unfold boS; rw [if_pos h]; rfl
theorem boS_2 {l : List (Int × Int)} (h : goodB l = true) : boS l 2 = (hiN l l.length).1 := by unfold boS; rw [if_pos h]; rfl
theorem boS_3 {l : List (Int × Int)} (h : goodB l = true) : boS l 3 = (hiN l l.length).2 := by unfold boS; rw [if_pos h]; rfl
end Go.Proofs.Ytheddoinnakneaa
/- contracts: the model's sums around a polygon -/
namespace Go.Proofs.Ytheddoinnakneaa
open Go.ChangeShapes Go.WideShapes Go.ChangeAt Go.RowKit Go.Joins
set_option linter.unusedVariables false
set_option linter.unusedSimpArgs false
set_option maxRecDepth 4000
end Go.Proofs.Ytheddoinnakneaa
/- contract: the sign of a number -/
namespace Go.Proofs.Ytheddoinnakneaa
open Go.ChangeShapes Go.WideShapes Go.ChangeAt Go.RowKit Go.Joins
set_option linter.unusedVariables false
set_option linter.unusedSimpArgs false
set_option maxRecDepth 4000
theorem l1Sign_any (n : Int) (w : World) :
    Calls Try.prog 122 #[.int .i64 n] w fun e w' => e = .returned (.int .i64 (sgn n)) ∧ w = w' := by
  have s1 : 0 < n → sgn n = 1 := fun h => by unfold sgn; rw [if_pos h]
  have s2 : n < 0 → sgn n = -1 := fun h => by unfold sgn; rw [if_neg (by omega), if_pos h]
  have s3 : n = 0 → sgn n = 0 := fun h => by unfold sgn; rw [if_neg (by omega), if_neg (by omega)]
  have S1 := Lib.hid s1
  have S2 := Lib.hid s2
  have S3 := Lib.hid s3
  clear s1 s2 s3
  rcases Int.lt_trichotomy n 0 with h | h | h
  all_goals
    go_enter Try.func122, Try.ntmps122
    go_wp2
    go_ret
    exact ⟨ret_int (by first | (rw [S1.out (by omega)]; done) | (rw [S2.out (by omega)]; done) | (rw [S3.out (by omega)]; done)), rfl⟩
end Go.Proofs.Ytheddoinnakneaa
/- contract: do two lines meet, the model -/
namespace Go.Proofs.Ytheddoinnakneaa
open Go.ChangeShapes Go.WideShapes Go.ChangeAt Go.RowKit Go.Joins
set_option linter.unusedVariables false
set_option linter.unusedSimpArgs false
set_option maxRecDepth 4000
set_option maxHeartbeats 2000000 in
theorem pgMeet_any (a1 a2 b1 b2 c1 c2 d1 d2 : Int) (w : World) (ha : Sz a1 a2) (hb : Sz b1 b2) (hc : Sz c1 c2) (hd : Sz d1 d2) :
    Calls Try.prog 85 #[.agg #[.int .i64 a1, .int .i64 a2], .agg #[.int .i64 b1, .int .i64 b2], .agg #[.int .i64 c1, .int .i64 c2], .agg #[.int .i64 d1, .int .i64 d2]] w fun e w' => e = .returned (.bool (meetB a1 a2 b1 b2 c1 c2 d1 d2)) ∧ Below w.heap.size w w' := by
  have K1 := Lib.hid (fun W => pgOn_any a1 a2 b1 b2 c1 c2 W ha hb hc)
  have K2 := Lib.hid (fun W => pgOn_any a1 a2 b1 b2 d1 d2 W ha hb hd)
  have K3 := Lib.hid (fun W => pgOn_any c1 c2 d1 d2 a1 a2 W hc hd ha)
  have K4 := Lib.hid (fun W => pgOn_any c1 c2 d1 d2 b1 b2 W hc hd hb)
  have T1 := Lib.hid (fun W => pgTurn_any a1 a2 b1 b2 c1 c2 W ha hb hc)
  have T2 := Lib.hid (fun W => pgTurn_any a1 a2 b1 b2 d1 d2 W ha hb hd)
  have T3 := Lib.hid (fun W => pgTurn_any c1 c2 d1 d2 a1 a2 W hc hd ha)
  have T4 := Lib.hid (fun W => pgTurn_any c1 c2 d1 d2 b1 b2 W hc hd hb)
  clear ha hb hc hd
  have eq : meetB a1 a2 b1 b2 c1 c2 d1 d2 = (onB a1 a2 b1 b2 c1 c2 || onB a1 a2 b1 b2 d1 d2 || onB c1 c2 d1 d2 a1 a2 || onB c1 c2 d1 d2 b1 b2 ||
      (decide (sgn (twI a1 a2 b1 b2 c1 c2) * sgn (twI a1 a2 b1 b2 d1 d2) < 0) && decide (sgn (twI c1 c2 d1 d2 a1 a2) * sgn (twI c1 c2 d1 d2 b1 b2) < 0))) := by
    unfold meetB; simp only [sgn_mul, Bool.decide_and]
  rw [eq]
  clear eq
  obtain ⟨p1, p2⟩ := sgn_pr (twI a1 a2 b1 b2 c1 c2) (twI a1 a2 b1 b2 d1 d2)
  obtain ⟨p3, p4⟩ := sgn_pr (twI c1 c2 d1 d2 a1 a2) (twI c1 c2 d1 d2 b1 b2)
  generalize twI a1 a2 b1 b2 c1 c2 = t1 at *
  generalize twI a1 a2 b1 b2 d1 d2 = t2 at *
  generalize twI c1 c2 d1 d2 a1 a2 = t3 at *
  generalize twI c1 c2 d1 d2 b1 b2 = t4 at *
  generalize onB a1 a2 b1 b2 c1 c2 = o1 at *
  generalize onB a1 a2 b1 b2 d1 d2 = o2 at *
  generalize onB c1 c2 d1 d2 a1 a2 = o3 at *
  generalize onB c1 c2 d1 d2 b1 b2 = o4 at *
  cases o1
  · go_enter Try.func85, Try.ntmps85
    go_wp2_with fail
    refine (K1.out _).mono ?_; rintro e w1 ⟨rfl, hb1⟩
    obtain ⟨hc1, hf1⟩ := bcell hb1
    have z1_0 : w.heap.size < w1.heap.size := by (have := hb1.size; simp at this; omega)
    have z1_1 : w.heap.size + 1 < w1.heap.size := by (have := hb1.size; simp at this; omega)
    have z1_2 : w.heap.size + 2 < w1.heap.size := by (have := hb1.size; simp at this; omega)
    have z1_3 : w.heap.size + 3 < w1.heap.size := by (have := hb1.size; simp at this; omega)
    have B1 : Below w.heap.size w w1 := (Below.alloc (Below.alloc (Below.alloc (Below.alloc (Below.refl _ _) (by simp <;> omega) _) (by simp <;> omega) _) (by simp <;> omega) _) (by simp <;> omega) _).trans (hb1.mono (by simp <;> omega))
    go_wp2_with fail
    cases o2
    · refine (K2.out _).mono ?_; rintro e w2 ⟨rfl, hb2⟩
      obtain ⟨hc2, hf2⟩ := bcell hb2
      have z2_0 : w.heap.size < w2.heap.size := by (have := hb2.size; omega)
      have z2_1 : w.heap.size + 1 < w2.heap.size := by (have := hb2.size; omega)
      have z2_2 : w.heap.size + 2 < w2.heap.size := by (have := hb2.size; omega)
      have z2_3 : w.heap.size + 3 < w2.heap.size := by (have := hb2.size; omega)
      have B2 : Below w.heap.size w w2 := B1.trans (hb2.mono (by have := B1.size; omega))
      go_wp2_with fail
      cases o3
      · refine (K3.out _).mono ?_; rintro e w3 ⟨rfl, hb3⟩
        obtain ⟨hc3, hf3⟩ := bcell hb3
        have z3_0 : w.heap.size < w3.heap.size := by (have := hb3.size; omega)
        have z3_1 : w.heap.size + 1 < w3.heap.size := by (have := hb3.size; omega)
        have z3_2 : w.heap.size + 2 < w3.heap.size := by (have := hb3.size; omega)
        have z3_3 : w.heap.size + 3 < w3.heap.size := by (have := hb3.size; omega)
        have B3 : Below w.heap.size w w3 := B2.trans (hb3.mono (by have := B2.size; omega))
        go_wp2_with fail
        cases o4
        · refine (K4.out _).mono ?_; rintro e w4 ⟨rfl, hb4⟩
          obtain ⟨hc4, hf4⟩ := bcell hb4
          have z4_0 : w.heap.size < w4.heap.size := by (have := hb4.size; omega)
          have z4_1 : w.heap.size + 1 < w4.heap.size := by (have := hb4.size; omega)
          have z4_2 : w.heap.size + 2 < w4.heap.size := by (have := hb4.size; omega)
          have z4_3 : w.heap.size + 3 < w4.heap.size := by (have := hb4.size; omega)
          have B4 : Below w.heap.size w w4 := B3.trans (hb4.mono (by have := B3.size; omega))
          go_wp2_with fail
          have hS : Below w.heap.size w w4 ∧ w.heap.size + 3 < w4.heap.size ∧ w4.cell? ⟨w.heap.size, 0, none⟩ = some (.int .i64 a1) ∧ w4.cell? ⟨w.heap.size, 1, none⟩ = some (.int .i64 a2) ∧ w4.cell? ⟨w.heap.size + 1, 0, none⟩ = some (.int .i64 b1) ∧ w4.cell? ⟨w.heap.size + 1, 1, none⟩ = some (.int .i64 b2) ∧ w4.cell? ⟨w.heap.size + 2, 0, none⟩ = some (.int .i64 c1) ∧ w4.cell? ⟨w.heap.size + 2, 1, none⟩ = some (.int .i64 c2) ∧ w4.cell? ⟨w.heap.size + 3, 0, none⟩ = some (.int .i64 d1) ∧ w4.cell? ⟨w.heap.size + 3, 1, none⟩ = some (.int .i64 d2) := ⟨B4, z4_3, by rw [hc4 _ _ (by omega), hc3 _ _ (by omega), hc2 _ _ (by omega), hc1 _ _ (by simp <;> omega)]; go_simp, by rw [hc4 _ _ (by omega), hc3 _ _ (by omega), hc2 _ _ (by omega), hc1 _ _ (by simp <;> omega)]; go_simp, by rw [hc4 _ _ (by omega), hc3 _ _ (by omega), hc2 _ _ (by omega), hc1 _ _ (by simp <;> omega)]; go_simp, by rw [hc4 _ _ (by omega), hc3 _ _ (by omega), hc2 _ _ (by omega), hc1 _ _ (by simp <;> omega)]; go_simp, by rw [hc4 _ _ (by omega), hc3 _ _ (by omega), hc2 _ _ (by omega), hc1 _ _ (by simp <;> omega)]; go_simp, by rw [hc4 _ _ (by omega), hc3 _ _ (by omega), hc2 _ _ (by omega), hc1 _ _ (by simp <;> omega)]; go_simp, by rw [hc4 _ _ (by omega), hc3 _ _ (by omega), hc2 _ _ (by omega), hc1 _ _ (by simp <;> omega)]; go_simp, by rw [hc4 _ _ (by omega), hc3 _ _ (by omega), hc2 _ _ (by omega), hc1 _ _ (by simp <;> omega)]; go_simp⟩
          clear hc1 hf1 hc2 hf2 hc3 hf3 hc4 hf4 hb1 hb2 hb3 hb4 B1 B2 B3 B4
          clear z1_0 z1_1 z1_2 z1_3 z2_0 z2_1 z2_2 z2_3 z3_0 z3_1 z3_2 z3_3 z4_0 z4_1 z4_2 z4_3
          have e1 : IntKind.i64.wrap (sgn t1 * sgn t2) = sgn t1 * sgn t2 := IntWalk.i64_in _ (by omega)
          have e2 : IntKind.i64.wrap (sgn t3 * sgn t4) = sgn t3 * sgn t4 := IntWalk.i64_in _ (by omega)
          by_cases hm : sgn t1 * sgn t2 < 0
          · have hd := decide_eq_true hm
            refine wp_region_B (fun W => Below w.heap.size w W ∧ w.heap.size + 3 < W.heap.size ∧ W.cell? ⟨w.heap.size, 0, none⟩ = some (.int .i64 a1) ∧ W.cell? ⟨w.heap.size, 1, none⟩ = some (.int .i64 a2) ∧ W.cell? ⟨w.heap.size + 1, 0, none⟩ = some (.int .i64 b1) ∧ W.cell? ⟨w.heap.size + 1, 1, none⟩ = some (.int .i64 b2) ∧ W.cell? ⟨w.heap.size + 2, 0, none⟩ = some (.int .i64 c1) ∧ W.cell? ⟨w.heap.size + 2, 1, none⟩ = some (.int .i64 c2) ∧ W.cell? ⟨w.heap.size + 3, 0, none⟩ = some (.int .i64 d1) ∧ W.cell? ⟨w.heap.size + 3, 1, none⟩ = some (.int .i64 d2)) (by kernel_rfl) (held4 hS ((Below.refl _ _).drew)) ?_
            first | refine wpB_skip 0 rfl (by kernel_rfl) (by kernel_rfl) (by kernel_rfl) (by rfl) ?_ | (refine wpB_text 0 (v := ?_) rfl (by kernel_rfl) (by kernel_rfl) (by kernel_rfl) (by rfl) (fun W hW => ?_) ?_; rotate_left; (obtain ⟨k1, k2, k3, k4, k5, k6, k7, k8, k9, k10⟩ := hW;  go_simp; refine comes_v ?_; exact ⟨k1, k2, k3, k4, k5, k6, k7, k8, k9, k10⟩))
            (try simp only [Act.put, List.setIfInBounds_toArray, List.set_cons_zero, List.set_cons_succ])
            first | refine wpB_skip 1 rfl (by kernel_rfl) (by kernel_rfl) (by kernel_rfl) (by rfl) ?_ | (refine wpB_text 1 (v := ?_) rfl (by kernel_rfl) (by kernel_rfl) (by kernel_rfl) (by rfl) (fun W hW => ?_) ?_; rotate_left; (obtain ⟨k1, k2, k3, k4, k5, k6, k7, k8, k9, k10⟩ := hW;  go_simp; refine comes_v ?_; exact ⟨k1, k2, k3, k4, k5, k6, k7, k8, k9, k10⟩))
            (try simp only [Act.put, List.setIfInBounds_toArray, List.set_cons_zero, List.set_cons_succ])
            first | refine wpB_skip 2 rfl (by kernel_rfl) (by kernel_rfl) (by kernel_rfl) (by rfl) ?_ | (refine wpB_text 2 (v := ?_) rfl (by kernel_rfl) (by kernel_rfl) (by kernel_rfl) (by rfl) (fun W hW => ?_) ?_; rotate_left; (obtain ⟨k1, k2, k3, k4, k5, k6, k7, k8, k9, k10⟩ := hW;  go_simp; refine comes_v ?_; exact ⟨k1, k2, k3, k4, k5, k6, k7, k8, k9, k10⟩))
            (try simp only [Act.put, List.setIfInBounds_toArray, List.set_cons_zero, List.set_cons_succ])
            first | refine wpB_skip 3 rfl (by kernel_rfl) (by kernel_rfl) (by kernel_rfl) (by rfl) ?_ | (refine wpB_text 3 (v := .int .i64 t1) rfl (by kernel_rfl) (by kernel_rfl) (by kernel_rfl) (by rfl) (fun W hW => ?_) ?_; (obtain ⟨k1, k2, k3, k4, k5, k6, k7, k8, k9, k10⟩ := hW;  go_simp; exact comes_c ( T1.out _) (fun wn hbn => held4 ⟨k1, k2, k3, k4, k5, k6, k7, k8, k9, k10⟩ hbn)))
            (try simp only [Act.put, List.setIfInBounds_toArray, List.set_cons_zero, List.set_cons_succ])
            first | refine wpB_skip 4 rfl (by kernel_rfl) (by kernel_rfl) (by kernel_rfl) (by rfl) ?_ | (refine wpB_text 4 (v := .int .i64 (sgn t1)) rfl (by kernel_rfl) (by kernel_rfl) (by kernel_rfl) (by rfl) (fun W hW => ?_) ?_; (obtain ⟨k1, k2, k3, k4, k5, k6, k7, k8, k9, k10⟩ := hW;  go_simp; exact comes_q ( l1Sign_any _ _) ⟨k1, k2, k3, k4, k5, k6, k7, k8, k9, k10⟩))
            (try simp only [Act.put, List.setIfInBounds_toArray, List.set_cons_zero, List.set_cons_succ])
            first | refine wpB_skip 5 rfl (by kernel_rfl) (by kernel_rfl) (by kernel_rfl) (by rfl) ?_ | (refine wpB_text 5 (v := ?_) rfl (by kernel_rfl) (by kernel_rfl) (by kernel_rfl) (by rfl) (fun W hW => ?_) ?_; rotate_left; (obtain ⟨k1, k2, k3, k4, k5, k6, k7, k8, k9, k10⟩ := hW;  go_simp; refine comes_v ?_; exact ⟨k1, k2, k3, k4, k5, k6, k7, k8, k9, k10⟩))
            (try simp only [Act.put, List.setIfInBounds_toArray, List.set_cons_zero, List.set_cons_succ])
            first | refine wpB_skip 6 rfl (by kernel_rfl) (by kernel_rfl) (by kernel_rfl) (by rfl) ?_ | (refine wpB_text 6 (v := ?_) rfl (by kernel_rfl) (by kernel_rfl) (by kernel_rfl) (by rfl) (fun W hW => ?_) ?_; rotate_left; (obtain ⟨k1, k2, k3, k4, k5, k6, k7, k8, k9, k10⟩ := hW;  go_simp; refine comes_v ?_; exact ⟨k1, k2, k3, k4, k5, k6, k7, k8, k9, k10⟩))
            (try simp only [Act.put, List.setIfInBounds_toArray, List.set_cons_zero, List.set_cons_succ])
            first | refine wpB_skip 7 rfl (by kernel_rfl) (by kernel_rfl) (by kernel_rfl) (by rfl) ?_ | (refine wpB_text 7 (v := ?_) rfl (by kernel_rfl) (by kernel_rfl) (by kernel_rfl) (by rfl) (fun W hW => ?_) ?_; rotate_left; (obtain ⟨k1, k2, k3, k4, k5, k6, k7, k8, k9, k10⟩ := hW;  go_simp; refine comes_v ?_; exact ⟨k1, k2, k3, k4, k5, k6, k7, k8, k9, k10⟩))
            (try simp only [Act.put, List.setIfInBounds_toArray, List.set_cons_zero, List.set_cons_succ])
            first | refine wpB_skip 8 rfl (by kernel_rfl) (by kernel_rfl) (by kernel_rfl) (by rfl) ?_ | (refine wpB_text 8 (v := .int .i64 t2) rfl (by kernel_rfl) (by kernel_rfl) (by kernel_rfl) (by rfl) (fun W hW => ?_) ?_; (obtain ⟨k1, k2, k3, k4, k5, k6, k7, k8, k9, k10⟩ := hW;  go_simp; exact comes_c ( T2.out _) (fun wn hbn => held4 ⟨k1, k2, k3, k4, k5, k6, k7, k8, k9, k10⟩ hbn)))
            (try simp only [Act.put, List.setIfInBounds_toArray, List.set_cons_zero, List.set_cons_succ])
            first | refine wpB_skip 9 rfl (by kernel_rfl) (by kernel_rfl) (by kernel_rfl) (by rfl) ?_ | (refine wpB_text 9 (v := .int .i64 (sgn t2)) rfl (by kernel_rfl) (by kernel_rfl) (by kernel_rfl) (by rfl) (fun W hW => ?_) ?_; (obtain ⟨k1, k2, k3, k4, k5, k6, k7, k8, k9, k10⟩ := hW;  go_simp; exact comes_q ( l1Sign_any _ _) ⟨k1, k2, k3, k4, k5, k6, k7, k8, k9, k10⟩))
            (try simp only [Act.put, List.setIfInBounds_toArray, List.set_cons_zero, List.set_cons_succ])
            first | refine wpB_skip 10 rfl (by kernel_rfl) (by kernel_rfl) (by kernel_rfl) (by rfl) ?_ | (refine wpB_text 10 (v := ?_) rfl (by kernel_rfl) (by kernel_rfl) (by kernel_rfl) (by rfl) (fun W hW => ?_) ?_; rotate_left; (obtain ⟨k1, k2, k3, k4, k5, k6, k7, k8, k9, k10⟩ := hW;  go_simp; refine comes_v ?_; exact ⟨k1, k2, k3, k4, k5, k6, k7, k8, k9, k10⟩))
            (try simp only [Act.put, List.setIfInBounds_toArray, List.set_cons_zero, List.set_cons_succ])
            first | refine wpB_skip 11 rfl (by kernel_rfl) (by kernel_rfl) (by kernel_rfl) (by rfl) ?_ | (refine wpB_text 11 (v := ?_) rfl (by kernel_rfl) (by kernel_rfl) (by kernel_rfl) (by rfl) (fun W hW => ?_) ?_; rotate_left; (obtain ⟨k1, k2, k3, k4, k5, k6, k7, k8, k9, k10⟩ := hW;  go_simp; refine comes_v ?_; exact ⟨k1, k2, k3, k4, k5, k6, k7, k8, k9, k10⟩))
            (try simp only [Act.put, List.setIfInBounds_toArray, List.set_cons_zero, List.set_cons_succ])
            first | refine wpB_skip 12 rfl (by kernel_rfl) (by kernel_rfl) (by kernel_rfl) (by rfl) ?_ | (refine wpB_text 12 (v := ?_) rfl (by kernel_rfl) (by kernel_rfl) (by kernel_rfl) (by rfl) (fun W hW => ?_) ?_; rotate_left; (obtain ⟨k1, k2, k3, k4, k5, k6, k7, k8, k9, k10⟩ := hW;  go_simp; refine comes_v ?_; exact ⟨k1, k2, k3, k4, k5, k6, k7, k8, k9, k10⟩))
            (try simp only [Act.put, List.setIfInBounds_toArray, List.set_cons_zero, List.set_cons_succ])
            first | refine wpB_skip 13 rfl (by kernel_rfl) (by kernel_rfl) (by kernel_rfl) (by rfl) ?_ | (refine wpB_text 13 (v := ?_) rfl (by kernel_rfl) (by kernel_rfl) (by kernel_rfl) (by rfl) (fun W hW => ?_) ?_; rotate_left; (obtain ⟨k1, k2, k3, k4, k5, k6, k7, k8, k9, k10⟩ := hW;  go_simp; refine comes_v ?_; exact ⟨k1, k2, k3, k4, k5, k6, k7, k8, k9, k10⟩))
            (try simp only [Act.put, List.setIfInBounds_toArray, List.set_cons_zero, List.set_cons_succ])
            first | refine wpB_skip 14 rfl (by kernel_rfl) (by kernel_rfl) (by kernel_rfl) (by rfl) ?_ | (refine wpB_text 14 (v := ?_) rfl (by kernel_rfl) (by kernel_rfl) (by kernel_rfl) (by rfl) (fun W hW => ?_) ?_; rotate_left; (obtain ⟨k1, k2, k3, k4, k5, k6, k7, k8, k9, k10⟩ := hW;  go_simp; refine comes_v ?_; exact ⟨k1, k2, k3, k4, k5, k6, k7, k8, k9, k10⟩))
            (try simp only [Act.put, List.setIfInBounds_toArray, List.set_cons_zero, List.set_cons_succ])
            first | refine wpB_skip 15 rfl (by kernel_rfl) (by kernel_rfl) (by kernel_rfl) (by rfl) ?_ | (refine wpB_text 15 (v := ?_) rfl (by kernel_rfl) (by kernel_rfl) (by kernel_rfl) (by rfl) (fun W hW => ?_) ?_; rotate_left; (obtain ⟨k1, k2, k3, k4, k5, k6, k7, k8, k9, k10⟩ := hW;  go_simp; refine comes_v ?_; exact ⟨k1, k2, k3, k4, k5, k6, k7, k8, k9, k10⟩))
            (try simp only [Act.put, List.setIfInBounds_toArray, List.set_cons_zero, List.set_cons_succ])
            first | refine wpB_skip 16 rfl (by kernel_rfl) (by kernel_rfl) (by kernel_rfl) (by rfl) ?_ | (refine wpB_text 16 (v := .int .i64 t3) rfl (by kernel_rfl) (by kernel_rfl) (by kernel_rfl) (by rfl) (fun W hW => ?_) ?_; (obtain ⟨k1, k2, k3, k4, k5, k6, k7, k8, k9, k10⟩ := hW;  go_simp; exact comes_c ( T3.out _) (fun wn hbn => held4 ⟨k1, k2, k3, k4, k5, k6, k7, k8, k9, k10⟩ hbn)))
            (try simp only [Act.put, List.setIfInBounds_toArray, List.set_cons_zero, List.set_cons_succ])
            first | refine wpB_skip 17 rfl (by kernel_rfl) (by kernel_rfl) (by kernel_rfl) (by rfl) ?_ | (refine wpB_text 17 (v := .int .i64 (sgn t3)) rfl (by kernel_rfl) (by kernel_rfl) (by kernel_rfl) (by rfl) (fun W hW => ?_) ?_; (obtain ⟨k1, k2, k3, k4, k5, k6, k7, k8, k9, k10⟩ := hW;  go_simp; exact comes_q ( l1Sign_any _ _) ⟨k1, k2, k3, k4, k5, k6, k7, k8, k9, k10⟩))
            (try simp only [Act.put, List.setIfInBounds_toArray, List.set_cons_zero, List.set_cons_succ])
            first | refine wpB_skip 18 rfl (by kernel_rfl) (by kernel_rfl) (by kernel_rfl) (by rfl) ?_ | (refine wpB_text 18 (v := ?_) rfl (by kernel_rfl) (by kernel_rfl) (by kernel_rfl) (by rfl) (fun W hW => ?_) ?_; rotate_left; (obtain ⟨k1, k2, k3, k4, k5, k6, k7, k8, k9, k10⟩ := hW;  go_simp; refine comes_v ?_; exact ⟨k1, k2, k3, k4, k5, k6, k7, k8, k9, k10⟩))
            (try simp only [Act.put, List.setIfInBounds_toArray, List.set_cons_zero, List.set_cons_succ])
            first | refine wpB_skip 19 rfl (by kernel_rfl) (by kernel_rfl) (by kernel_rfl) (by rfl) ?_ | (refine wpB_text 19 (v := ?_) rfl (by kernel_rfl) (by kernel_rfl) (by kernel_rfl) (by rfl) (fun W hW => ?_) ?_; rotate_left; (obtain ⟨k1, k2, k3, k4, k5, k6, k7, k8, k9, k10⟩ := hW;  go_simp; refine comes_v ?_; exact ⟨k1, k2, k3, k4, k5, k6, k7, k8, k9, k10⟩))
            (try simp only [Act.put, List.setIfInBounds_toArray, List.set_cons_zero, List.set_cons_succ])
            first | refine wpB_skip 20 rfl (by kernel_rfl) (by kernel_rfl) (by kernel_rfl) (by rfl) ?_ | (refine wpB_text 20 (v := ?_) rfl (by kernel_rfl) (by kernel_rfl) (by kernel_rfl) (by rfl) (fun W hW => ?_) ?_; rotate_left; (obtain ⟨k1, k2, k3, k4, k5, k6, k7, k8, k9, k10⟩ := hW;  go_simp; refine comes_v ?_; exact ⟨k1, k2, k3, k4, k5, k6, k7, k8, k9, k10⟩))
            (try simp only [Act.put, List.setIfInBounds_toArray, List.set_cons_zero, List.set_cons_succ])
            first | refine wpB_skip 21 rfl (by kernel_rfl) (by kernel_rfl) (by kernel_rfl) (by rfl) ?_ | (refine wpB_text 21 (v := .int .i64 t4) rfl (by kernel_rfl) (by kernel_rfl) (by kernel_rfl) (by rfl) (fun W hW => ?_) ?_; (obtain ⟨k1, k2, k3, k4, k5, k6, k7, k8, k9, k10⟩ := hW;  go_simp; exact comes_c ( T4.out _) (fun wn hbn => held4 ⟨k1, k2, k3, k4, k5, k6, k7, k8, k9, k10⟩ hbn)))
            (try simp only [Act.put, List.setIfInBounds_toArray, List.set_cons_zero, List.set_cons_succ])
            first | refine wpB_skip 22 rfl (by kernel_rfl) (by kernel_rfl) (by kernel_rfl) (by rfl) ?_ | (refine wpB_text 22 (v := .int .i64 (sgn t4)) rfl (by kernel_rfl) (by kernel_rfl) (by kernel_rfl) (by rfl) (fun W hW => ?_) ?_; (obtain ⟨k1, k2, k3, k4, k5, k6, k7, k8, k9, k10⟩ := hW;  go_simp; exact comes_q ( l1Sign_any _ _) ⟨k1, k2, k3, k4, k5, k6, k7, k8, k9, k10⟩))
            (try simp only [Act.put, List.setIfInBounds_toArray, List.set_cons_zero, List.set_cons_succ])
            first | refine wpB_skip 23 rfl (by kernel_rfl) (by kernel_rfl) (by kernel_rfl) (by rfl) ?_ | (refine wpB_text 23 (v := ?_) rfl (by kernel_rfl) (by kernel_rfl) (by kernel_rfl) (by rfl) (fun W hW => ?_) ?_; rotate_left; (obtain ⟨k1, k2, k3, k4, k5, k6, k7, k8, k9, k10⟩ := hW;  go_simp; refine comes_v ?_; exact ⟨k1, k2, k3, k4, k5, k6, k7, k8, k9, k10⟩))
            (try simp only [Act.put, List.setIfInBounds_toArray, List.set_cons_zero, List.set_cons_succ])
            first | refine wpB_skip 24 rfl (by kernel_rfl) (by kernel_rfl) (by kernel_rfl) (by rfl) ?_ | (refine wpB_text 24 (v := ?_) rfl (by kernel_rfl) (by kernel_rfl) (by kernel_rfl) (by rfl) (fun W hW => ?_) ?_; rotate_left; (obtain ⟨k1, k2, k3, k4, k5, k6, k7, k8, k9, k10⟩ := hW;  go_simp; refine comes_v ?_; exact ⟨k1, k2, k3, k4, k5, k6, k7, k8, k9, k10⟩))
            (try simp only [Act.put, List.setIfInBounds_toArray, List.set_cons_zero, List.set_cons_succ])
            first | refine wpB_skip 25 rfl (by kernel_rfl) (by kernel_rfl) (by kernel_rfl) (by rfl) ?_ | (refine wpB_text 25 (v := ?_) rfl (by kernel_rfl) (by kernel_rfl) (by kernel_rfl) (by rfl) (fun W hW => ?_) ?_; rotate_left; (obtain ⟨k1, k2, k3, k4, k5, k6, k7, k8, k9, k10⟩ := hW;  go_simp; refine comes_v ?_; exact ⟨k1, k2, k3, k4, k5, k6, k7, k8, k9, k10⟩))
            (try simp only [Act.put, List.setIfInBounds_toArray, List.set_cons_zero, List.set_cons_succ])
            first | refine wpB_skip 26 rfl (by kernel_rfl) (by kernel_rfl) (by kernel_rfl) (by rfl) ?_ | (refine wpB_text 26 (v := ?_) rfl (by kernel_rfl) (by kernel_rfl) (by kernel_rfl) (by rfl) (fun W hW => ?_) ?_; rotate_left; (obtain ⟨k1, k2, k3, k4, k5, k6, k7, k8, k9, k10⟩ := hW;  go_simp; refine comes_v ?_; exact ⟨k1, k2, k3, k4, k5, k6, k7, k8, k9, k10⟩))
            (try simp only [Act.put, List.setIfInBounds_toArray, List.set_cons_zero, List.set_cons_succ])
            refine wpB_done (by kernel_rfl) ?_ _
            intro W hW; obtain ⟨k1, k2, k3, k4, k5, k6, k7, k8, k9, k10⟩ := hW
            clear e1 e2
            go_wp2_with fail
            go_ret
            exact ⟨ret_bool (by simp [hm]), k1⟩
          · have hd := decide_eq_false hm
            refine wp_region_B (fun W => Below w.heap.size w W ∧ w.heap.size + 3 < W.heap.size ∧ W.cell? ⟨w.heap.size, 0, none⟩ = some (.int .i64 a1) ∧ W.cell? ⟨w.heap.size, 1, none⟩ = some (.int .i64 a2) ∧ W.cell? ⟨w.heap.size + 1, 0, none⟩ = some (.int .i64 b1) ∧ W.cell? ⟨w.heap.size + 1, 1, none⟩ = some (.int .i64 b2) ∧ W.cell? ⟨w.heap.size + 2, 0, none⟩ = some (.int .i64 c1) ∧ W.cell? ⟨w.heap.size + 2, 1, none⟩ = some (.int .i64 c2) ∧ W.cell? ⟨w.heap.size + 3, 0, none⟩ = some (.int .i64 d1) ∧ W.cell? ⟨w.heap.size + 3, 1, none⟩ = some (.int .i64 d2)) (by kernel_rfl) (held4 hS ((Below.refl _ _).drew)) ?_
            first | refine wpB_skip 0 rfl (by kernel_rfl) (by kernel_rfl) (by kernel_rfl) (by rfl) ?_ | (refine wpB_text 0 (v := ?_) rfl (by kernel_rfl) (by kernel_rfl) (by kernel_rfl) (by rfl) (fun W hW => ?_) ?_; rotate_left; (obtain ⟨k1, k2, k3, k4, k5, k6, k7, k8, k9, k10⟩ := hW;  go_simp; refine comes_v ?_; exact ⟨k1, k2, k3, k4, k5, k6, k7, k8, k9, k10⟩))
            (try simp only [Act.put, List.setIfInBounds_toArray, List.set_cons_zero, List.set_cons_succ])
            first | refine wpB_skip 1 rfl (by kernel_rfl) (by kernel_rfl) (by kernel_rfl) (by rfl) ?_ | (refine wpB_text 1 (v := ?_) rfl (by kernel_rfl) (by kernel_rfl) (by kernel_rfl) (by rfl) (fun W hW => ?_) ?_; rotate_left; (obtain ⟨k1, k2, k3, k4, k5, k6, k7, k8, k9, k10⟩ := hW;  go_simp; refine comes_v ?_; exact ⟨k1, k2, k3, k4, k5, k6, k7, k8, k9, k10⟩))
            (try simp only [Act.put, List.setIfInBounds_toArray, List.set_cons_zero, List.set_cons_succ])
            first | refine wpB_skip 2 rfl (by kernel_rfl) (by kernel_rfl) (by kernel_rfl) (by rfl) ?_ | (refine wpB_text 2 (v := ?_) rfl (by kernel_rfl) (by kernel_rfl) (by kernel_rfl) (by rfl) (fun W hW => ?_) ?_; rotate_left; (obtain ⟨k1, k2, k3, k4, k5, k6, k7, k8, k9, k10⟩ := hW;  go_simp; refine comes_v ?_; exact ⟨k1, k2, k3, k4, k5, k6, k7, k8, k9, k10⟩))
            (try simp only [Act.put, List.setIfInBounds_toArray, List.set_cons_zero, List.set_cons_succ])
            first | refine wpB_skip 3 rfl (by kernel_rfl) (by kernel_rfl) (by kernel_rfl) (by rfl) ?_ | (refine wpB_text 3 (v := .int .i64 t1) rfl (by kernel_rfl) (by kernel_rfl) (by kernel_rfl) (by rfl) (fun W hW => ?_) ?_; (obtain ⟨k1, k2, k3, k4, k5, k6, k7, k8, k9, k10⟩ := hW;  go_simp; exact comes_c ( T1.out _) (fun wn hbn => held4 ⟨k1, k2, k3, k4, k5, k6, k7, k8, k9, k10⟩ hbn)))
            (try simp only [Act.put, List.setIfInBounds_toArray, List.set_cons_zero, List.set_cons_succ])
            first | refine wpB_skip 4 rfl (by kernel_rfl) (by kernel_rfl) (by kernel_rfl) (by rfl) ?_ | (refine wpB_text 4 (v := .int .i64 (sgn t1)) rfl (by kernel_rfl) (by kernel_rfl) (by kernel_rfl) (by rfl) (fun W hW => ?_) ?_; (obtain ⟨k1, k2, k3, k4, k5, k6, k7, k8, k9, k10⟩ := hW;  go_simp; exact comes_q ( l1Sign_any _ _) ⟨k1, k2, k3, k4, k5, k6, k7, k8, k9, k10⟩))
            (try simp only [Act.put, List.setIfInBounds_toArray, List.set_cons_zero, List.set_cons_succ])
            first | refine wpB_skip 5 rfl (by kernel_rfl) (by kernel_rfl) (by kernel_rfl) (by rfl) ?_ | (refine wpB_text 5 (v := ?_) rfl (by kernel_rfl) (by kernel_rfl) (by kernel_rfl) (by rfl) (fun W hW => ?_) ?_; rotate_left; (obtain ⟨k1, k2, k3, k4, k5, k6, k7, k8, k9, k10⟩ := hW;  go_simp; refine comes_v ?_; exact ⟨k1, k2, k3, k4, k5, k6, k7, k8, k9, k10⟩))
            (try simp only [Act.put, List.setIfInBounds_toArray, List.set_cons_zero, List.set_cons_succ])
            first | refine wpB_skip 6 rfl (by kernel_rfl) (by kernel_rfl) (by kernel_rfl) (by rfl) ?_ | (refine wpB_text 6 (v := ?_) rfl (by kernel_rfl) (by kernel_rfl) (by kernel_rfl) (by rfl) (fun W hW => ?_) ?_; rotate_left; (obtain ⟨k1, k2, k3, k4, k5, k6, k7, k8, k9, k10⟩ := hW;  go_simp; refine comes_v ?_; exact ⟨k1, k2, k3, k4, k5, k6, k7, k8, k9, k10⟩))
            (try simp only [Act.put, List.setIfInBounds_toArray, List.set_cons_zero, List.set_cons_succ])
            first | refine wpB_skip 7 rfl (by kernel_rfl) (by kernel_rfl) (by kernel_rfl) (by rfl) ?_ | (refine wpB_text 7 (v := ?_) rfl (by kernel_rfl) (by kernel_rfl) (by kernel_rfl) (by rfl) (fun W hW => ?_) ?_; rotate_left; (obtain ⟨k1, k2, k3, k4, k5, k6, k7, k8, k9, k10⟩ := hW;  go_simp; refine comes_v ?_; exact ⟨k1, k2, k3, k4, k5, k6, k7, k8, k9, k10⟩))
            (try simp only [Act.put, List.setIfInBounds_toArray, List.set_cons_zero, List.set_cons_succ])
            first | refine wpB_skip 8 rfl (by kernel_rfl) (by kernel_rfl) (by kernel_rfl) (by rfl) ?_ | (refine wpB_text 8 (v := .int .i64 t2) rfl (by kernel_rfl) (by kernel_rfl) (by kernel_rfl) (by rfl) (fun W hW => ?_) ?_; (obtain ⟨k1, k2, k3, k4, k5, k6, k7, k8, k9, k10⟩ := hW;  go_simp; exact comes_c ( T2.out _) (fun wn hbn => held4 ⟨k1, k2, k3, k4, k5, k6, k7, k8, k9, k10⟩ hbn)))
            (try simp only [Act.put, List.setIfInBounds_toArray, List.set_cons_zero, List.set_cons_succ])
            first | refine wpB_skip 9 rfl (by kernel_rfl) (by kernel_rfl) (by kernel_rfl) (by rfl) ?_ | (refine wpB_text 9 (v := .int .i64 (sgn t2)) rfl (by kernel_rfl) (by kernel_rfl) (by kernel_rfl) (by rfl) (fun W hW => ?_) ?_; (obtain ⟨k1, k2, k3, k4, k5, k6, k7, k8, k9, k10⟩ := hW;  go_simp; exact comes_q ( l1Sign_any _ _) ⟨k1, k2, k3, k4, k5, k6, k7, k8, k9, k10⟩))
            (try simp only [Act.put, List.setIfInBounds_toArray, List.set_cons_zero, List.set_cons_succ])
            first | refine wpB_skip 10 rfl (by kernel_rfl) (by kernel_rfl) (by kernel_rfl) (by rfl) ?_ | (refine wpB_text 10 (v := ?_) rfl (by kernel_rfl) (by kernel_rfl) (by kernel_rfl) (by rfl) (fun W hW => ?_) ?_; rotate_left; (obtain ⟨k1, k2, k3, k4, k5, k6, k7, k8, k9, k10⟩ := hW;  go_simp; refine comes_v ?_; exact ⟨k1, k2, k3, k4, k5, k6, k7, k8, k9, k10⟩))
            (try simp only [Act.put, List.setIfInBounds_toArray, List.set_cons_zero, List.set_cons_succ])
            first | refine wpB_skip 11 rfl (by kernel_rfl) (by kernel_rfl) (by kernel_rfl) (by rfl) ?_ | (refine wpB_text 11 (v := ?_) rfl (by kernel_rfl) (by kernel_rfl) (by kernel_rfl) (by rfl) (fun W hW => ?_) ?_; rotate_left; (obtain ⟨k1, k2, k3, k4, k5, k6, k7, k8, k9, k10⟩ := hW;  go_simp; refine comes_v ?_; exact ⟨k1, k2, k3, k4, k5, k6, k7, k8, k9, k10⟩))
            (try simp only [Act.put, List.setIfInBounds_toArray, List.set_cons_zero, List.set_cons_succ])
            first | refine wpB_skip 12 rfl (by kernel_rfl) (by kernel_rfl) (by kernel_rfl) (by rfl) ?_ | (refine wpB_text 12 (v := ?_) rfl (by kernel_rfl) (by kernel_rfl) (by kernel_rfl) (by rfl) (fun W hW => ?_) ?_; rotate_left; (obtain ⟨k1, k2, k3, k4, k5, k6, k7, k8, k9, k10⟩ := hW;  go_simp; refine comes_v ?_; exact ⟨k1, k2, k3, k4, k5, k6, k7, k8, k9, k10⟩))
            (try simp only [Act.put, List.setIfInBounds_toArray, List.set_cons_zero, List.set_cons_succ])
            first | refine wpB_skip 13 rfl (by kernel_rfl) (by kernel_rfl) (by kernel_rfl) (by rfl) ?_ | (refine wpB_text 13 (v := ?_) rfl (by kernel_rfl) (by kernel_rfl) (by kernel_rfl) (by rfl) (fun W hW => ?_) ?_; rotate_left; (obtain ⟨k1, k2, k3, k4, k5, k6, k7, k8, k9, k10⟩ := hW;  go_simp; refine comes_v ?_; exact ⟨k1, k2, k3, k4, k5, k6, k7, k8, k9, k10⟩))
            (try simp only [Act.put, List.setIfInBounds_toArray, List.set_cons_zero, List.set_cons_succ])
            first | refine wpB_skip 14 rfl (by kernel_rfl) (by kernel_rfl) (by kernel_rfl) (by rfl) ?_ | (refine wpB_text 14 (v := ?_) rfl (by kernel_rfl) (by kernel_rfl) (by kernel_rfl) (by rfl) (fun W hW => ?_) ?_; rotate_left; (obtain ⟨k1, k2, k3, k4, k5, k6, k7, k8, k9, k10⟩ := hW;  go_simp; refine comes_v ?_; exact ⟨k1, k2, k3, k4, k5, k6, k7, k8, k9, k10⟩))
            (try simp only [Act.put, List.setIfInBounds_toArray, List.set_cons_zero, List.set_cons_succ])
            first | refine wpB_skip 15 rfl (by kernel_rfl) (by kernel_rfl) (by kernel_rfl) (by rfl) ?_ | (refine wpB_text 15 (v := ?_) rfl (by kernel_rfl) (by kernel_rfl) (by kernel_rfl) (by rfl) (fun W hW => ?_) ?_; rotate_left; (obtain ⟨k1, k2, k3, k4, k5, k6, k7, k8, k9, k10⟩ := hW;  go_simp; refine comes_v ?_; exact ⟨k1, k2, k3, k4, k5, k6, k7, k8, k9, k10⟩))
            (try simp only [Act.put, List.setIfInBounds_toArray, List.set_cons_zero, List.set_cons_succ])
            first | refine wpB_skip 16 rfl (by kernel_rfl) (by kernel_rfl) (by kernel_rfl) (by rfl) ?_ | (refine wpB_text 16 (v := .int .i64 t3) rfl (by kernel_rfl) (by kernel_rfl) (by kernel_rfl) (by rfl) (fun W hW => ?_) ?_; (obtain ⟨k1, k2, k3, k4, k5, k6, k7, k8, k9, k10⟩ := hW;  go_simp; exact comes_c ( T3.out _) (fun wn hbn => held4 ⟨k1, k2, k3, k4, k5, k6, k7, k8, k9, k10⟩ hbn)))
            (try simp only [Act.put, List.setIfInBounds_toArray, List.set_cons_zero, List.set_cons_succ])
            first | refine wpB_skip 17 rfl (by kernel_rfl) (by kernel_rfl) (by kernel_rfl) (by rfl) ?_ | (refine wpB_text 17 (v := .int .i64 (sgn t3)) rfl (by kernel_rfl) (by kernel_rfl) (by kernel_rfl) (by rfl) (fun W hW => ?_) ?_; (obtain ⟨k1, k2, k3, k4, k5, k6, k7, k8, k9, k10⟩ := hW;  go_simp; exact comes_q ( l1Sign_any _ _) ⟨k1, k2, k3, k4, k5, k6, k7, k8, k9, k10⟩))
            (try simp only [Act.put, List.setIfInBounds_toArray, List.set_cons_zero, List.set_cons_succ])
            first | refine wpB_skip 18 rfl (by kernel_rfl) (by kernel_rfl) (by kernel_rfl) (by rfl) ?_ | (refine wpB_text 18 (v := ?_) rfl (by kernel_rfl) (by kernel_rfl) (by kernel_rfl) (by rfl) (fun W hW => ?_) ?_; rotate_left; (obtain ⟨k1, k2, k3, k4, k5, k6, k7, k8, k9, k10⟩ := hW;  go_simp; refine comes_v ?_; exact ⟨k1, k2, k3, k4, k5, k6, k7, k8, k9, k10⟩))
            (try simp only [Act.put, List.setIfInBounds_toArray, List.set_cons_zero, List.set_cons_succ])
            first | refine wpB_skip 19 rfl (by kernel_rfl) (by kernel_rfl) (by kernel_rfl) (by rfl) ?_ | (refine wpB_text 19 (v := ?_) rfl (by kernel_rfl) (by kernel_rfl) (by kernel_rfl) (by rfl) (fun W hW => ?_) ?_; rotate_left; (obtain ⟨k1, k2, k3, k4, k5, k6, k7, k8, k9, k10⟩ := hW;  go_simp; refine comes_v ?_; exact ⟨k1, k2, k3, k4, k5, k6, k7, k8, k9, k10⟩))
            (try simp only [Act.put, List.setIfInBounds_toArray, List.set_cons_zero, List.set_cons_succ])
            first | refine wpB_skip 20 rfl (by kernel_rfl) (by kernel_rfl) (by kernel_rfl) (by rfl) ?_ | (refine wpB_text 20 (v := ?_) rfl (by kernel_rfl) (by kernel_rfl) (by kernel_rfl) (by rfl) (fun W hW => ?_) ?_; rotate_left; (obtain ⟨k1, k2, k3, k4, k5, k6, k7, k8, k9, k10⟩ := hW;  go_simp; refine comes_v ?_; exact ⟨k1, k2, k3, k4, k5, k6, k7, k8, k9, k10⟩))
            (try simp only [Act.put, List.setIfInBounds_toArray, List.set_cons_zero, List.set_cons_succ])
            first | refine wpB_skip 21 rfl (by kernel_rfl) (by kernel_rfl) (by kernel_rfl) (by rfl) ?_ | (refine wpB_text 21 (v := .int .i64 t4) rfl (by kernel_rfl) (by kernel_rfl) (by kernel_rfl) (by rfl) (fun W hW => ?_) ?_; (obtain ⟨k1, k2, k3, k4, k5, k6, k7, k8, k9, k10⟩ := hW;  go_simp; exact comes_c ( T4.out _) (fun wn hbn => held4 ⟨k1, k2, k3, k4, k5, k6, k7, k8, k9, k10⟩ hbn)))
            (try simp only [Act.put, List.setIfInBounds_toArray, List.set_cons_zero, List.set_cons_succ])
            first | refine wpB_skip 22 rfl (by kernel_rfl) (by kernel_rfl) (by kernel_rfl) (by rfl) ?_ | (refine wpB_text 22 (v := .int .i64 (sgn t4)) rfl (by kernel_rfl) (by kernel_rfl) (by kernel_rfl) (by rfl) (fun W hW => ?_) ?_; (obtain ⟨k1, k2, k3, k4, k5, k6, k7, k8, k9, k10⟩ := hW;  go_simp; exact comes_q ( l1Sign_any _ _) ⟨k1, k2, k3, k4, k5, k6, k7, k8, k9, k10⟩))
            (try simp only [Act.put, List.setIfInBounds_toArray, List.set_cons_zero, List.set_cons_succ])
            first | refine wpB_skip 23 rfl (by kernel_rfl) (by kernel_rfl) (by kernel_rfl) (by rfl) ?_ | (refine wpB_text 23 (v := ?_) rfl (by kernel_rfl) (by kernel_rfl) (by kernel_rfl) (by rfl) (fun W hW => ?_) ?_; rotate_left; (obtain ⟨k1, k2, k3, k4, k5, k6, k7, k8, k9, k10⟩ := hW;  go_simp; refine comes_v ?_; exact ⟨k1, k2, k3, k4, k5, k6, k7, k8, k9, k10⟩))
            (try simp only [Act.put, List.setIfInBounds_toArray, List.set_cons_zero, List.set_cons_succ])
            first | refine wpB_skip 24 rfl (by kernel_rfl) (by kernel_rfl) (by kernel_rfl) (by rfl) ?_ | (refine wpB_text 24 (v := ?_) rfl (by kernel_rfl) (by kernel_rfl) (by kernel_rfl) (by rfl) (fun W hW => ?_) ?_; rotate_left; (obtain ⟨k1, k2, k3, k4, k5, k6, k7, k8, k9, k10⟩ := hW;  go_simp; refine comes_v ?_; exact ⟨k1, k2, k3, k4, k5, k6, k7, k8, k9, k10⟩))
            (try simp only [Act.put, List.setIfInBounds_toArray, List.set_cons_zero, List.set_cons_succ])
            first | refine wpB_skip 25 rfl (by kernel_rfl) (by kernel_rfl) (by kernel_rfl) (by rfl) ?_ | (refine wpB_text 25 (v := ?_) rfl (by kernel_rfl) (by kernel_rfl) (by kernel_rfl) (by rfl) (fun W hW => ?_) ?_; rotate_left; (obtain ⟨k1, k2, k3, k4, k5, k6, k7, k8, k9, k10⟩ := hW;  go_simp; refine comes_v ?_; exact ⟨k1, k2, k3, k4, k5, k6, k7, k8, k9, k10⟩))
            (try simp only [Act.put, List.setIfInBounds_toArray, List.set_cons_zero, List.set_cons_succ])
            first | refine wpB_skip 26 rfl (by kernel_rfl) (by kernel_rfl) (by kernel_rfl) (by rfl) ?_ | (refine wpB_text 26 (v := ?_) rfl (by kernel_rfl) (by kernel_rfl) (by kernel_rfl) (by rfl) (fun W hW => ?_) ?_; rotate_left; (obtain ⟨k1, k2, k3, k4, k5, k6, k7, k8, k9, k10⟩ := hW;  go_simp; refine comes_v ?_; exact ⟨k1, k2, k3, k4, k5, k6, k7, k8, k9, k10⟩))
            (try simp only [Act.put, List.setIfInBounds_toArray, List.set_cons_zero, List.set_cons_succ])
            refine wpB_done (by kernel_rfl) ?_ _
            intro W hW; obtain ⟨k1, k2, k3, k4, k5, k6, k7, k8, k9, k10⟩ := hW
            clear e1 e2
            go_wp2_with fail
            go_ret
            exact ⟨ret_bool (by simp [hm]), k1⟩
        · refine (K4.out _).mono ?_; rintro e w4 ⟨rfl, hb4⟩
          obtain ⟨hc4, hf4⟩ := bcell hb4
          have z4_0 : w.heap.size < w4.heap.size := by (have := hb4.size; omega)
          have z4_1 : w.heap.size + 1 < w4.heap.size := by (have := hb4.size; omega)
          have z4_2 : w.heap.size + 2 < w4.heap.size := by (have := hb4.size; omega)
          have z4_3 : w.heap.size + 3 < w4.heap.size := by (have := hb4.size; omega)
          have B4 : Below w.heap.size w w4 := B3.trans (hb4.mono (by have := B3.size; omega))
          go_wp2_with fail
          go_ret
          exact ⟨rfl, B4⟩
      · refine (K3.out _).mono ?_; rintro e w3 ⟨rfl, hb3⟩
        obtain ⟨hc3, hf3⟩ := bcell hb3
        have z3_0 : w.heap.size < w3.heap.size := by (have := hb3.size; omega)
        have z3_1 : w.heap.size + 1 < w3.heap.size := by (have := hb3.size; omega)
        have z3_2 : w.heap.size + 2 < w3.heap.size := by (have := hb3.size; omega)
        have z3_3 : w.heap.size + 3 < w3.heap.size := by (have := hb3.size; omega)
        have B3 : Below w.heap.size w w3 := B2.trans (hb3.mono (by have := B2.size; omega))
        go_wp2_with fail
        go_ret
        exact ⟨rfl, B3⟩
    · refine (K2.out _).mono ?_; rintro e w2 ⟨rfl, hb2⟩
      obtain ⟨hc2, hf2⟩ := bcell hb2
      have z2_0 : w.heap.size < w2.heap.size := by (have := hb2.size; omega)
      have z2_1 : w.heap.size + 1 < w2.heap.size := by (have := hb2.size; omega)
      have z2_2 : w.heap.size + 2 < w2.heap.size := by (have := hb2.size; omega)
      have z2_3 : w.heap.size + 3 < w2.heap.size := by (have := hb2.size; omega)
      have B2 : Below w.heap.size w w2 := B1.trans (hb2.mono (by have := B1.size; omega))
      go_wp2_with fail
      go_ret
      exact ⟨rfl, B2⟩
  · go_enter Try.func85, Try.ntmps85
    go_wp2_with fail
    refine (K1.out _).mono ?_; rintro e w1 ⟨rfl, hb1⟩
    obtain ⟨hc1, hf1⟩ := bcell hb1
    have z1_0 : w.heap.size < w1.heap.size := by (have := hb1.size; simp at this; omega)
    have z1_1 : w.heap.size + 1 < w1.heap.size := by (have := hb1.size; simp at this; omega)
    have z1_2 : w.heap.size + 2 < w1.heap.size := by (have := hb1.size; simp at this; omega)
    have z1_3 : w.heap.size + 3 < w1.heap.size := by (have := hb1.size; simp at this; omega)
    have B1 : Below w.heap.size w w1 := (Below.alloc (Below.alloc (Below.alloc (Below.alloc (Below.refl _ _) (by simp <;> omega) _) (by simp <;> omega) _) (by simp <;> omega) _) (by simp <;> omega) _).trans (hb1.mono (by simp <;> omega))
    go_wp2_with fail
    go_ret
    exact ⟨rfl, B1⟩
end Go.Proofs.Ytheddoinnakneaa
/- contract: the model's test of a polygon -/
namespace Go.Proofs.Ytheddoinnakneaa
open Go.ChangeShapes Go.WideShapes Go.ChangeAt Go.RowKit Go.Joins
set_option linter.unusedVariables false
set_option linter.unusedSimpArgs false
set_option maxRecDepth 4000
set_option maxRecDepth 100000 in
set_option maxHeartbeats 4000000 in
theorem pgGood_any (A : Option Addr) (c : Nat) (l : List (Int × Int)) (w : World) (hn : l.length ≤ 1048576) (hcap : l.length ≤ c) (hc2 : c ≤ 9223372036854775807) (hR : Rd w w.heap.size A l) :
    Calls Try.prog 52 #[.slice A l.length c] w fun e w' => e = .returned (.bool (goodB l)) ∧ Below w.heap.size w w' := by
  by_cases hfew : 3 ≤ l.length ∧ l.length ≤ 10
  · have HR := Lib.hid hR
    clear hR
    have hL1 : ((3 : Int) ≤ (l.length : Int)) := by omega
    have hL2 : ((l.length : Int) ≤ 10) := by omega
    have HG := Lib.hid (fun h => goodB_false (l := l) h)
    have HT := Lib.hid (fun h => goodB_true (l := l) h)
    clear hfew
    have hrd : ∀ i, i < l.length → ∃ b off, A = some ⟨b, off, none⟩ ∧ b < w.heap.size ∧ ∀ i, i < l.length → w.cell? ⟨b, off + i * 2, none⟩ = some (.int .i64 (vx l i).1) ∧ w.cell? ⟨b, off + i * 2 + 1, none⟩ = some (.int .i64 (vx l i).2) := fun i hi => by
      obtain ⟨b, off, e, hb, hc⟩ := HR.out (by omega)
      exact ⟨b, off, e, hb, fun i hi => hc i _ (vx_get hi)⟩
    obtain ⟨b, off, rfl, hb, hcell⟩ := hrd 0 (by omega)
    have HC := Lib.hid hcell
    clear hrd hcell HR
    generalize hN : l.length = n at *
    have HN := Lib.hid hN
    clear hN
    go_enter Try.func52, Try.ntmps52
    go_wp2_with fail
    refine (l1In_any _ _ _ _).mono ?_; rintro e _ ⟨rfl, rfl⟩
    go_wp2_with fail
    go_loopg [19] n (fun g i wr => ∃ k : Nat, k ≤ n ∧ g = n - k ∧ i = .int .i64 k ∧ Below w.heap.size w wr ∧ Hid (Fine l k))
    case atStart => exact ⟨0, Nat.zero_le _, rfl, rfl, Below.refl _ _, Lib.hid (fun i h => absurd h (Nat.not_lt_zero _))⟩
    case round =>
      obtain ⟨k, hk, hg, rfl, hB, hF⟩ := hrel
      rename World => wo
      have HGK := Lib.hid hg
      clear hg
      by_cases hlt : k < n
      · have hq1 : wo.cell? ⟨b, off + k * 2, none⟩ = some (.int .i64 (vx l k).1) := (hB.cell (p := ⟨b, off + k * 2, none⟩) hb).trans (HC.out k hlt).1
        have hq2 : wo.cell? ⟨b, off + k * 2 + 1, none⟩ = some (.int .i64 (vx l k).2) := (hB.cell (p := ⟨b, off + k * 2 + 1, none⟩) hb).trans (HC.out k hlt).2
        have K1 := Lib.hid (fun W => pgIs_any (vx l k).1 (vx l k).2 W)
        have hzB := hB.size
        by_cases hpg : isPegB (vx l k).1 (vx l k).2 = true
        · rw [hpg] at K1
          have HPG := Lib.hid hpg
          clear hpg
          go_wp2_with fail
          refine (K1.out _).mono ?_; rintro e w1 ⟨rfl, hb1⟩
          have B1 := (Below.alloc hB hzB (.cells #[.int .i64 (vx l k).1, .int .i64 (vx l k).2] 56)).trans (hb1.mono (by simp; omega))
          have hz1 : wo.heap.size < w1.heap.size := by (have := hb1.size; simp at this; omega)
          have x1 : w1.cell? ⟨wo.heap.size, 0, none⟩ = some (.int .i64 (vx l k).1) := ((bcell hb1).1 _ _ (by simp)).trans (by go_simp)
          have x2 : w1.cell? ⟨wo.heap.size, 1, none⟩ = some (.int .i64 (vx l k).2) := ((bcell hb1).1 _ _ (by simp)).trans (by go_simp)
          clear hq1 hq2 K1 hb1
          go_wp2_with fail
          go_loopg [31] k (fun g2 j wi => ∃ m : Nat, m ≤ k ∧ g2 = k - m ∧ j = .int .i64 m ∧ Below w.heap.size w wi ∧ wo.heap.size < wi.heap.size ∧ wi.cell? ⟨wo.heap.size, 0, none⟩ = some (.int .i64 (vx l k).1) ∧ wi.cell? ⟨wo.heap.size, 1, none⟩ = some (.int .i64 (vx l k).2) ∧ Hid (∀ j, j < m → vx l k ≠ vx l j))
          case atStart => exact ⟨0, Nat.zero_le _, rfl, rfl, B1, hz1, x1, x2, Lib.hid (fun j h => absurd h (Nat.not_lt_zero _))⟩
          case round =>
            obtain ⟨m, hm, hg2, rfl, hBi, hzi, y1, y2, hD⟩ := hrel
            have HGM := Lib.hid hg2
            clear hg2 x1 x2 B1 hz1
            by_cases hlm : m < k
            · obtain ⟨q1, q2, hqe, hq1, hq2⟩ : ∃ q1 q2, vx l m = (q1, q2) ∧ wr.cell? ⟨b, off + m * 2, none⟩ = some (.int .i64 q1) ∧ wr.cell? ⟨b, off + m * 2 + 1, none⟩ = some (.int .i64 q2) :=
                ⟨(vx l m).1, (vx l m).2, rfl, (hBi.cell (p := ⟨b, off + m * 2, none⟩) hb).trans (HC.out m (by omega)).1, (hBi.cell (p := ⟨b, off + m * 2 + 1, none⟩) hb).trans (HC.out m (by omega)).2⟩
              have HQE := Lib.hid hqe
              clear hqe
              by_cases heq : (vx l k).1 = q1 ∧ (vx l k).2 = q2
              · have hng : Hid (goodB l = false) := Lib.hid (HG.out (fun h => h.diff k m hlm (by have := HN.out; omega) (by rw [HQE.out]; exact Prod.ext heq.1 heq.2)))
                obtain ⟨rfl, rfl⟩ := heq
                have B2 := Below.alloc hBi hBi.size (.cells #[.int .i64 (vx l k).1, .int .i64 (vx l k).2] 56)
                go_wp2_with fail
                go_ret
                exact ⟨ret_bool hng.out.symm, B2⟩
              · have hD2 : Hid (∀ j, j < m + 1 → vx l k ≠ vx l j) := Lib.hid (fun j hj => by
                  by_cases hjm : j = m
                  · subst hjm; intro e; rw [HQE.out] at e; exact heq ⟨by rw [e], by rw [e]⟩
                  · exact hD.out j (by omega))
                have B2 := Below.alloc hBi hBi.size (.cells #[.int .i64 q1, .int .i64 q2] 56)
                have z2 : wo.heap.size < (wr.alloc (.cells #[.int .i64 q1, .int .i64 q2] 56)).heap.size := by simp; omega
                have Y3 := Lib.hid ((World.cell?_alloc_lt wr (.cells #[.int .i64 q1, .int .i64 q2] 56) ⟨wo.heap.size, 0, none⟩ hzi).trans y1)
                have Y4 := Lib.hid ((World.cell?_alloc_lt wr (.cells #[.int .i64 q1, .int .i64 q2] 56) ⟨wo.heap.size, 1, none⟩ hzi).trans y2)
                clear hD
                by_cases h1 : (vx l k).1 = q1
                · have h2 : ¬ (vx l k).2 = q2 := fun h => heq ⟨h1, h⟩
                  clear heq
                  subst h1
                  go_wp2_with fail
                  go_roundg (k - (m + 1))
                  case measure => have := HGM.out; omega
                  case rel => exact ⟨m + 1, by omega, rfl, by go_num, B2, z2, Y3.out, Y4.out, hD2⟩
                · clear heq
                  go_wp2_with fail
                  go_roundg (k - (m + 1))
                  case measure => have := HGM.out; omega
                  case rel => exact ⟨m + 1, by omega, rfl, by go_num, B2, z2, Y3.out, Y4.out, hD2⟩
            · have hmk : m = k := by omega
              have hF2 : Hid (Fine l (k + 1)) := Lib.hid (fun i hi => by
                by_cases hik : i = k
                · subst hik; exact ⟨HPG.out, fun j hj => hD.out j (by omega)⟩
                · exact hF.out i (by omega))
              clear hD hF
              go_wp2_with fail
              go_roundg (n - (k + 1))
              case measure => have := HGK.out; omega
              case rel => exact ⟨k + 1, by omega, rfl, by go_num, hBi, hF2⟩
        · have hpf : isPegB (vx l k).1 (vx l k).2 = false := by simpa using hpg
          rw [hpf] at K1
          have hng : Hid (goodB l = false) := Lib.hid (HG.out (fun h => hpg (h.pegs k (by have := HN.out; omega))))
          clear hpg hpf
          go_wp2_with fail
          refine (K1.out _).mono ?_; rintro e w1 ⟨rfl, hb1⟩
          have B1 := (Below.alloc hB hzB (.cells #[.int .i64 (vx l k).1, .int .i64 (vx l k).2] 56)).trans (hb1.mono (by simp; omega))
          go_wp2_with fail
          go_ret
          exact ⟨ret_bool hng.out.symm, B1⟩
      · have hkn : n = k := by omega
        subst hkn
        have HF := hF
        clear hF HGK hlt hk HG
        have HG := Lib.hid (fun h => goodB_false (l := l) h)
        go_wp2_with fail
        go_loopg [42] n (fun g i wr => ∃ k : Nat, k ≤ n ∧ g = n - k ∧ i = .int .i64 k ∧ Below w.heap.size w wr ∧ Hid (Apart l k))
        case atStart => exact ⟨0, Nat.zero_le _, rfl, rfl, hB, Lib.hid (fun i h => absurd h (Nat.not_lt_zero _))⟩
        case round =>
          clear hB
          obtain ⟨k, hk, hg, rfl, hB, hA⟩ := hrel
          rename World => wo
          have HGK := Lib.hid hg
          clear hg
          by_cases hlt : k < n
          · have m1 : (k + 1) % n < n := Nat.mod_lt _ (by omega)
            have m2 : (k + 2) % n < n := Nat.mod_lt _ (by omega)
            have p1 : wo.cell? ⟨b, off + k * 2, none⟩ = some (.int .i64 (vx l k).1) := (hB.cell (p := ⟨b, off + k * 2, none⟩) hb).trans (HC.out k hlt).1
            have p2 : wo.cell? ⟨b, off + k * 2 + 1, none⟩ = some (.int .i64 (vx l k).2) := (hB.cell (p := ⟨b, off + k * 2 + 1, none⟩) hb).trans (HC.out k hlt).2
            have p3 : wo.cell? ⟨b, off + (k + 1) % n * 2, none⟩ = some (.int .i64 (vx l ((k + 1) % n)).1) := (hB.cell (p := ⟨b, off + (k + 1) % n * 2, none⟩) hb).trans (HC.out _ m1).1
            have p4 : wo.cell? ⟨b, off + (k + 1) % n * 2 + 1, none⟩ = some (.int .i64 (vx l ((k + 1) % n)).2) := (hB.cell (p := ⟨b, off + (k + 1) % n * 2 + 1, none⟩) hb).trans (HC.out _ m1).2
            have hzB := hB.size
            have hbo : b < wo.heap.size := by omega
            have i1 : (0 : Int) ≤ ((k : Int) + 1) % (n : Int) := Int.emod_nonneg _ (by omega)
            have i2 : ((k : Int) + 1) % (n : Int) < (n : Int) := Int.emod_lt_of_pos _ (by omega)
            have kp : ∀ W W', (Below w.heap.size w W ∧ wo.heap.size + 1 < W.heap.size ∧ W.cell? ⟨wo.heap.size, 0, none⟩ = some (.int .i64 (vx l k).1) ∧ W.cell? ⟨wo.heap.size, 1, none⟩ = some (.int .i64 (vx l k).2) ∧ W.cell? ⟨wo.heap.size + 1, 0, none⟩ = some (.int .i64 (vx l ((k + 1) % n)).1) ∧ W.cell? ⟨wo.heap.size + 1, 1, none⟩ = some (.int .i64 (vx l ((k + 1) % n)).2)) → Below W.heap.size W W' → (Below w.heap.size w W' ∧ wo.heap.size + 1 < W'.heap.size ∧ W'.cell? ⟨wo.heap.size, 0, none⟩ = some (.int .i64 (vx l k).1) ∧ W'.cell? ⟨wo.heap.size, 1, none⟩ = some (.int .i64 (vx l k).2) ∧ W'.cell? ⟨wo.heap.size + 1, 0, none⟩ = some (.int .i64 (vx l ((k + 1) % n)).1) ∧ W'.cell? ⟨wo.heap.size + 1, 1, none⟩ = some (.int .i64 (vx l ((k + 1) % n)).2)) := fun W W' h hb => by
              obtain ⟨h1, h2, h3, h4, h5, h6⟩ := h
              have hc := (bcell hb).1
              have hz := hb.size
              exact ⟨h1.trans (hb.mono h1.size), by omega, by rw [hc _ _ (by omega), h3], by rw [hc _ _ (by omega), h4], by rw [hc _ _ (by omega), h5], by rw [hc _ _ (by omega), h6]⟩
            have KP := Lib.hid kp
            clear kp
            have bx : (Below w.heap.size w ((wo.alloc (.cells #[.int .i64 (vx l k).1, .int .i64 (vx l k).2] 56)).alloc (.cells #[.int .i64 (vx l ((k + 1) % n)).1, .int .i64 (vx l ((k + 1) % n)).2] 56)) ∧ wo.heap.size + 1 < ((wo.alloc (.cells #[.int .i64 (vx l k).1, .int .i64 (vx l k).2] 56)).alloc (.cells #[.int .i64 (vx l ((k + 1) % n)).1, .int .i64 (vx l ((k + 1) % n)).2] 56)).heap.size ∧ ((wo.alloc (.cells #[.int .i64 (vx l k).1, .int .i64 (vx l k).2] 56)).alloc (.cells #[.int .i64 (vx l ((k + 1) % n)).1, .int .i64 (vx l ((k + 1) % n)).2] 56)).cell? ⟨wo.heap.size, 0, none⟩ = some (.int .i64 (vx l k).1) ∧ ((wo.alloc (.cells #[.int .i64 (vx l k).1, .int .i64 (vx l k).2] 56)).alloc (.cells #[.int .i64 (vx l ((k + 1) % n)).1, .int .i64 (vx l ((k + 1) % n)).2] 56)).cell? ⟨wo.heap.size, 1, none⟩ = some (.int .i64 (vx l k).2) ∧ ((wo.alloc (.cells #[.int .i64 (vx l k).1, .int .i64 (vx l k).2] 56)).alloc (.cells #[.int .i64 (vx l ((k + 1) % n)).1, .int .i64 (vx l ((k + 1) % n)).2] 56)).cell? ⟨wo.heap.size + 1, 0, none⟩ = some (.int .i64 (vx l ((k + 1) % n)).1) ∧ ((wo.alloc (.cells #[.int .i64 (vx l k).1, .int .i64 (vx l k).2] 56)).alloc (.cells #[.int .i64 (vx l ((k + 1) % n)).1, .int .i64 (vx l ((k + 1) % n)).2] 56)).cell? ⟨wo.heap.size + 1, 1, none⟩ = some (.int .i64 (vx l ((k + 1) % n)).2)) :=
              ⟨Below.alloc (Below.alloc hB hzB _) (by simp; omega) _, by simp, by go_simp, by go_simp, by go_simp, by go_simp⟩
            have BX := Lib.hid bx
            clear bx
            have c3 : ∀ W, Below w.heap.size w W → W.cell? ⟨b, off + (k + 2) % n * 2, none⟩ = some (.int .i64 (vx l ((k + 2) % n)).1) ∧ W.cell? ⟨b, off + (k + 2) % n * 2 + 1, none⟩ = some (.int .i64 (vx l ((k + 2) % n)).2) := fun W hW =>
              ⟨(hW.cell (p := ⟨b, off + (k + 2) % n * 2, none⟩) hb).trans (HC.out _ m2).1, (hW.cell (p := ⟨b, off + (k + 2) % n * 2 + 1, none⟩) hb).trans (HC.out _ m2).2⟩
            have C3 := Lib.hid c3
            clear c3
            go_wp2_with fail
            clear p1 p2 p3 p4 i1 i2
            have e1 : IntKind.i64.wrap ((k : Int) + 2) = (k : Int) + 2 := IntWalk.i64_in _ (by omega)
            have e2 : ¬ n = 0 := by omega
            have e3 : (0 : Int) ≤ ((k : Int) + 2) % (n : Int) := Int.emod_nonneg _ (by omega)
            have e4 : ((k : Int) + 2) % (n : Int) < (n : Int) := Int.emod_lt_of_pos _ (by omega)
            have e5 : ((k : Int) + 2).tmod (n : Int) = ((k : Int) + 2) % (n : Int) := Int.tmod_eq_emod_of_nonneg (by omega)
            have e6 : (((k : Int) + 2) % (n : Int)).toNat = (k + 2) % n := by rw [show ((k : Int) + 2) % (n : Int) = (((k + 2) % n : Nat) : Int) by simp]; exact Int.toNat_natCast _
            have z1 := sz_of (x := (vx l k).1) (y := (vx l k).2) (HF.out k hlt).1
            have z2 := sz_of (x := (vx l ((k + 1) % n)).1) (y := (vx l ((k + 1) % n)).2) (HF.out _ m1).1
            have z3 := sz_of (x := (vx l ((k + 2) % n)).1) (y := (vx l ((k + 2) % n)).2) (HF.out _ m2).1
            have T := Lib.hid (fun W => pgTurn_any (vx l k).1 (vx l k).2 (vx l ((k + 1) % n)).1 (vx l ((k + 1) % n)).2 (vx l ((k + 2) % n)).1 (vx l ((k + 2) % n)).2 W z1 z2 z3)
            have ht : twI (vx l k).1 (vx l k).2 (vx l ((k + 1) % n)).1 (vx l ((k + 1) % n)).2 (vx l ((k + 2) % n)).1 (vx l ((k + 2) % n)).2 = twP (vx l k) (vx l (k + 1)) (vx l (k + 2)) := by
              unfold twP; rw [← HN.out, vx_per, vx_per]
            rw [ht] at T
            clear z1 z2 z3 ht
            by_cases hz : twP (vx l k) (vx l (k + 1)) (vx l (k + 2)) = 0
            · rw [hz] at T
              have hng : Hid (goodB l = false) := Lib.hid (HG.out (fun h => h.turn k (by have := HN.out; omega) hz))
              clear hz
              refine wp_region_B (fun W => (Below w.heap.size w W ∧ wo.heap.size + 1 < W.heap.size ∧ W.cell? ⟨wo.heap.size, 0, none⟩ = some (.int .i64 (vx l k).1) ∧ W.cell? ⟨wo.heap.size, 1, none⟩ = some (.int .i64 (vx l k).2) ∧ W.cell? ⟨wo.heap.size + 1, 0, none⟩ = some (.int .i64 (vx l ((k + 1) % n)).1) ∧ W.cell? ⟨wo.heap.size + 1, 1, none⟩ = some (.int .i64 (vx l ((k + 1) % n)).2))) (by kernel_rfl) (KP.out _ _ BX.out ((Below.refl _ _).drew)) ?_
              first | refine wpB_skip 0 rfl (by kernel_rfl) (by kernel_rfl) (by kernel_rfl) (by rfl) ?_ | (refine wpB_text 0 (v := ?_) rfl (by kernel_rfl) (by kernel_rfl) (by kernel_rfl) (by rfl) (fun W hW => ?_) ?_; rotate_left; (obtain ⟨k1, k2, k3, k4, k5, k6⟩ := hW; have c4 := C3.out W k1; go_simp; refine comes_v ?_; exact ⟨k1, k2, k3, k4, k5, k6⟩))
              (try simp only [Act.put, List.setIfInBounds_toArray, List.set_cons_zero, List.set_cons_succ])
              first | refine wpB_skip 1 rfl (by kernel_rfl) (by kernel_rfl) (by kernel_rfl) (by rfl) ?_ | (refine wpB_text 1 (v := ?_) rfl (by kernel_rfl) (by kernel_rfl) (by kernel_rfl) (by rfl) (fun W hW => ?_) ?_; rotate_left; (obtain ⟨k1, k2, k3, k4, k5, k6⟩ := hW; have c4 := C3.out W k1; go_simp; refine comes_v ?_; exact ⟨k1, k2, k3, k4, k5, k6⟩))
              (try simp only [Act.put, List.setIfInBounds_toArray, List.set_cons_zero, List.set_cons_succ])
              first | refine wpB_skip 2 rfl (by kernel_rfl) (by kernel_rfl) (by kernel_rfl) (by rfl) ?_ | (refine wpB_text 2 (v := ?_) rfl (by kernel_rfl) (by kernel_rfl) (by kernel_rfl) (by rfl) (fun W hW => ?_) ?_; rotate_left; (obtain ⟨k1, k2, k3, k4, k5, k6⟩ := hW; have c4 := C3.out W k1; go_simp; refine comes_v ?_; exact ⟨k1, k2, k3, k4, k5, k6⟩))
              (try simp only [Act.put, List.setIfInBounds_toArray, List.set_cons_zero, List.set_cons_succ])
              first | refine wpB_skip 3 rfl (by kernel_rfl) (by kernel_rfl) (by kernel_rfl) (by rfl) ?_ | (refine wpB_text 3 (v := ?_) rfl (by kernel_rfl) (by kernel_rfl) (by kernel_rfl) (by rfl) (fun W hW => ?_) ?_; rotate_left; (obtain ⟨k1, k2, k3, k4, k5, k6⟩ := hW; have c4 := C3.out W k1; go_simp; refine comes_v ?_; exact ⟨k1, k2, k3, k4, k5, k6⟩))
              (try simp only [Act.put, List.setIfInBounds_toArray, List.set_cons_zero, List.set_cons_succ])
              first | refine wpB_skip 4 rfl (by kernel_rfl) (by kernel_rfl) (by kernel_rfl) (by rfl) ?_ | (refine wpB_text 4 (v := ?_) rfl (by kernel_rfl) (by kernel_rfl) (by kernel_rfl) (by rfl) (fun W hW => ?_) ?_; rotate_left; (obtain ⟨k1, k2, k3, k4, k5, k6⟩ := hW; have c4 := C3.out W k1; go_simp; refine comes_v ?_; exact ⟨k1, k2, k3, k4, k5, k6⟩))
              (try simp only [Act.put, List.setIfInBounds_toArray, List.set_cons_zero, List.set_cons_succ])
              first | refine wpB_skip 5 rfl (by kernel_rfl) (by kernel_rfl) (by kernel_rfl) (by rfl) ?_ | (refine wpB_text 5 (v := ?_) rfl (by kernel_rfl) (by kernel_rfl) (by kernel_rfl) (by rfl) (fun W hW => ?_) ?_; rotate_left; (obtain ⟨k1, k2, k3, k4, k5, k6⟩ := hW; have c4 := C3.out W k1; go_simp; refine comes_v ?_; exact ⟨k1, k2, k3, k4, k5, k6⟩))
              (try simp only [Act.put, List.setIfInBounds_toArray, List.set_cons_zero, List.set_cons_succ])
              first | refine wpB_skip 6 rfl (by kernel_rfl) (by kernel_rfl) (by kernel_rfl) (by rfl) ?_ | (refine wpB_text 6 (v := ?_) rfl (by kernel_rfl) (by kernel_rfl) (by kernel_rfl) (by rfl) (fun W hW => ?_) ?_; rotate_left; (obtain ⟨k1, k2, k3, k4, k5, k6⟩ := hW; have c4 := C3.out W k1; go_simp; refine comes_v ?_; exact ⟨k1, k2, k3, k4, k5, k6⟩))
              (try simp only [Act.put, List.setIfInBounds_toArray, List.set_cons_zero, List.set_cons_succ])
              first | refine wpB_skip 7 rfl (by kernel_rfl) (by kernel_rfl) (by kernel_rfl) (by rfl) ?_ | (refine wpB_text 7 (v := ?_) rfl (by kernel_rfl) (by kernel_rfl) (by kernel_rfl) (by rfl) (fun W hW => ?_) ?_; rotate_left; (obtain ⟨k1, k2, k3, k4, k5, k6⟩ := hW; have c4 := C3.out W k1; go_simp; refine comes_v ?_; exact ⟨k1, k2, k3, k4, k5, k6⟩))
              (try simp only [Act.put, List.setIfInBounds_toArray, List.set_cons_zero, List.set_cons_succ])
              first | refine wpB_skip 8 rfl (by kernel_rfl) (by kernel_rfl) (by kernel_rfl) (by rfl) ?_ | (refine wpB_text 8 (v := ?_) rfl (by kernel_rfl) (by kernel_rfl) (by kernel_rfl) (by rfl) (fun W hW => ?_) ?_; rotate_left; (obtain ⟨k1, k2, k3, k4, k5, k6⟩ := hW; have c4 := C3.out W k1; go_simp; refine comes_v ?_; exact ⟨k1, k2, k3, k4, k5, k6⟩))
              (try simp only [Act.put, List.setIfInBounds_toArray, List.set_cons_zero, List.set_cons_succ])
              first | refine wpB_skip 9 rfl (by kernel_rfl) (by kernel_rfl) (by kernel_rfl) (by rfl) ?_ | (refine wpB_text 9 (v := .int .i64 0) rfl (by kernel_rfl) (by kernel_rfl) (by kernel_rfl) (by rfl) (fun W hW => ?_) ?_; (obtain ⟨k1, k2, k3, k4, k5, k6⟩ := hW; have c4 := C3.out W k1; go_simp; exact comes_c ( T.out _) (fun wn hbn => KP.out _ _ ⟨k1, k2, k3, k4, k5, k6⟩ hbn)))
              (try simp only [Act.put, List.setIfInBounds_toArray, List.set_cons_zero, List.set_cons_succ])
              first | refine wpB_skip 10 rfl (by kernel_rfl) (by kernel_rfl) (by kernel_rfl) (by rfl) ?_ | (refine wpB_text 10 (v := ?_) rfl (by kernel_rfl) (by kernel_rfl) (by kernel_rfl) (by rfl) (fun W hW => ?_) ?_; rotate_left; (obtain ⟨k1, k2, k3, k4, k5, k6⟩ := hW; have c4 := C3.out W k1; go_simp; refine comes_v ?_; exact ⟨k1, k2, k3, k4, k5, k6⟩))
              (try simp only [Act.put, List.setIfInBounds_toArray, List.set_cons_zero, List.set_cons_succ])
              refine wpB_done (by kernel_rfl) ?_ _
              intro W hW; obtain ⟨k1, k2, k3, k4, k5, k6⟩ := hW
              go_wp2_with fail
              go_ret
              exact ⟨ret_bool hng.out.symm, k1⟩
            · have HTW : Hid (Turns l k) := Lib.hid hz
              have hzb : (twP (vx l k) (vx l (k + 1)) (vx l (k + 2)) == 0) = false := by simpa using hz
              generalize twP (vx l k) (vx l (k + 1)) (vx l (k + 2)) = t at *
              refine wp_region_B (fun W => (Below w.heap.size w W ∧ wo.heap.size + 1 < W.heap.size ∧ W.cell? ⟨wo.heap.size, 0, none⟩ = some (.int .i64 (vx l k).1) ∧ W.cell? ⟨wo.heap.size, 1, none⟩ = some (.int .i64 (vx l k).2) ∧ W.cell? ⟨wo.heap.size + 1, 0, none⟩ = some (.int .i64 (vx l ((k + 1) % n)).1) ∧ W.cell? ⟨wo.heap.size + 1, 1, none⟩ = some (.int .i64 (vx l ((k + 1) % n)).2))) (by kernel_rfl) (KP.out _ _ BX.out ((Below.refl _ _).drew)) ?_
              first | refine wpB_skip 0 rfl (by kernel_rfl) (by kernel_rfl) (by kernel_rfl) (by rfl) ?_ | (refine wpB_text 0 (v := ?_) rfl (by kernel_rfl) (by kernel_rfl) (by kernel_rfl) (by rfl) (fun W hW => ?_) ?_; rotate_left; (obtain ⟨k1, k2, k3, k4, k5, k6⟩ := hW; have c4 := C3.out W k1; go_simp; refine comes_v ?_; exact ⟨k1, k2, k3, k4, k5, k6⟩))
              (try simp only [Act.put, List.setIfInBounds_toArray, List.set_cons_zero, List.set_cons_succ])
              first | refine wpB_skip 1 rfl (by kernel_rfl) (by kernel_rfl) (by kernel_rfl) (by rfl) ?_ | (refine wpB_text 1 (v := ?_) rfl (by kernel_rfl) (by kernel_rfl) (by kernel_rfl) (by rfl) (fun W hW => ?_) ?_; rotate_left; (obtain ⟨k1, k2, k3, k4, k5, k6⟩ := hW; have c4 := C3.out W k1; go_simp; refine comes_v ?_; exact ⟨k1, k2, k3, k4, k5, k6⟩))
              (try simp only [Act.put, List.setIfInBounds_toArray, List.set_cons_zero, List.set_cons_succ])
              first | refine wpB_skip 2 rfl (by kernel_rfl) (by kernel_rfl) (by kernel_rfl) (by rfl) ?_ | (refine wpB_text 2 (v := ?_) rfl (by kernel_rfl) (by kernel_rfl) (by kernel_rfl) (by rfl) (fun W hW => ?_) ?_; rotate_left; (obtain ⟨k1, k2, k3, k4, k5, k6⟩ := hW; have c4 := C3.out W k1; go_simp; refine comes_v ?_; exact ⟨k1, k2, k3, k4, k5, k6⟩))
              (try simp only [Act.put, List.setIfInBounds_toArray, List.set_cons_zero, List.set_cons_succ])
              first | refine wpB_skip 3 rfl (by kernel_rfl) (by kernel_rfl) (by kernel_rfl) (by rfl) ?_ | (refine wpB_text 3 (v := ?_) rfl (by kernel_rfl) (by kernel_rfl) (by kernel_rfl) (by rfl) (fun W hW => ?_) ?_; rotate_left; (obtain ⟨k1, k2, k3, k4, k5, k6⟩ := hW; have c4 := C3.out W k1; go_simp; refine comes_v ?_; exact ⟨k1, k2, k3, k4, k5, k6⟩))
              (try simp only [Act.put, List.setIfInBounds_toArray, List.set_cons_zero, List.set_cons_succ])
              first | refine wpB_skip 4 rfl (by kernel_rfl) (by kernel_rfl) (by kernel_rfl) (by rfl) ?_ | (refine wpB_text 4 (v := ?_) rfl (by kernel_rfl) (by kernel_rfl) (by kernel_rfl) (by rfl) (fun W hW => ?_) ?_; rotate_left; (obtain ⟨k1, k2, k3, k4, k5, k6⟩ := hW; have c4 := C3.out W k1; go_simp; refine comes_v ?_; exact ⟨k1, k2, k3, k4, k5, k6⟩))
              (try simp only [Act.put, List.setIfInBounds_toArray, List.set_cons_zero, List.set_cons_succ])
              first | refine wpB_skip 5 rfl (by kernel_rfl) (by kernel_rfl) (by kernel_rfl) (by rfl) ?_ | (refine wpB_text 5 (v := ?_) rfl (by kernel_rfl) (by kernel_rfl) (by kernel_rfl) (by rfl) (fun W hW => ?_) ?_; rotate_left; (obtain ⟨k1, k2, k3, k4, k5, k6⟩ := hW; have c4 := C3.out W k1; go_simp; refine comes_v ?_; exact ⟨k1, k2, k3, k4, k5, k6⟩))
              (try simp only [Act.put, List.setIfInBounds_toArray, List.set_cons_zero, List.set_cons_succ])
              first | refine wpB_skip 6 rfl (by kernel_rfl) (by kernel_rfl) (by kernel_rfl) (by rfl) ?_ | (refine wpB_text 6 (v := ?_) rfl (by kernel_rfl) (by kernel_rfl) (by kernel_rfl) (by rfl) (fun W hW => ?_) ?_; rotate_left; (obtain ⟨k1, k2, k3, k4, k5, k6⟩ := hW; have c4 := C3.out W k1; go_simp; refine comes_v ?_; exact ⟨k1, k2, k3, k4, k5, k6⟩))
              (try simp only [Act.put, List.setIfInBounds_toArray, List.set_cons_zero, List.set_cons_succ])
              first | refine wpB_skip 7 rfl (by kernel_rfl) (by kernel_rfl) (by kernel_rfl) (by rfl) ?_ | (refine wpB_text 7 (v := ?_) rfl (by kernel_rfl) (by kernel_rfl) (by kernel_rfl) (by rfl) (fun W hW => ?_) ?_; rotate_left; (obtain ⟨k1, k2, k3, k4, k5, k6⟩ := hW; have c4 := C3.out W k1; go_simp; refine comes_v ?_; exact ⟨k1, k2, k3, k4, k5, k6⟩))
              (try simp only [Act.put, List.setIfInBounds_toArray, List.set_cons_zero, List.set_cons_succ])
              first | refine wpB_skip 8 rfl (by kernel_rfl) (by kernel_rfl) (by kernel_rfl) (by rfl) ?_ | (refine wpB_text 8 (v := ?_) rfl (by kernel_rfl) (by kernel_rfl) (by kernel_rfl) (by rfl) (fun W hW => ?_) ?_; rotate_left; (obtain ⟨k1, k2, k3, k4, k5, k6⟩ := hW; have c4 := C3.out W k1; go_simp; refine comes_v ?_; exact ⟨k1, k2, k3, k4, k5, k6⟩))
              (try simp only [Act.put, List.setIfInBounds_toArray, List.set_cons_zero, List.set_cons_succ])
              first | refine wpB_skip 9 rfl (by kernel_rfl) (by kernel_rfl) (by kernel_rfl) (by rfl) ?_ | (refine wpB_text 9 (v := .int .i64 t) rfl (by kernel_rfl) (by kernel_rfl) (by kernel_rfl) (by rfl) (fun W hW => ?_) ?_; (obtain ⟨k1, k2, k3, k4, k5, k6⟩ := hW; have c4 := C3.out W k1; go_simp; exact comes_c ( T.out _) (fun wn hbn => KP.out _ _ ⟨k1, k2, k3, k4, k5, k6⟩ hbn)))
              (try simp only [Act.put, List.setIfInBounds_toArray, List.set_cons_zero, List.set_cons_succ])
              first | refine wpB_skip 10 rfl (by kernel_rfl) (by kernel_rfl) (by kernel_rfl) (by rfl) ?_ | (refine wpB_text 10 (v := ?_) rfl (by kernel_rfl) (by kernel_rfl) (by kernel_rfl) (by rfl) (fun W hW => ?_) ?_; rotate_left; (obtain ⟨k1, k2, k3, k4, k5, k6⟩ := hW; have c4 := C3.out W k1; go_simp; refine comes_v ?_; exact ⟨k1, k2, k3, k4, k5, k6⟩))
              (try simp only [Act.put, List.setIfInBounds_toArray, List.set_cons_zero, List.set_cons_succ])
              refine wpB_done (by kernel_rfl) ?_ _
              intro W hW; obtain ⟨k1, k2, k3, k4, k5, k6⟩ := hW
              go_wp2_with fail
              clear e1 e2 e3 e4 e5 e6 T hzb
              go_loopg [11] (n + 1 - (k + 2)) (fun g2 j wi => ∃ m : Nat, k + 2 ≤ m ∧ m ≤ n + 1 ∧ g2 = n + 1 - m ∧ j = .int .i64 m ∧ (Below w.heap.size w wi ∧ wo.heap.size + 1 < wi.heap.size ∧ wi.cell? ⟨wo.heap.size, 0, none⟩ = some (.int .i64 (vx l k).1) ∧ wi.cell? ⟨wo.heap.size, 1, none⟩ = some (.int .i64 (vx l k).2) ∧ wi.cell? ⟨wo.heap.size + 1, 0, none⟩ = some (.int .i64 (vx l ((k + 1) % n)).1) ∧ wi.cell? ⟨wo.heap.size + 1, 1, none⟩ = some (.int .i64 (vx l ((k + 1) % n)).2)) ∧ Hid (∀ q, k + 2 ≤ q → q < m → q < n → q + 1 < n + k → meP (vx l k) (vx l (k + 1)) (vx l q) (vx l (q + 1)) = false))
              case atStart => exact ⟨k + 2, by omega, by omega, rfl, by go_num, ⟨k1, k2, k3, k4, k5, k6⟩, Lib.hid (fun q h1 h2 => absurd h2 (by omega))⟩
              case round =>
                clear k1 k2 k3 k4 k5 k6 BX
                obtain ⟨m, hm1, hm2, hg2, rfl, ⟨k1, k2, k3, k4, k5, k6⟩, hM⟩ := hrel
                have HGM := Lib.hid hg2
                clear hg2
                by_cases c1 : m < n
                · by_cases c2 : m + 1 < n + k
                  · have d1 : ((m : Int) < (n : Int)) := by omega
                    have d2 : ((m : Int) - (k : Int) < (n : Int) - 1) := by omega
                    have m3 : (m + 1) % n < n := Nat.mod_lt _ (by omega)
                    have c3 : ∀ W, Below w.heap.size w W → (W.cell? ⟨b, off + m * 2, none⟩ = some (.int .i64 (vx l m).1) ∧ W.cell? ⟨b, off + m * 2 + 1, none⟩ = some (.int .i64 (vx l m).2)) ∧ W.cell? ⟨b, off + (m + 1) % n * 2, none⟩ = some (.int .i64 (vx l ((m + 1) % n)).1) ∧ W.cell? ⟨b, off + (m + 1) % n * 2 + 1, none⟩ = some (.int .i64 (vx l ((m + 1) % n)).2) := fun W hW =>
                      ⟨⟨(hW.cell (p := ⟨b, off + m * 2, none⟩) hb).trans (HC.out _ c1).1, (hW.cell (p := ⟨b, off + m * 2 + 1, none⟩) hb).trans (HC.out _ c1).2⟩, (hW.cell (p := ⟨b, off + (m + 1) % n * 2, none⟩) hb).trans (HC.out _ m3).1, (hW.cell (p := ⟨b, off + (m + 1) % n * 2 + 1, none⟩) hb).trans (HC.out _ m3).2⟩
                    have C5 := Lib.hid c3
                    clear c3
                    have z1 := sz_of (x := (vx l k).1) (y := (vx l k).2) (HF.out k hlt).1
                    have z2 := sz_of (x := (vx l ((k + 1) % n)).1) (y := (vx l ((k + 1) % n)).2) (HF.out _ m1).1
                    have z3 := sz_of (x := (vx l m).1) (y := (vx l m).2) (HF.out _ c1).1
                    have z4 := sz_of (x := (vx l ((m + 1) % n)).1) (y := (vx l ((m + 1) % n)).2) (HF.out _ m3).1
                    have M := Lib.hid (fun W => pgMeet_any (vx l k).1 (vx l k).2 (vx l ((k + 1) % n)).1 (vx l ((k + 1) % n)).2 (vx l m).1 (vx l m).2 (vx l ((m + 1) % n)).1 (vx l ((m + 1) % n)).2 W z1 z2 z3 z4)
                    have ht : meetB (vx l k).1 (vx l k).2 (vx l ((k + 1) % n)).1 (vx l ((k + 1) % n)).2 (vx l m).1 (vx l m).2 (vx l ((m + 1) % n)).1 (vx l ((m + 1) % n)).2 = meP (vx l k) (vx l (k + 1)) (vx l m) (vx l (m + 1)) := by
                      unfold meP; rw [← HN.out, vx_per, vx_per]
                    rw [ht] at M
                    clear z1 z2 z3 z4 ht
                    have hk0 : (Below w.heap.size w wr ∧ wo.heap.size + 1 < wr.heap.size ∧ wr.cell? ⟨wo.heap.size, 0, none⟩ = some (.int .i64 (vx l k).1) ∧ wr.cell? ⟨wo.heap.size, 1, none⟩ = some (.int .i64 (vx l k).2) ∧ wr.cell? ⟨wo.heap.size + 1, 0, none⟩ = some (.int .i64 (vx l ((k + 1) % n)).1) ∧ wr.cell? ⟨wo.heap.size + 1, 1, none⟩ = some (.int .i64 (vx l ((k + 1) % n)).2))
                      := ⟨k1, k2, k3, k4, k5, k6⟩
                    have HK0 := Lib.hid hk0
                    clear hk0
                    by_cases hmt : meP (vx l k) (vx l (k + 1)) (vx l m) (vx l (m + 1)) = true
                    · rw [hmt] at M
                      have hng : Hid (goodB l = false) := Lib.hid (HG.out (fun h => by have := h.apart k m hm1 (by have := HN.out; omega) (by have := HN.out; omega); rw [hmt] at this; cases this))
                      clear hmt
                      go_wp2_with fail
                      have e1 : IntKind.i64.wrap ((m : Int) + 1) = (m : Int) + 1 := IntWalk.i64_in _ (by omega)
                      have e2 : ¬ n = 0 := by omega
                      have e3 : (0 : Int) ≤ ((m : Int) + 1) % (n : Int) := Int.emod_nonneg _ (by omega)
                      have e4 : ((m : Int) + 1) % (n : Int) < (n : Int) := Int.emod_lt_of_pos _ (by omega)
                      have e5 : ((m : Int) + 1).tmod (n : Int) = ((m : Int) + 1) % (n : Int) := Int.tmod_eq_emod_of_nonneg (by omega)
                      have e6 : (((m : Int) + 1) % (n : Int)).toNat = (m + 1) % n := by rw [show ((m : Int) + 1) % (n : Int) = (((m + 1) % n : Nat) : Int) by simp]; exact Int.toNat_natCast _
                      refine wp_region_B (fun W => (Below w.heap.size w W ∧ wo.heap.size + 1 < W.heap.size ∧ W.cell? ⟨wo.heap.size, 0, none⟩ = some (.int .i64 (vx l k).1) ∧ W.cell? ⟨wo.heap.size, 1, none⟩ = some (.int .i64 (vx l k).2) ∧ W.cell? ⟨wo.heap.size + 1, 0, none⟩ = some (.int .i64 (vx l ((k + 1) % n)).1) ∧ W.cell? ⟨wo.heap.size + 1, 1, none⟩ = some (.int .i64 (vx l ((k + 1) % n)).2))) (by kernel_rfl) (KP.out _ _ HK0.out ((Below.refl _ _).drew)) ?_
                      clear k1 k2 k3 k4 k5 k6
                      first | refine wpB_skip 0 rfl (by kernel_rfl) (by kernel_rfl) (by kernel_rfl) (by rfl) ?_ | (refine wpB_text 0 (v := ?_) rfl (by kernel_rfl) (by kernel_rfl) (by kernel_rfl) (by rfl) (fun W hW => ?_) ?_; rotate_left; (obtain ⟨k1, k2, k3, k4, k5, k6⟩ := hW; have c4 := (C5.out W k1).1; have c5 := (C5.out W k1).2; go_simp; refine comes_v ?_; exact ⟨k1, k2, k3, k4, k5, k6⟩))
                      (try simp only [Act.put, List.setIfInBounds_toArray, List.set_cons_zero, List.set_cons_succ])
                      first | refine wpB_skip 1 rfl (by kernel_rfl) (by kernel_rfl) (by kernel_rfl) (by rfl) ?_ | (refine wpB_text 1 (v := ?_) rfl (by kernel_rfl) (by kernel_rfl) (by kernel_rfl) (by rfl) (fun W hW => ?_) ?_; rotate_left; (obtain ⟨k1, k2, k3, k4, k5, k6⟩ := hW; have c4 := (C5.out W k1).1; have c5 := (C5.out W k1).2; go_simp; refine comes_v ?_; exact ⟨k1, k2, k3, k4, k5, k6⟩))
                      (try simp only [Act.put, List.setIfInBounds_toArray, List.set_cons_zero, List.set_cons_succ])
                      first | refine wpB_skip 2 rfl (by kernel_rfl) (by kernel_rfl) (by kernel_rfl) (by rfl) ?_ | (refine wpB_text 2 (v := ?_) rfl (by kernel_rfl) (by kernel_rfl) (by kernel_rfl) (by rfl) (fun W hW => ?_) ?_; rotate_left; (obtain ⟨k1, k2, k3, k4, k5, k6⟩ := hW; have c4 := (C5.out W k1).1; have c5 := (C5.out W k1).2; go_simp; refine comes_v ?_; exact ⟨k1, k2, k3, k4, k5, k6⟩))
                      (try simp only [Act.put, List.setIfInBounds_toArray, List.set_cons_zero, List.set_cons_succ])
                      first | refine wpB_skip 3 rfl (by kernel_rfl) (by kernel_rfl) (by kernel_rfl) (by rfl) ?_ | (refine wpB_text 3 (v := ?_) rfl (by kernel_rfl) (by kernel_rfl) (by kernel_rfl) (by rfl) (fun W hW => ?_) ?_; rotate_left; (obtain ⟨k1, k2, k3, k4, k5, k6⟩ := hW; have c4 := (C5.out W k1).1; have c5 := (C5.out W k1).2; go_simp; refine comes_v ?_; exact ⟨k1, k2, k3, k4, k5, k6⟩))
                      (try simp only [Act.put, List.setIfInBounds_toArray, List.set_cons_zero, List.set_cons_succ])
                      first | refine wpB_skip 4 rfl (by kernel_rfl) (by kernel_rfl) (by kernel_rfl) (by rfl) ?_ | (refine wpB_text 4 (v := ?_) rfl (by kernel_rfl) (by kernel_rfl) (by kernel_rfl) (by rfl) (fun W hW => ?_) ?_; rotate_left; (obtain ⟨k1, k2, k3, k4, k5, k6⟩ := hW; have c4 := (C5.out W k1).1; have c5 := (C5.out W k1).2; go_simp; refine comes_v ?_; exact ⟨k1, k2, k3, k4, k5, k6⟩))
                      (try simp only [Act.put, List.setIfInBounds_toArray, List.set_cons_zero, List.set_cons_succ])
                      first | refine wpB_skip 5 rfl (by kernel_rfl) (by kernel_rfl) (by kernel_rfl) (by rfl) ?_ | (refine wpB_text 5 (v := ?_) rfl (by kernel_rfl) (by kernel_rfl) (by kernel_rfl) (by rfl) (fun W hW => ?_) ?_; rotate_left; (obtain ⟨k1, k2, k3, k4, k5, k6⟩ := hW; have c4 := (C5.out W k1).1; have c5 := (C5.out W k1).2; go_simp; refine comes_v ?_; exact ⟨k1, k2, k3, k4, k5, k6⟩))
                      (try simp only [Act.put, List.setIfInBounds_toArray, List.set_cons_zero, List.set_cons_succ])
                      first | refine wpB_skip 6 rfl (by kernel_rfl) (by kernel_rfl) (by kernel_rfl) (by rfl) ?_ | (refine wpB_text 6 (v := ?_) rfl (by kernel_rfl) (by kernel_rfl) (by kernel_rfl) (by rfl) (fun W hW => ?_) ?_; rotate_left; (obtain ⟨k1, k2, k3, k4, k5, k6⟩ := hW; have c4 := (C5.out W k1).1; have c5 := (C5.out W k1).2; go_simp; refine comes_v ?_; exact ⟨k1, k2, k3, k4, k5, k6⟩))
                      (try simp only [Act.put, List.setIfInBounds_toArray, List.set_cons_zero, List.set_cons_succ])
                      first | refine wpB_skip 7 rfl (by kernel_rfl) (by kernel_rfl) (by kernel_rfl) (by rfl) ?_ | (refine wpB_text 7 (v := ?_) rfl (by kernel_rfl) (by kernel_rfl) (by kernel_rfl) (by rfl) (fun W hW => ?_) ?_; rotate_left; (obtain ⟨k1, k2, k3, k4, k5, k6⟩ := hW; have c4 := (C5.out W k1).1; have c5 := (C5.out W k1).2; go_simp; refine comes_v ?_; exact ⟨k1, k2, k3, k4, k5, k6⟩))
                      (try simp only [Act.put, List.setIfInBounds_toArray, List.set_cons_zero, List.set_cons_succ])
                      first | refine wpB_skip 8 rfl (by kernel_rfl) (by kernel_rfl) (by kernel_rfl) (by rfl) ?_ | (refine wpB_text 8 (v := ?_) rfl (by kernel_rfl) (by kernel_rfl) (by kernel_rfl) (by rfl) (fun W hW => ?_) ?_; rotate_left; (obtain ⟨k1, k2, k3, k4, k5, k6⟩ := hW; have c4 := (C5.out W k1).1; have c5 := (C5.out W k1).2; go_simp; refine comes_v ?_; exact ⟨k1, k2, k3, k4, k5, k6⟩))
                      (try simp only [Act.put, List.setIfInBounds_toArray, List.set_cons_zero, List.set_cons_succ])
                      first | refine wpB_skip 9 rfl (by kernel_rfl) (by kernel_rfl) (by kernel_rfl) (by rfl) ?_ | (refine wpB_text 9 (v := ?_) rfl (by kernel_rfl) (by kernel_rfl) (by kernel_rfl) (by rfl) (fun W hW => ?_) ?_; rotate_left; (obtain ⟨k1, k2, k3, k4, k5, k6⟩ := hW; have c4 := (C5.out W k1).1; have c5 := (C5.out W k1).2; go_simp; refine comes_v ?_; exact ⟨k1, k2, k3, k4, k5, k6⟩))
                      (try simp only [Act.put, List.setIfInBounds_toArray, List.set_cons_zero, List.set_cons_succ])
                      first | refine wpB_skip 10 rfl (by kernel_rfl) (by kernel_rfl) (by kernel_rfl) (by rfl) ?_ | (refine wpB_text 10 (v := ?_) rfl (by kernel_rfl) (by kernel_rfl) (by kernel_rfl) (by rfl) (fun W hW => ?_) ?_; rotate_left; (obtain ⟨k1, k2, k3, k4, k5, k6⟩ := hW; have c4 := (C5.out W k1).1; have c5 := (C5.out W k1).2; go_simp; refine comes_v ?_; exact ⟨k1, k2, k3, k4, k5, k6⟩))
                      (try simp only [Act.put, List.setIfInBounds_toArray, List.set_cons_zero, List.set_cons_succ])
                      first | refine wpB_skip 11 rfl (by kernel_rfl) (by kernel_rfl) (by kernel_rfl) (by rfl) ?_ | (refine wpB_text 11 (v := ?_) rfl (by kernel_rfl) (by kernel_rfl) (by kernel_rfl) (by rfl) (fun W hW => ?_) ?_; rotate_left; (obtain ⟨k1, k2, k3, k4, k5, k6⟩ := hW; have c4 := (C5.out W k1).1; have c5 := (C5.out W k1).2; go_simp; refine comes_v ?_; exact ⟨k1, k2, k3, k4, k5, k6⟩))
                      (try simp only [Act.put, List.setIfInBounds_toArray, List.set_cons_zero, List.set_cons_succ])
                      first | refine wpB_skip 12 rfl (by kernel_rfl) (by kernel_rfl) (by kernel_rfl) (by rfl) ?_ | (refine wpB_text 12 (v := ?_) rfl (by kernel_rfl) (by kernel_rfl) (by kernel_rfl) (by rfl) (fun W hW => ?_) ?_; rotate_left; (obtain ⟨k1, k2, k3, k4, k5, k6⟩ := hW; have c4 := (C5.out W k1).1; have c5 := (C5.out W k1).2; go_simp; refine comes_v ?_; exact ⟨k1, k2, k3, k4, k5, k6⟩))
                      (try simp only [Act.put, List.setIfInBounds_toArray, List.set_cons_zero, List.set_cons_succ])
                      first | refine wpB_skip 13 rfl (by kernel_rfl) (by kernel_rfl) (by kernel_rfl) (by rfl) ?_ | (refine wpB_text 13 (v := .bool true) rfl (by kernel_rfl) (by kernel_rfl) (by kernel_rfl) (by rfl) (fun W hW => ?_) ?_; (obtain ⟨k1, k2, k3, k4, k5, k6⟩ := hW; have c4 := (C5.out W k1).1; have c5 := (C5.out W k1).2; go_simp; exact comes_c ( M.out _) (fun wn hbn => KP.out _ _ ⟨k1, k2, k3, k4, k5, k6⟩ hbn)))
                      (try simp only [Act.put, List.setIfInBounds_toArray, List.set_cons_zero, List.set_cons_succ])
                      refine wpB_done (by kernel_rfl) ?_ _
                      intro W hW; obtain ⟨k1, k2, k3, k4, k5, k6⟩ := hW
                      clear e1 e2 e3 e4 e5 e6
                      go_wp2_with fail
                      go_ret
                      exact ⟨ret_bool hng.out.symm, k1⟩
                    · have hmf : meP (vx l k) (vx l (k + 1)) (vx l m) (vx l (m + 1)) = false := by simpa using hmt
                      rw [hmf] at M
                      have hM2 : Hid (∀ q, k + 2 ≤ q → q < m + 1 → q < n → q + 1 < n + k → meP (vx l k) (vx l (k + 1)) (vx l q) (vx l (q + 1)) = false) := Lib.hid (fun q h1 h2 h3 h4 => by
                        by_cases hqm : q = m
                        · subst hqm; exact hmf
                        · exact hM.out q h1 (by omega) h3 h4)
                      clear hmt hmf hM
                      go_wp2_with fail
                      have e1 : IntKind.i64.wrap ((m : Int) + 1) = (m : Int) + 1 := IntWalk.i64_in _ (by omega)
                      have e2 : ¬ n = 0 := by omega
                      have e3 : (0 : Int) ≤ ((m : Int) + 1) % (n : Int) := Int.emod_nonneg _ (by omega)
                      have e4 : ((m : Int) + 1) % (n : Int) < (n : Int) := Int.emod_lt_of_pos _ (by omega)
                      have e5 : ((m : Int) + 1).tmod (n : Int) = ((m : Int) + 1) % (n : Int) := Int.tmod_eq_emod_of_nonneg (by omega)
                      have e6 : (((m : Int) + 1) % (n : Int)).toNat = (m + 1) % n := by rw [show ((m : Int) + 1) % (n : Int) = (((m + 1) % n : Nat) : Int) by simp]; exact Int.toNat_natCast _
                      refine wp_region_B (fun W => (Below w.heap.size w W ∧ wo.heap.size + 1 < W.heap.size ∧ W.cell? ⟨wo.heap.size, 0, none⟩ = some (.int .i64 (vx l k).1) ∧ W.cell? ⟨wo.heap.size, 1, none⟩ = some (.int .i64 (vx l k).2) ∧ W.cell? ⟨wo.heap.size + 1, 0, none⟩ = some (.int .i64 (vx l ((k + 1) % n)).1) ∧ W.cell? ⟨wo.heap.size + 1, 1, none⟩ = some (.int .i64 (vx l ((k + 1) % n)).2))) (by kernel_rfl) (KP.out _ _ HK0.out ((Below.refl _ _).drew)) ?_
                      clear k1 k2 k3 k4 k5 k6
                      first | refine wpB_skip 0 rfl (by kernel_rfl) (by kernel_rfl) (by kernel_rfl) (by rfl) ?_ | (refine wpB_text 0 (v := ?_) rfl (by kernel_rfl) (by kernel_rfl) (by kernel_rfl) (by rfl) (fun W hW => ?_) ?_; rotate_left; (obtain ⟨k1, k2, k3, k4, k5, k6⟩ := hW; have c4 := (C5.out W k1).1; have c5 := (C5.out W k1).2; go_simp; refine comes_v ?_; exact ⟨k1, k2, k3, k4, k5, k6⟩))
                      (try simp only [Act.put, List.setIfInBounds_toArray, List.set_cons_zero, List.set_cons_succ])
                      first | refine wpB_skip 1 rfl (by kernel_rfl) (by kernel_rfl) (by kernel_rfl) (by rfl) ?_ | (refine wpB_text 1 (v := ?_) rfl (by kernel_rfl) (by kernel_rfl) (by kernel_rfl) (by rfl) (fun W hW => ?_) ?_; rotate_left; (obtain ⟨k1, k2, k3, k4, k5, k6⟩ := hW; have c4 := (C5.out W k1).1; have c5 := (C5.out W k1).2; go_simp; refine comes_v ?_; exact ⟨k1, k2, k3, k4, k5, k6⟩))
                      (try simp only [Act.put, List.setIfInBounds_toArray, List.set_cons_zero, List.set_cons_succ])
                      first | refine wpB_skip 2 rfl (by kernel_rfl) (by kernel_rfl) (by kernel_rfl) (by rfl) ?_ | (refine wpB_text 2 (v := ?_) rfl (by kernel_rfl) (by kernel_rfl) (by kernel_rfl) (by rfl) (fun W hW => ?_) ?_; rotate_left; (obtain ⟨k1, k2, k3, k4, k5, k6⟩ := hW; have c4 := (C5.out W k1).1; have c5 := (C5.out W k1).2; go_simp; refine comes_v ?_; exact ⟨k1, k2, k3, k4, k5, k6⟩))
                      (try simp only [Act.put, List.setIfInBounds_toArray, List.set_cons_zero, List.set_cons_succ])
                      first | refine wpB_skip 3 rfl (by kernel_rfl) (by kernel_rfl) (by kernel_rfl) (by rfl) ?_ | (refine wpB_text 3 (v := ?_) rfl (by kernel_rfl) (by kernel_rfl) (by kernel_rfl) (by rfl) (fun W hW => ?_) ?_; rotate_left; (obtain ⟨k1, k2, k3, k4, k5, k6⟩ := hW; have c4 := (C5.out W k1).1; have c5 := (C5.out W k1).2; go_simp; refine comes_v ?_; exact ⟨k1, k2, k3, k4, k5, k6⟩))
                      (try simp only [Act.put, List.setIfInBounds_toArray, List.set_cons_zero, List.set_cons_succ])
                      first | refine wpB_skip 4 rfl (by kernel_rfl) (by kernel_rfl) (by kernel_rfl) (by rfl) ?_ | (refine wpB_text 4 (v := ?_) rfl (by kernel_rfl) (by kernel_rfl) (by kernel_rfl) (by rfl) (fun W hW => ?_) ?_; rotate_left; (obtain ⟨k1, k2, k3, k4, k5, k6⟩ := hW; have c4 := (C5.out W k1).1; have c5 := (C5.out W k1).2; go_simp; refine comes_v ?_; exact ⟨k1, k2, k3, k4, k5, k6⟩))
                      (try simp only [Act.put, List.setIfInBounds_toArray, List.set_cons_zero, List.set_cons_succ])
                      first | refine wpB_skip 5 rfl (by kernel_rfl) (by kernel_rfl) (by kernel_rfl) (by rfl) ?_ | (refine wpB_text 5 (v := ?_) rfl (by kernel_rfl) (by kernel_rfl) (by kernel_rfl) (by rfl) (fun W hW => ?_) ?_; rotate_left; (obtain ⟨k1, k2, k3, k4, k5, k6⟩ := hW; have c4 := (C5.out W k1).1; have c5 := (C5.out W k1).2; go_simp; refine comes_v ?_; exact ⟨k1, k2, k3, k4, k5, k6⟩))
                      (try simp only [Act.put, List.setIfInBounds_toArray, List.set_cons_zero, List.set_cons_succ])
                      first | refine wpB_skip 6 rfl (by kernel_rfl) (by kernel_rfl) (by kernel_rfl) (by rfl) ?_ | (refine wpB_text 6 (v := ?_) rfl (by kernel_rfl) (by kernel_rfl) (by kernel_rfl) (by rfl) (fun W hW => ?_) ?_; rotate_left; (obtain ⟨k1, k2, k3, k4, k5, k6⟩ := hW; have c4 := (C5.out W k1).1; have c5 := (C5.out W k1).2; go_simp; refine comes_v ?_; exact ⟨k1, k2, k3, k4, k5, k6⟩))
                      (try simp only [Act.put, List.setIfInBounds_toArray, List.set_cons_zero, List.set_cons_succ])
                      first | refine wpB_skip 7 rfl (by kernel_rfl) (by kernel_rfl) (by kernel_rfl) (by rfl) ?_ | (refine wpB_text 7 (v := ?_) rfl (by kernel_rfl) (by kernel_rfl) (by kernel_rfl) (by rfl) (fun W hW => ?_) ?_; rotate_left; (obtain ⟨k1, k2, k3, k4, k5, k6⟩ := hW; have c4 := (C5.out W k1).1; have c5 := (C5.out W k1).2; go_simp; refine comes_v ?_; exact ⟨k1, k2, k3, k4, k5, k6⟩))
                      (try simp only [Act.put, List.setIfInBounds_toArray, List.set_cons_zero, List.set_cons_succ])
                      first | refine wpB_skip 8 rfl (by kernel_rfl) (by kernel_rfl) (by kernel_rfl) (by rfl) ?_ | (refine wpB_text 8 (v := ?_) rfl (by kernel_rfl) (by kernel_rfl) (by kernel_rfl) (by rfl) (fun W hW => ?_) ?_; rotate_left; (obtain ⟨k1, k2, k3, k4, k5, k6⟩ := hW; have c4 := (C5.out W k1).1; have c5 := (C5.out W k1).2; go_simp; refine comes_v ?_; exact ⟨k1, k2, k3, k4, k5, k6⟩))
                      (try simp only [Act.put, List.setIfInBounds_toArray, List.set_cons_zero, List.set_cons_succ])
                      first | refine wpB_skip 9 rfl (by kernel_rfl) (by kernel_rfl) (by kernel_rfl) (by rfl) ?_ | (refine wpB_text 9 (v := ?_) rfl (by kernel_rfl) (by kernel_rfl) (by kernel_rfl) (by rfl) (fun W hW => ?_) ?_; rotate_left; (obtain ⟨k1, k2, k3, k4, k5, k6⟩ := hW; have c4 := (C5.out W k1).1; have c5 := (C5.out W k1).2; go_simp; refine comes_v ?_; exact ⟨k1, k2, k3, k4, k5, k6⟩))
                      (try simp only [Act.put, List.setIfInBounds_toArray, List.set_cons_zero, List.set_cons_succ])
                      first | refine wpB_skip 10 rfl (by kernel_rfl) (by kernel_rfl) (by kernel_rfl) (by rfl) ?_ | (refine wpB_text 10 (v := ?_) rfl (by kernel_rfl) (by kernel_rfl) (by kernel_rfl) (by rfl) (fun W hW => ?_) ?_; rotate_left; (obtain ⟨k1, k2, k3, k4, k5, k6⟩ := hW; have c4 := (C5.out W k1).1; have c5 := (C5.out W k1).2; go_simp; refine comes_v ?_; exact ⟨k1, k2, k3, k4, k5, k6⟩))
                      (try simp only [Act.put, List.setIfInBounds_toArray, List.set_cons_zero, List.set_cons_succ])
                      first | refine wpB_skip 11 rfl (by kernel_rfl) (by kernel_rfl) (by kernel_rfl) (by rfl) ?_ | (refine wpB_text 11 (v := ?_) rfl (by kernel_rfl) (by kernel_rfl) (by kernel_rfl) (by rfl) (fun W hW => ?_) ?_; rotate_left; (obtain ⟨k1, k2, k3, k4, k5, k6⟩ := hW; have c4 := (C5.out W k1).1; have c5 := (C5.out W k1).2; go_simp; refine comes_v ?_; exact ⟨k1, k2, k3, k4, k5, k6⟩))
                      (try simp only [Act.put, List.setIfInBounds_toArray, List.set_cons_zero, List.set_cons_succ])
                      first | refine wpB_skip 12 rfl (by kernel_rfl) (by kernel_rfl) (by kernel_rfl) (by rfl) ?_ | (refine wpB_text 12 (v := ?_) rfl (by kernel_rfl) (by kernel_rfl) (by kernel_rfl) (by rfl) (fun W hW => ?_) ?_; rotate_left; (obtain ⟨k1, k2, k3, k4, k5, k6⟩ := hW; have c4 := (C5.out W k1).1; have c5 := (C5.out W k1).2; go_simp; refine comes_v ?_; exact ⟨k1, k2, k3, k4, k5, k6⟩))
                      (try simp only [Act.put, List.setIfInBounds_toArray, List.set_cons_zero, List.set_cons_succ])
                      first | refine wpB_skip 13 rfl (by kernel_rfl) (by kernel_rfl) (by kernel_rfl) (by rfl) ?_ | (refine wpB_text 13 (v := .bool false) rfl (by kernel_rfl) (by kernel_rfl) (by kernel_rfl) (by rfl) (fun W hW => ?_) ?_; (obtain ⟨k1, k2, k3, k4, k5, k6⟩ := hW; have c4 := (C5.out W k1).1; have c5 := (C5.out W k1).2; go_simp; exact comes_c ( M.out _) (fun wn hbn => KP.out _ _ ⟨k1, k2, k3, k4, k5, k6⟩ hbn)))
                      (try simp only [Act.put, List.setIfInBounds_toArray, List.set_cons_zero, List.set_cons_succ])
                      refine wpB_done (by kernel_rfl) ?_ _
                      intro W hW; obtain ⟨k1, k2, k3, k4, k5, k6⟩ := hW
                      clear e1 e2 e3 e4 e5 e6
                      go_wp2_with fail
                      go_roundg (n + 1 - (m + 1))
                      case measure => have := HGM.out; omega
                      case rel => exact ⟨m + 1, by omega, by omega, rfl, by go_num, ⟨k1, k2, k3, k4, k5, k6⟩, hM2⟩
                  · have d1 : ((m : Int) < (n : Int)) := by omega
                    have d2 : ¬ ((m : Int) - (k : Int) < (n : Int) - 1) := by omega
                    have hA2 : Hid (Apart l (k + 1)) := Lib.hid (fun i hi => by
                      by_cases hik : i = k
                      · subst hik; exact ⟨HTW.out, fun q h1 h2 h3 => hM.out q h1 (by have := HN.out; omega) (by have := HN.out; omega) (by have := HN.out; omega)⟩
                      · exact hA.out i (by omega))
                    go_wp2_with fail
                    go_roundg (n - (k + 1))
                    case measure => have := HGK.out; omega
                    case rel => exact ⟨k + 1, by omega, rfl, by go_num, k1, hA2⟩
                · have d1 : ¬ ((m : Int) < (n : Int)) := by omega
                  have hA2 : Hid (Apart l (k + 1)) := Lib.hid (fun i hi => by
                    by_cases hik : i = k
                    · subst hik; exact ⟨HTW.out, fun q h1 h2 h3 => hM.out q h1 (by have := HN.out; omega) (by have := HN.out; omega) (by have := HN.out; omega)⟩
                    · exact hA.out i (by omega))
                  go_wp2_with fail
                  go_roundg (n - (k + 1))
                  case measure => have := HGK.out; omega
                  case rel => exact ⟨k + 1, by omega, rfl, by go_num, k1, hA2⟩
          · have hkn : n = k := by omega
            subst hkn
            have hgood : Hid (goodB l = true) := Lib.hid (HT.out (by
              have hN := HN.out
              exact ⟨by omega, fun i hi => (HF.out i (by omega)).1, fun i j hj hi => (HF.out i (by omega)).2 j hj, fun i hi => (hA.out i (by omega)).1, fun i q h1 h2 h3 => (hA.out i (by omega)).2 q h1 h2 h3⟩))
            go_wp2_with fail
            go_ret
            exact ⟨ret_bool hgood.out.symm, hB⟩
  · have hng : ¬ Good l := fun h => hfew h.few
    rw [goodB_false hng]
    have hf : (decide ((3 : Int) ≤ (l.length : Int)) && decide ((l.length : Int) ≤ 10)) = false := by simp; omega
    go_enter Try.func52, Try.ntmps52
    go_wp2_with fail
    refine (l1In_any _ _ _ _).mono ?_; rintro e _ ⟨rfl, rfl⟩
    rw [hf]
    go_wp2_with fail
    go_ret
    exact ⟨rfl, Below.refl _ _⟩
end Go.Proofs.Ytheddoinnakneaa
/- contracts: which lists are triangles, on both sides -/
namespace Go.Proofs.Ytheddoinnakneaa
open Go.ChangeShapes Go.WideShapes Go.ChangeAt Go.RowKit Go.Joins
set_option linter.unusedVariables false
set_option linter.unusedSimpArgs false
set_option maxRecDepth 4000
/-- is a list a triangle? -/
noncomputable def tB (l : List (Int × Int)) : Bool := decide (l.length = 3) && goodB l
/-- a triangle with these corners -/
def Tri (l : List (Int × Int)) (a1 a2 b1 b2 c1 c2 : Int) : Prop := l = [(a1, a2), (b1, b2), (c1, c2)] ∧ Good l
theorem tB_true {l : List (Int × Int)} (h : tB l = true) : ∃ a1 a2 b1 b2 c1 c2, Tri l a1 a2 b1 b2 c1 c2 := by
  unfold tB at h
  rw [Bool.and_eq_true, decide_eq_true_eq] at h
  obtain ⟨h1, h2⟩ := h
  obtain ⟨p, q, r, rfl⟩ : ∃ p q r, l = [p, q, r] := by
    match l, h1 with
    | [p, q, r], _ => exact ⟨p, q, r, rfl⟩
  refine ⟨p.1, p.2, q.1, q.2, r.1, r.2, rfl, ?_⟩
  apply Classical.byContradiction
  intro hn
  rw [goodB_false hn] at h2
  cases h2
theorem tri_tB {l : List (Int × Int)} {a1 a2 b1 b2 c1 c2 : Int} (h : Tri l a1 a2 b1 b2 c1 c2) : tB l = true := by
  unfold tB
  rw [goodB_true h.2, h.1]
  rfl
/-- the corners of a triangle are pegs -/
theorem tri_bd {l : List (Int × Int)} {a1 a2 b1 b2 c1 c2 : Int} (h : Tri l a1 a2 b1 b2 c1 c2) :
    (-40 ≤ a1 ∧ a1 ≤ 40) ∧ (-40 ≤ a2 ∧ a2 ≤ 40) ∧ (-40 ≤ b1 ∧ b1 ≤ 40) ∧ (-40 ≤ b2 ∧ b2 ≤ 40) ∧ (-40 ≤ c1 ∧ c1 ≤ 40) ∧ (-40 ≤ c2 ∧ c2 ≤ 40) := by
  obtain ⟨rfl, hg⟩ := h
  have h0 := hg.pegs 0 (by simp)
  have h1 := hg.pegs 1 (by simp)
  have h2 := hg.pegs 2 (by simp)
  have e0 : vx [(a1, a2), (b1, b2), (c1, c2)] 0 = (a1, a2) := rfl
  have e1 : vx [(a1, a2), (b1, b2), (c1, c2)] 1 = (b1, b2) := rfl
  have e2 : vx [(a1, a2), (b1, b2), (c1, c2)] 2 = (c1, c2) := rfl
  rw [e0] at h0; rw [e1] at h1; rw [e2] at h2
  unfold isPg isPegB at h0 h1 h2
  simp only [Bool.and_eq_true, decide_eq_true_eq] at h0 h1 h2
  exact ⟨h0.1, h0.2, h1.1, h1.2, h2.1, h2.2⟩
/-- three points in memory -/
def Rd3 (w : World) (b off : Nat) (a1 a2 b1 b2 c1 c2 : Int) : Prop :=
  w.cell? ⟨b, off, none⟩ = some (.int .i64 a1) ∧ w.cell? ⟨b, off + 1, none⟩ = some (.int .i64 a2) ∧ w.cell? ⟨b, off + 2, none⟩ = some (.int .i64 b1) ∧ w.cell? ⟨b, off + 3, none⟩ = some (.int .i64 b2) ∧ w.cell? ⟨b, off + 4, none⟩ = some (.int .i64 c1) ∧ w.cell? ⟨b, off + 5, none⟩ = some (.int .i64 c2)
theorem rd3_of {w : World} {A : Option Addr} {a1 a2 b1 b2 c1 c2 : Int} (hR : Rd w w.heap.size A [(a1, a2), (b1, b2), (c1, c2)]) :
    ∃ b off, A = some ⟨b, off, none⟩ ∧ b < w.heap.size ∧ Hid (∀ W, Below w.heap.size w W → Rd3 W b off a1 a2 b1 b2 c1 c2) := by
  obtain ⟨b, off, e, hb, hc⟩ := hR (by simp)
  refine ⟨b, off, e, hb, Lib.hid fun W hW => ?_⟩
  have c := fun o => hW.cell (p := ⟨b, o, none⟩) hb
  have h0 := hc 0 _ rfl
  have h1 := hc 1 _ rfl
  have h2 := hc 2 _ rfl
  simp only [Nat.zero_mul, Nat.add_zero, Nat.one_mul] at h0 h1 h2
  exact ⟨(c _).trans h0.1, (c _).trans h0.2, (c _).trans h1.1, (c _).trans h1.2, (c _).trans h2.1, (c _).trans h2.2⟩
/-- what the program makes of a list: a triangle, or zeros and no -/
def threeV (b : Bool) (a1 a2 b1 b2 c1 c2 : Int) : Value := .tuple #[.agg #[.int .i64 a1, .int .i64 a2, .int .i64 b1, .int .i64 b2, .int .i64 c1, .int .i64 c2], .bool b]
end Go.Proofs.Ytheddoinnakneaa
/- contracts: sums and differences of points; a triangle's area and sum -/
namespace Go.Proofs.Ytheddoinnakneaa
open Go.ChangeShapes Go.WideShapes Go.ChangeAt Go.RowKit Go.Joins
set_option linter.unusedVariables false
set_option linter.unusedSimpArgs false
set_option maxRecDepth 4000
/-- a triangle as a value -/
def thr (a1 a2 b1 b2 c1 c2 : Int) : Value := .agg #[.int .i64 a1, .int .i64 a2, .int .i64 b1, .int .i64 b2, .int .i64 c1, .int .i64 c2]
end Go.Proofs.Ytheddoinnakneaa
/- contracts: what the program makes of a list that is a triangle, and of others -/
namespace Go.Proofs.Ytheddoinnakneaa
open Go.ChangeShapes Go.WideShapes Go.ChangeAt Go.RowKit Go.Joins
set_option linter.unusedVariables false
set_option linter.unusedSimpArgs false
set_option maxRecDepth 4000
theorem tri_sz {l : List (Int × Int)} {a1 a2 b1 b2 c1 c2 : Int} (h : Tri l a1 a2 b1 b2 c1 c2) : Sz a1 a2 ∧ Sz b1 b2 ∧ Sz c1 c2 := by
  have := tri_bd h
  unfold Sz
  omega
theorem tri_area {l : List (Int × Int)} {a1 a2 b1 b2 c1 c2 : Int} (h : Tri l a1 a2 b1 b2 c1 c2) : areaN l = twI a1 a2 b1 b2 c1 c2 := by
  rw [h.1]
  have e : areaN [(a1, a2), (b1, b2), (c1, c2)] = ((0 + cr (a1, a2) (b1, b2)) + cr (b1, b2) (c1, c2)) + cr (c1, c2) (a1, a2) := by
    unfold areaN Sh
    simp only [List.length_cons, List.length_nil, Nat.zero_add, sumTo]
    have e0 : vx [(a1, a2), (b1, b2), (c1, c2)] 0 = (a1, a2) := rfl
    have e1 : vx [(a1, a2), (b1, b2), (c1, c2)] 1 = (b1, b2) := rfl
    have e2 : vx [(a1, a2), (b1, b2), (c1, c2)] (1 + 1) = (c1, c2) := rfl
    have e3 : vx [(a1, a2), (b1, b2), (c1, c2)] (1 + 1 + 1) = (a1, a2) := vx_add [(a1, a2), (b1, b2), (c1, c2)] 0
    rw [e0, e1, e2, e3]
  rw [e]
  unfold cr twI
  grind
def bselB (b v : Bool) : Bool := b && v
theorem bselB_t (v : Bool) : bselB true v = v := rfl
theorem bselB_f (v : Bool) : bselB false v = false := rfl
end Go.Proofs.Ytheddoinnakneaa
/- contracts: BoxOfThree, on both sides -/
namespace Go.Proofs.Ytheddoinnakneaa
open Go.ChangeShapes Go.WideShapes Go.ChangeAt Go.RowKit Go.Joins
set_option linter.unusedVariables false
set_option linter.unusedSimpArgs false
set_option maxRecDepth 4000
/-- what BoxOfThree returns -/
noncomputable def bxS (l : List (Int × Int)) (i : Nat) : Int := if tB l = true then (if i = 0 then (loN l 3).1 else if i = 1 then (loN l 3).2 else if i = 2 then (hiN l 3).1 else (hiN l 3).2) else 0
theorem l1Least_any (a b : Int) (w : World) : Calls Try.prog 115 #[.int .i64 a, .int .i64 b] w fun e w' => e = .returned (.int .i64 (min a b)) ∧ w = w' := by
  by_cases h : a < b
  all_goals
    go_enter Try.func115, Try.ntmps115
    go_wp2
    go_ret
    exact ⟨ret_int (by omega), rfl⟩
end Go.Proofs.Ytheddoinnakneaa
/- contracts: the least and the greatest value, the model; BoxOf, the model -/
namespace Go.Proofs.Ytheddoinnakneaa
open Go.ChangeShapes Go.WideShapes Go.ChangeAt Go.RowKit Go.Joins
set_option linter.unusedVariables false
set_option linter.unusedSimpArgs false
set_option maxRecDepth 4000
set_option maxHeartbeats 2000000 in
theorem wiRange_any (A : Option Addr) (c : Nat) (l : List (Int × Int)) (u v : Int) (w : World) (h1 : -20000 ≤ u) (h2 : u ≤ 20000) (h3 : -20000 ≤ v) (h4 : v ≤ 20000) (hg : Good l) (hR : Rd w w.heap.size A l) :
    Calls Try.prog 73 #[.slice A l.length c, .int .i64 u, .int .i64 v] w fun e w' => e = .returned (.tuple #[.int .i64 (loW l u v l.length), .int .i64 (hiW l u v l.length)]) ∧ Below w.heap.size w w' := by
  have hf := hg.few
  obtain ⟨b, off, rfl, hb, HC⟩ := pts_of (by omega) hR
  have HV := Lib.hid (fun i (hi : i < l.length) => vlu_parts h1 h2 h3 h4 (hg.pegs i hi))
  have HBD := Lib.hid (lohi_bd h1 h2 h3 h4 hg.pegs (by omega))
  have HS : Hid (∀ k, loW l u v (k + 1) = min (loW l u v k) (u * (vx l k).1 + v * (vx l k).2) ∧ hiW l u v (k + 1) = max (hiW l u v k) (u * (vx l k).1 + v * (vx l k).2)) := Lib.hid (fun k => ⟨rfl, rfl⟩)
  have H0 : Hid (loW l u v 0 = u * (vx l 0).1 + v * (vx l 0).2 ∧ hiW l u v 0 = u * (vx l 0).1 + v * (vx l 0).2) := Lib.hid ⟨rfl, rfl⟩
  have KL := Lib.hid (fun a b W => l1Least_any a b W)
  have KM := Lib.hid (fun a b W => l1Most_any a b W)
  have h3l := hf.1
  have h10 := hf.2
  clear hR hf hg h1 h2 h3 h4
  generalize hN : l.length = n at *
  clear hN
  obtain ⟨x0, x1⟩ := HC.out w (Below.refl _ _) 0 (by omega)
  simp only [Nat.zero_mul, Nat.add_zero] at x0 x1
  obtain ⟨⟨p1, p2⟩, p3, p4⟩ := HV.out 0 (by omega)
  have i0 : IntKind.i64.wrap (u * (vx l 0).1) = u * (vx l 0).1 := IntWalk.i64_in _ (by omega)
  have i1 : IntKind.i64.wrap (v * (vx l 0).2) = v * (vx l 0).2 := IntWalk.i64_in _ (by omega)
  have i2 : IntKind.i64.wrap (u * (vx l 0).1 + v * (vx l 0).2) = u * (vx l 0).1 + v * (vx l 0).2 := IntWalk.i64_in _ (by omega)
  have hn0 : 0 < n := by omega
  go_enter Try.func73, Try.ntmps73
  go_wp2_with fail
  go_region
  · skip
    go_wp2_with fail
    clear x0 x1 p1 p2 p3 p4 i0 i1 i2
    go_loopg [8, 9, 29] n (fun gg a b i wr => ∃ k : Nat, k ≤ n ∧ gg = n - k ∧ i = .int .i64 k ∧ a = .int .i64 (loW l u v k) ∧ b = .int .i64 (hiW l u v k) ∧ Below w.heap.size w wr)
    case atStart => exact ⟨0, Nat.zero_le _, rfl, rfl, by rw [H0.out.1], by rw [H0.out.2], by repeat (first | exact Below.refl _ _ | apply Below.drew)⟩
    case round =>
      obtain ⟨k, hk, hgg, rfl, rfl, rfl, hB⟩ := hrel
      rename World => wo
      have HGK := Lib.hid hgg
      clear hgg
      by_cases hlt : k < n
      · obtain ⟨x0, x1⟩ := HC.out wo hB k hlt
        obtain ⟨⟨p1, p2⟩, p3, p4⟩ := HV.out k hlt
        obtain ⟨s1, s2⟩ := HS.out k
        have i0 : IntKind.i64.wrap (u * (vx l k).1) = u * (vx l k).1 := IntWalk.i64_in _ (by omega)
        have i1 : IntKind.i64.wrap (v * (vx l k).2) = v * (vx l k).2 := IntWalk.i64_in _ (by omega)
        have i2 : IntKind.i64.wrap (u * (vx l k).1 + v * (vx l k).2) = u * (vx l k).1 + v * (vx l k).2 := IntWalk.i64_in _ (by omega)
        have hbo : b < wo.heap.size := by have := hB.size; omega
        have hz := hB.size
        clear p1 p2 p3 p4
        go_wp2_with fail
        refine (KL.out _ _ _).mono ?_; rintro e _ ⟨rfl, rfl⟩
        go_wp2_with fail
        refine (KM.out _ _ _).mono ?_; rintro e _ ⟨rfl, rfl⟩
        go_wp2_with fail
        go_roundg (n - (k + 1))
        case measure => have := HGK.out; omega
        case rel => exact ⟨k + 1, by omega, rfl, by go_num, by rw [s1], by rw [s2], by repeat (first | with_reducible assumption | with_reducible exact Below.refl _ _ | with_reducible apply Below.drew | ((with_reducible refine Below.setCell ?_ ?_ _); rotate_left; (first | exact Nat.le_refl _ | omega | (simp <;> omega))) | ((with_reducible refine Below.alloc ?_ ?_ _); rotate_left; (first | omega | (simp <;> omega))))⟩
      · obtain rfl : k = n := by omega
        go_wp2_with fail
        go_ret2
        exact ⟨rfl, hB⟩
end Go.Proofs.Ytheddoinnakneaa
/- contracts: WidthIn, the model -/
namespace Go.Proofs.Ytheddoinnakneaa
open Go.ChangeShapes Go.WideShapes Go.ChangeAt Go.RowKit Go.Joins
set_option linter.unusedVariables false
set_option linter.unusedSimpArgs false
set_option maxRecDepth 4000
theorem wiDirection_any (u v : Int) (w : World) :
    Calls Try.prog 109 #[.int .i64 u, .int .i64 v] w fun e w' => e = .returned (.bool (dirB u v)) ∧ Below w.heap.size w w' := by
  have K1 := Lib.hid (fun W => l1In_any u (-200) 200 W)
  have K2 := Lib.hid (fun W => l1In_any v (-200) 200 W)
  by_cases hu : (decide (-200 ≤ u) && decide (u ≤ 200)) = true
  · by_cases hv : (decide (-200 ≤ v) && decide (v ≤ 200)) = true
    · have KG := Lib.hid (fun W => pgCommon_any u v W (by simp at hu; omega) (by simp at hu; omega) (by simp at hv; omega) (by simp at hv; omega))
      have hd : Hid (dirB u v = decide (Nat.gcd u.natAbs v.natAbs = 1)) := Lib.hid (by unfold dirB; rw [hu, hv]; rfl)
      rw [hu] at K1
      rw [hv] at K2
      clear hu hv
      obtain ⟨g, hgd⟩ : ∃ g, g = Nat.gcd u.natAbs v.natAbs := ⟨_, rfl⟩
      have hq : Hid (decide (Nat.gcd u.natAbs v.natAbs = 1) = ((g : Int) == 1)) := Lib.hid (by
        have hc : ((g : Int) == 1) = decide (g = 1) := by by_cases h : g = 1 <;> simp [h] <;> omega
        rw [hc]; subst hgd; simp only [decide_eq_decide])
      rw [← hgd] at KG
      clear hgd
      go_enter Try.func109, Try.ntmps109
      go_wp2_with fail
      refine (K1.out _).mono ?_; rintro e _ ⟨rfl, rfl⟩
      go_wp2_with fail
      refine (K2.out _).mono ?_; rintro e _ ⟨rfl, rfl⟩
      go_wp2_with fail
      refine (KG.out _).mono ?_; rintro e w1 ⟨rfl, hb1⟩
      go_wp2_with fail
      go_ret
      exact ⟨ret_bool (by rw [hd.out, hq.out]), hb1⟩
    · have hv' : (decide (-200 ≤ v) && decide (v ≤ 200)) = false := by simpa using hv
      have hd : Hid (dirB u v = false) := Lib.hid (by unfold dirB; rw [hv']; simp)
      rw [hu] at K1
      rw [hv'] at K2
      clear hu hv hv'
      go_enter Try.func109, Try.ntmps109
      go_wp2_with fail
      refine (K1.out _).mono ?_; rintro e _ ⟨rfl, rfl⟩
      go_wp2_with fail
      refine (K2.out _).mono ?_; rintro e _ ⟨rfl, rfl⟩
      go_wp2_with fail
      go_ret
      exact ⟨ret_bool (by rw [hd.out]), Below.refl _ _⟩
  · have hu' : (decide (-200 ≤ u) && decide (u ≤ 200)) = false := by simpa using hu
    have hd : Hid (dirB u v = false) := Lib.hid (by unfold dirB; rw [hu']; simp)
    rw [hu'] at K1
    clear hu hu'
    go_enter Try.func109, Try.ntmps109
    go_wp2_with fail
    refine (K1.out _).mono ?_; rintro e _ ⟨rfl, rfl⟩
    go_wp2_with fail
    go_ret
    exact ⟨ret_bool (by rw [hd.out]), Below.refl _ _⟩
theorem wiAsked_any (A : Option Addr) (c : Nat) (l : List (Int × Int)) (u v : Int) (w : World) (hn : l.length ≤ 1048576) (hcap : l.length ≤ c) (hc2 : c ≤ 9223372036854775807) (hR : Rd w w.heap.size A l) :
    Calls Try.prog 68 #[.slice A l.length c, .int .i64 u, .int .i64 v] w fun e w' => e = .returned (.bool (okW l u v)) ∧ Below w.heap.size w w' := by
  have K := Lib.hid (pgGood_any A c l w hn hcap hc2 hR)
  have KD := Lib.hid (fun W => wiDirection_any u v W)
  have hd : Hid (okW l u v = (goodB l && dirB u v)) := Lib.hid rfl
  generalize okW l u v = ok at *
  generalize dirB u v = d at *
  generalize goodB l = g at *
  clear hR
  cases g
  · go_enter Try.func68, Try.ntmps68
    go_wp2_with fail
    refine K.out.mono ?_; rintro e w1 ⟨rfl, hb1⟩
    go_wp2_with fail
    go_ret
    exact ⟨ret_bool (by rw [hd.out]; rfl), hb1⟩
  · go_enter Try.func68, Try.ntmps68
    go_wp2_with fail
    refine K.out.mono ?_; rintro e w1 ⟨rfl, hb1⟩
    go_wp2_with fail
    refine (KD.out _).mono ?_; rintro e w2 ⟨rfl, hb2⟩
    go_wp2_with fail
    go_ret
    exact ⟨ret_bool (by rw [hd.out]; rfl), hb1.trans (hb2.mono hb1.size)⟩
theorem wiWidth_any (A : Option Addr) (c : Nat) (l : List (Int × Int)) (u v : Int) (w : World) (h1 : -20000 ≤ u) (h2 : u ≤ 20000) (h3 : -20000 ≤ v) (h4 : v ≤ 20000) (hg : Good l) (hR : Rd w w.heap.size A l) :
    Calls Try.prog 82 #[.slice A l.length c, .int .i64 u, .int .i64 v] w fun e w' => e = .returned (.int .i64 (hiW l u v l.length - loW l u v l.length)) ∧ Below w.heap.size w w' := by
  have K := Lib.hid (wiRange_any A c l u v w h1 h2 h3 h4 hg hR)
  have hb := lohi_bd h1 h2 h3 h4 hg.pegs (by have := hg.few; omega) l.length (Nat.le_refl _)
  clear hR
  generalize hiW l u v l.length = hi at *
  generalize loW l u v l.length = lo at *
  obtain ⟨⟨q1, q2⟩, ⟨q3, q4⟩, q5⟩ := hb
  have i1 : IntKind.i64.wrap (hi - lo) = hi - lo := IntWalk.i64_in _ (by omega)
  clear q1 q2 q3 q4 q5 h1 h2 h3 h4
  go_enter Try.func82, Try.ntmps82
  go_wp2_with fail
  refine K.out.mono ?_; rintro e w1 ⟨rfl, hb1⟩
  go_wp2_with fail
  go_ret
  exact ⟨rfl, hb1⟩
theorem specWidthIn_any (A : Option Addr) (c : Nat) (l : List (Int × Int)) (u v : Int) (w : World) (hn : l.length ≤ 1048576) (hcap : l.length ≤ c) (hc2 : c ≤ 9223372036854775807) (hR : Rd w w.heap.size A l) :
    Calls Try.prog 50 #[.slice A l.length c, .int .i64 u, .int .i64 v] w fun e w' => e = .returned (.tuple #[.int .i64 (wdS l u v), .bool (okW l u v)]) ∧ Below w.heap.size w w' := by
  have K := Lib.hid (wiAsked_any A c l u v w hn hcap hc2 hR)
  by_cases hk : okW l u v = true
  · have hk2 : goodB l = true ∧ dirB u v = true := by unfold okW at hk; simpa using hk
    obtain ⟨a1, a2, a3, a4, _⟩ := dirB_t hk2.2
    have hg : Good l := by unfold goodB at hk2; simpa using hk2.1
    have K2 := Lib.hid (fun W (hb : Below w.heap.size w W) => wiWidth_any A c l u v W (by omega) (by omega) (by omega) (by omega) hg (rd_more (rd_below hR hb (Nat.le_refl _)) hb.size))
    rw [wdS_t hk, hk]
    rw [hk] at K
    generalize hiW l u v l.length - loW l u v l.length = x at *
    clear hk hk2 hg hR a1 a2 a3 a4
    go_enter Try.func50, Try.ntmps50
    go_wp2_with fail
    refine K.out.mono ?_; rintro e w1 ⟨rfl, hb1⟩
    go_wp2_with fail
    refine (K2.out _ hb1).mono ?_; rintro e w2 ⟨rfl, hb2⟩
    go_wp2_with fail
    go_ret2
    exact ⟨rfl, hb1.trans (hb2.mono hb1.size)⟩
  · have hkf : okW l u v = false := by simpa using hk
    rw [wdS_f hkf, hkf]
    rw [hkf] at K
    clear hk hkf hR
    go_enter Try.func50, Try.ntmps50
    go_wp2_with fail
    refine K.out.mono ?_; rintro e w1 ⟨rfl, hb1⟩
    go_wp2_with fail
    go_ret2
    exact ⟨rfl, hb1⟩
end Go.Proofs.Ytheddoinnakneaa
/- contract: the model's list told backwards -/
namespace Go.Proofs.Ytheddoinnakneaa
open Go.ChangeShapes Go.WideShapes Go.ChangeAt Go.RowKit Go.Joins
set_option linter.unusedVariables false
set_option linter.unusedSimpArgs false
set_option maxRecDepth 4000
/-- corner number n - i: told backwards from the same corner -/
def backF (l : List (Int × Int)) (i : Nat) : Int × Int := vx l (l.length - i)
end Go.Proofs.Ytheddoinnakneaa
/- the first of some points, and lists told from it -/
namespace Go.Proofs.Ytheddoinnakneaa
open Go.ChangeShapes Go.WideShapes Go.ChangeAt Go.RowKit Go.Joins
set_option linter.unusedVariables false
set_option linter.unusedSimpArgs false
set_option maxRecDepth 4000
def ltP (p q : Int × Int) : Bool := decide (p.1 < q.1) || (decide (p.1 = q.1) && decide (p.2 < q.2))
theorem ltP_self (p : Int × Int) : ltP p p = false := by unfold ltP; simp
theorem ltP_eq {p q : Int × Int} (h1 : ltP p q = false) (h2 : ltP q p = false) : p = q := by
  unfold ltP at *
  simp only [Bool.or_eq_false_iff, Bool.and_eq_false_iff, decide_eq_false_iff_not] at h1 h2
  apply Prod.ext <;> omega
theorem ltP_trans {p q r : Int × Int} (h1 : ltP p q = false) (h2 : ltP q r = false) : ltP p r = false := by
  unfold ltP at *
  simp only [Bool.or_eq_false_iff, Bool.and_eq_false_iff, decide_eq_false_iff_not] at h1 h2 ⊢
  omega
/-- the number of the first one of the first k points -/
def minI (f : Nat → Int × Int) : Nat → Nat
  | 0 => 0
  | i + 1 => if ltP (f i) (f (minI f i)) = true then i else minI f i
theorem minI_lt (f : Nat → Int × Int) : ∀ (k : Nat), 0 < k → minI f k < k
  | 0, h => absurd h (Nat.lt_irrefl 0)
  | 1, _ => by
    show (if ltP (f 0) (f 0) = true then 0 else 0) < 1
    split <;> omega
  | k + 2, _ => by
    have := minI_lt f (k + 1) (Nat.succ_pos k)
    show (if ltP (f (k + 1)) (f (minI f (k + 1))) = true then k + 1 else minI f (k + 1)) < k + 2
    split <;> omega
theorem minI_le (f : Nat → Int × Int) : ∀ (k i : Nat), i < k → ltP (f i) (f (minI f k)) = false
  | 0, i, h => absurd h (Nat.not_lt_zero i)
  | k + 1, i, h => by
    show ltP (f i) (f (if ltP (f k) (f (minI f k)) = true then k else minI f k)) = false
    by_cases hl : ltP (f k) (f (minI f k)) = true
    · rw [if_pos hl]
      by_cases hik : i = k
      · rw [hik]; exact ltP_self _
      · have h1 := minI_le f k i (by omega)
        have h2 : ltP (f (minI f k)) (f k) = false := by
          unfold ltP at hl ⊢
          simp only [Bool.or_eq_true, Bool.and_eq_true, decide_eq_true_eq] at hl
          simp only [Bool.or_eq_false_iff, Bool.and_eq_false_iff, decide_eq_false_iff_not]
          omega
        exact ltP_trans h1 h2
    · rw [if_neg hl]
      by_cases hik : i = k
      · rw [hik]; simpa using hl
      · exact minI_le f k i (by omega)
theorem firsts_same {f g : Nat → Int × Int} (n : Nat) (h : ∀ i, i < n → f i = g i) : firsts f n = firsts g n := by
  unfold firsts
  apply List.map_congr_left
  intro i hi
  exact h i (List.mem_range.1 hi)
theorem good_inj {l : List (Int × Int)} (h : Good l) {i j : Nat} (hi : i < l.length) (hj : j < l.length) (e : vx l i = vx l j) : i = j := by
  rcases Nat.lt_trichotomy i j with h1 | h1 | h1
  · exact absurd e.symm (h.diff j i h1 hj)
  · exact h1
  · exact absurd e (h.diff i j h1 hi)
/-- told backwards, the first corner has the number that goes with it -/
theorem first_back {l : List (Int × Int)} (h : Good l) : (l.length - minI (backF l) l.length) % l.length = minI (vx l) l.length := by
  have hn := good_pos h
  have k1 := minI_lt (backF l) l.length hn
  have k2 := minI_lt (vx l) l.length hn
  generalize hk : minI (backF l) l.length = k at *
  generalize hf : minI (vx l) l.length = q at *
  refine good_inj h (Nat.mod_lt _ hn) k2 ?_
  rw [vx_per]
  refine ltP_eq ?_ ?_
  · have h1 := minI_le (backF l) l.length ((l.length - q) % l.length) (Nat.mod_lt _ hn)
    rw [hk] at h1
    have e : backF l ((l.length - q) % l.length) = vx l q := by
      unfold backF
      by_cases h0 : q = 0
      · subst h0
        rw [Nat.sub_zero, Nat.mod_self, Nat.sub_zero]
        have := vx_add l 0
        rw [Nat.zero_add] at this
        exact this
      · rw [Nat.mod_eq_of_lt (by omega), show l.length - (l.length - q) = q by omega]
    rw [e] at h1
    have h2 := minI_le (vx l) l.length ((l.length - k) % l.length) (Nat.mod_lt _ hn)
    rw [hf, vx_per] at h2
    exact h2
  · have h1 := minI_le (backF l) l.length ((l.length - q) % l.length) (Nat.mod_lt _ hn)
    rw [hk] at h1
    have e : backF l ((l.length - q) % l.length) = vx l q := by
      unfold backF
      by_cases h0 : q = 0
      · subst h0
        rw [Nat.sub_zero, Nat.mod_self, Nat.sub_zero]
        have := vx_add l 0
        rw [Nat.zero_add] at this
        exact this
      · rw [Nat.mod_eq_of_lt (by omega), show l.length - (l.length - q) = q by omega]
    rw [e] at h1
    exact h1
theorem mod_back (n q k i : Nat) (hk : k < n) (hq : (n - k) % n = q) (hi : i < n) : (n - (k + i) % n) % n = (q + n - i) % n := by
  by_cases h0 : k = 0
  · subst h0
    rw [Nat.sub_zero, Nat.mod_self] at hq
    subst hq
    rw [Nat.zero_add, Nat.mod_eq_of_lt hi, Nat.zero_add]
  · rw [Nat.mod_eq_of_lt (by omega)] at hq
    subst hq
    by_cases h1 : k + i < n
    · rw [Nat.mod_eq_of_lt h1, show n - k + n - i = n - (k + i) + n by omega, Nat.add_mod_right]
    · rw [show k + i = (k + i - n) + n by omega, Nat.add_mod_right, Nat.mod_eq_of_lt (show k + i - n < n by omega)]
      rw [show n - k + n - i = n - (k + i - n) by omega]
/-- what TellFirst returns -/
def tellF (l : List (Int × Int)) (i : Nat) : Int × Int := if areaN l < 0 then vx l ((minI (vx l) l.length + l.length - i) % l.length) else vx l ((minI (vx l) l.length + i + l.length) % l.length)
theorem tell_back {l : List (Int × Int)} (h : Good l) (ha : areaN l < 0) (i : Nat) (hi : i < l.length) : backF l ((minI (backF l) l.length + i) % l.length) = tellF l i := by
  unfold tellF
  rw [if_pos ha]
  have e := mod_back l.length _ _ i (minI_lt (backF l) l.length (good_pos h)) (first_back h) hi
  rw [← e, vx_per]
  rfl
theorem tell_fore {l : List (Int × Int)} (ha : ¬ areaN l < 0) (i : Nat) : vx l ((minI (vx l) l.length + i) % l.length) = tellF l i := by
  unfold tellF
  rw [if_neg ha, Nat.add_mod_right]
end Go.Proofs.Ytheddoinnakneaa
/- lists of points as cells that are appended; a list told from a corner on -/
namespace Go.Proofs.Ytheddoinnakneaa
open Go.ChangeShapes Go.WideShapes Go.ChangeAt Go.RowKit Go.Joins
set_option linter.unusedVariables false
set_option linter.unusedSimpArgs false
set_option maxRecDepth 4000
/-- the list told from corner k on -/
def rotF (l : List (Int × Int)) (k i : Nat) : Int × Int := vx l ((k + i) % l.length)
theorem rot_list (l : List (Int × Int)) (k : Nat) (hk : k < l.length) : l.drop k ++ l.take k = firsts (rotF l k) l.length := by
  apply List.ext_getElem?
  intro i
  by_cases hi : i < l.length
  · rw [firsts_get _ _ _ hi]
    unfold rotF
    by_cases h1 : i < l.length - k
    · rw [List.getElem?_append_left (by simpa using h1), List.getElem?_drop, Nat.mod_eq_of_lt (by omega)]
      exact vx_get (by omega)
    · rw [List.getElem?_append_right (by simpa using (by omega : l.length - k ≤ i)), List.length_drop, List.getElem?_take, if_pos (by omega)]
      rw [show (k + i) % l.length = i - (l.length - k) by
        rw [show k + i = (i - (l.length - k)) + l.length by omega, Nat.add_mod_right, Nat.mod_eq_of_lt (by omega)]]
      exact vx_get (by omega)
  · rw [List.getElem?_eq_none (by simp; omega), List.getElem?_eq_none (by rw [firsts_len]; omega)]
theorem pt_drop (l : List (Int × Int)) (k i : Nat) (h : k + i < l.length) : pt (l.drop k) i = vx l (k + i) := by
  unfold pt
  rw [List.getElem?_drop, vx_get h]
  rfl
theorem pt_take (l : List (Int × Int)) (k i : Nat) (h : i < k) (hk : k ≤ l.length) : pt (l.take k) i = vx l i := by
  unfold pt
  rw [List.getElem?_take, if_pos h, vx_get (by omega)]
  rfl
/-- what lies behind corner k, as cells -/
theorem drop_cells {w : World} {b off k : Nat} {l : List (Int × Int)} (hk : k ≤ l.length) (h : ∀ i, i < l.length → w.cell? ⟨b, off + i * 2, none⟩ = some (.int .i64 (vx l i).1) ∧ w.cell? ⟨b, off + i * 2 + 1, none⟩ = some (.int .i64 (vx l i).2)) :
    ∀ j u, (flat (l.drop k))[j]? = some u → w.cell? ((⟨b, off + k * 2, none⟩ : Addr).add j) = some u :=
  flat_cells fun i hi => by
    rw [List.length_drop] at hi
    rw [pt_drop l k i (by omega)]
    have := h (k + i) (by omega)
    rw [show off + k * 2 + i * 2 = off + (k + i) * 2 by omega]
    exact this
theorem take_cells {w : World} {b off k : Nat} {l : List (Int × Int)} (hk : k ≤ l.length) (h : ∀ i, i < l.length → w.cell? ⟨b, off + i * 2, none⟩ = some (.int .i64 (vx l i).1) ∧ w.cell? ⟨b, off + i * 2 + 1, none⟩ = some (.int .i64 (vx l i).2)) :
    ∀ j u, (flat (l.take k))[j]? = some u → w.cell? ((⟨b, off, none⟩ : Addr).add j) = some u :=
  flat_cells fun i hi => by
    rw [List.length_take] at hi
    rw [pt_take l k i (by omega) hk]
    exact h i (by omega)
/-- a row to which the list from corner k on is appended, and then the corners ahead -/
theorem row_rot {w : World} {base k : Nat} {v : Value} {l : List (Int × Int)} (hk : k < l.length) (h : w.ownsRow base 56 2 v (0 + (l.length - k) + k) (([] ++ flat (l.drop k)) ++ flat (l.take k))) : Row w base v (rotF l k) l.length := by
  unfold Row
  rw [← rot_list l k hk, flat_app]
  rw [List.nil_append, show 0 + (l.length - k) + k = l.length by omega] at h
  exact h
end Go.Proofs.Ytheddoinnakneaa

