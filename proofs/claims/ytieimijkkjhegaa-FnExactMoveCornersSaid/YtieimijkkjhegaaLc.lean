/- contracts: points brought elsewhere, on both sides -/
import Derived.Test.YtieimijkkjhegaaLa
import Derived.Test.YtieimijkkjhegaaLs
import Derived.Test.YtieimijkkjhegaaX
namespace Go.Proofs.Ytieimijkkjhegaa
open Go.ChangeShapes Go.WideShapes Go.ChangeAt Go.RowKit Go.Joins
set_option linter.unusedVariables false
set_option linter.unusedSimpArgs false
set_option maxRecDepth 4000
/-- where a matrix and a shift bring a point -/
def mapF (a b c d x y : Int) (l : List (Int × Int)) (i : Nat) : Int × Int := (a * (vx l i).1 + b * (vx l i).2 + x, c * (vx l i).1 + d * (vx l i).2 + y)
/-- are the first n of these points pegs? -/
def allB (g : Nat → Int × Int) (n : Nat) : Bool := pegsB (firsts g n)
theorem allB_iff (g : Nat → Int × Int) (n : Nat) : allB g n = true ↔ ∀ i, i < n → isPg (g i) = true := by
  unfold allB
  rw [pegsB_iff, firsts_len]
  constructor
  · intro h i hi
    have := h i hi
    have e := vx_get (l := firsts g n) (i := i) (by rw [firsts_len]; exact hi)
    rw [firsts_get g n i hi] at e
    injection e with e
    rw [e]; exact this
  · intro h i hi
    have e := vx_get (l := firsts g n) (i := i) (by rw [firsts_len]; exact hi)
    rw [firsts_get g n i hi] at e
    injection e with e
    rw [← e]; exact h i hi
theorem retL_of_row {w w' : World} {v : Value} {f : Nat → Int × Int} {k : Nat} (h : Row w' w.heap.size v f k) (hb : Below w.heap.size w w') : RetL w (firsts f k) true (.returned (.tuple #[v, .bool true])) w' := by
  obtain ⟨A, c, rfl, h1, h2, h3⟩ := row_out h
  refine ⟨A, c, by rw [firsts_len], by rw [firsts_len]; exact h1, h2, hb, ?_⟩
  rw [firsts_len]
  exact rw_same h3 fun i hi => (firsts_pt f k i hi).symm
set_option maxHeartbeats 4000000 in
theorem pgMap_any (A : Option Addr) (cp : Nat) (l : List (Int × Int)) (a b c d x y : Int) (w : World) (h1 : 1 ≤ l.length) (hn : l.length ≤ 10) (hp : ∀ i, i < l.length → isPg (vx l i) = true) (hR : Rd w w.heap.size A l)
    (ha : -20 ≤ a ∧ a ≤ 20) (hb : -20 ≤ b ∧ b ≤ 20) (hc : -20 ≤ c ∧ c ≤ 20) (hd : -20 ≤ d ∧ d ≤ 20) (hx : -2000 ≤ x ∧ x ≤ 2000) (hy : -2000 ≤ y ∧ y ≤ 2000) :
    Calls Try.prog 69 #[.slice A l.length cp, .int .i64 a, .int .i64 b, .int .i64 c, .int .i64 d, .int .i64 x, .int .i64 y] w
      (RetL w (sel (allB (mapF a b c d x y l) l.length) (firsts (mapF a b c d x y l) l.length)) (allB (mapF a b c d x y l) l.length)) := by
  obtain ⟨b0, off, rfl, hb0, HC⟩ := pts_of (by omega) hR
  obtain ⟨i0, hi0, hz0, hz1, hz2⟩ := info_parts peg_info
  have HI := Lib.hid (And.intro hi0 (And.intro hz0 (And.intro hz1 hz2)))
  have HP := Lib.hid (fun i hi => (show (-40 ≤ (vx l i).1 ∧ (vx l i).1 ≤ 40) ∧ (-40 ≤ (vx l i).2 ∧ (vx l i).2 ≤ 40) from by
    have := hp i hi
    unfold isPg isPegB at this
    simp only [Bool.and_eq_true, decide_eq_true_eq] at this
    exact this))
  have HM := Lib.hid (fun i => (show mapF a b c d x y l i = (a * (vx l i).1 + b * (vx l i).2 + x, c * (vx l i).1 + d * (vx l i).2 + y) from rfl))
  have HA := Lib.hid (allB_iff (mapF a b c d x y l) l.length)
  have HBD := Lib.hid (And.intro ha (And.intro hb (And.intro hc hd)))
  obtain ⟨x1, x2⟩ := hx
  obtain ⟨y1, y2⟩ := hy
  clear hi0 hz0 hz1 hz2 hR hp ha hb hc hd
  generalize mapF a b c d x y l = f at *
  generalize hN : l.length = n at *
  have HN := Lib.hid hN
  clear hN
  go_enter Try.func69, Try.ntmps69
  go_wp2_with fail
  go_loopg [16, 22] n (fun g s i wr => ∃ (k : Nat) (v : Value), s = v ∧ k ≤ n ∧ g = n - k ∧ i = .int .i64 k ∧ Below w.heap.size w wr ∧ Hid (Row wr w.heap.size v f k) ∧ Hid (∀ i, i < k → isPg (f i) = true))
  case atStart => exact ⟨0, _, rfl, Nat.zero_le _, rfl, rfl, Below.refl _ _, Lib.hid (row_nil w w.heap.size f), Lib.hid (fun i h => absurd h (Nat.not_lt_zero _))⟩
  case round =>
    obtain ⟨k, v, rfl, hk, hg, rfl, hB, hr, hF⟩ := hrel
    rename World => wo
    have HGK := Lib.hid hg
    clear hg
    by_cases hlt : k < n
    · have hq := HC.out wo hB k hlt
      have hfk := HM.out k
      obtain ⟨⟨p1, p2⟩, ⟨p3, p4⟩⟩ := HP.out k hlt
      obtain ⟨⟨a1, a2⟩, ⟨b1, b2⟩, ⟨c1, c2⟩, ⟨d1, d2⟩⟩ := HBD.out
      have m1 := mul_bd (x := a) (y := (vx l k).1) (m := 20) (n := 40) (by omega) (by omega) (by omega) (by omega)
      have m2 := mul_bd (x := b) (y := (vx l k).2) (m := 20) (n := 40) (by omega) (by omega) (by omega) (by omega)
      have m3 := mul_bd (x := c) (y := (vx l k).1) (m := 20) (n := 40) (by omega) (by omega) (by omega) (by omega)
      have m4 := mul_bd (x := d) (y := (vx l k).2) (m := 20) (n := 40) (by omega) (by omega) (by omega) (by omega)
      obtain ⟨m11, m12⟩ := m1
      obtain ⟨m21, m22⟩ := m2
      obtain ⟨m31, m32⟩ := m3
      obtain ⟨m41, m42⟩ := m4
      have hzB := hB.size
      obtain ⟨q1, hq1⟩ : ∃ q, q = a * (vx l k).1 + b * (vx l k).2 + x := ⟨_, rfl⟩
      obtain ⟨q2, hq2⟩ : ∃ q, q = c * (vx l k).1 + d * (vx l k).2 + y := ⟨_, rfl⟩
      have HQ := Lib.hid (And.intro hq1 hq2)
      have K1 := Lib.hid (fun W => pgIs_any (a * (vx l k).1 + b * (vx l k).2 + x) (c * (vx l k).1 + d * (vx l k).2 + y) W)
      have hpe : isPg (f k) = isPegB (a * (vx l k).1 + b * (vx l k).2 + x) (c * (vx l k).1 + d * (vx l k).2 + y) := by rw [hfk]; rfl
      have HFK := Lib.hid hfk
      have B1 := Lib.hid (Below.alloc (Below.alloc hB hzB (.cells #[.int .i64 (vx l k).1, .int .i64 (vx l k).2] 42)) (by simp; omega) (.cells #[.int .i64 (a * (vx l k).1 + b * (vx l k).2 + x), .int .i64 (c * (vx l k).1 + d * (vx l k).2 + y)] 42))
      have R1 := Lib.hid (row_alloc (row_alloc hr.out (.cells #[.int .i64 (vx l k).1, .int .i64 (vx l k).2] 42)) (.cells #[.int .i64 (a * (vx l k).1 + b * (vx l k).2 + x), .int .i64 (c * (vx l k).1 + d * (vx l k).2 + y)] 42))
      clear hfk hq1 hq2
      by_cases hpg : isPg (f k) = true
      · have hF2 : Hid (∀ i, i < k + 1 → isPg (f i) = true) := Lib.hid (fun i hi => by
          by_cases hik : i = k
          · subst hik; exact hpg
          · exact hF.out i (by omega))
        rw [hpe] at hpg
        rw [hpg] at K1
        clear hpe hpg hF
        go_wp2_with fail
        refine (K1.out _).mono ?_; rintro e w1 ⟨rfl, hb1⟩
        have B2 := B1.out.trans (hb1.mono (B1.out.size))
        have R2 := row_below R1.out hb1 (Nat.le_refl _)
        have z2 : wo.heap.size + 1 < w1.heap.size := by (have := hb1.size; simp at this; omega)
        have c0 : w1.cell? ⟨wo.heap.size + 1, 0, none⟩ = some (.int .i64 (a * (vx l k).1 + b * (vx l k).2 + x)) := ((bcell hb1).1 _ _ (by simp)).trans (by go_simp)
        have c1 : w1.cell? ⟨wo.heap.size + 1, 1, none⟩ = some (.int .i64 (c * (vx l k).1 + d * (vx l k).2 + y)) := ((bcell hb1).1 _ _ (by simp)).trans (by go_simp)
        have RA := Lib.hid (row_alloc R2 (.cells #[.int .i64 (a * (vx l k).1 + b * (vx l k).2 + x), .int .i64 (c * (vx l k).1 + d * (vx l k).2 + y)] 42))
        have BA := Lib.hid (Below.alloc B2 B2.size (.cells #[.int .i64 (a * (vx l k).1 + b * (vx l k).2 + x), .int .i64 (c * (vx l k).1 + d * (vx l k).2 + y)] 42))
        have hz1 := B2.size
        clear R2 hb1 B2 K1 B1 R1 hr
        go_wp2_with (at_builtin; refine wpList_append_own _ rfl (.tmp 52) (.tmp 54) 26 rfl w.heap.size 42 i0 (.agg #[.int .i64 0, .int .i64 0]) 2 16 Try.underlying26 HI.out.1 HI.out.2.1 HI.out.2.2.1 HI.out.2.2.2 rfl (by decide) _ k (flat (firsts f k)) rfl RA.out ⟨w1.heap.size, 0, none⟩ 1 1 [.int .i64 (a * (vx l k).1 + b * (vx l k).2 + x), .int .i64 (c * (vx l k).1 + d * (vx l k).2 + y)] rfl rfl (two_cells (by go_simp) (by go_simp)) (two_one _ _) (by unfold maxLen; omega) (by omega) (by simp; omega) ?_)
        intro v' w2 hown hgr _
        have RB := row_push (f := f) (k := k) BA.out RA.out (by rw [HFK.out]; exact hown) hgr
        have R3 := Lib.hid RB.1
        have B3 := RB.2
        clear RB hown hgr hq c0 c1 m11 m12 m21 m22 m31 m32 m41 m42
        go_wp2_with fail
        go_roundg (n - (k + 1))
        case measure => have := HGK.out; omega
        case rel => exact ⟨k + 1, _, rfl, by omega, rfl, by go_num, B3, R3, hF2⟩
      · have hpf : isPg (f k) = false := by simpa using hpg
        have hng : Hid (allB f n = false) := Lib.hid (by
          have h := HA.out
          cases h2 : allB f n
          · rfl
          · exact absurd (h.1 h2 k hlt) hpg)
        rw [hpe] at hpf
        rw [hpf] at K1
        clear hpe hpf hpg hF hr
        go_wp2_with fail
        refine (K1.out _).mono ?_; rintro e w1 ⟨rfl, hb1⟩
        have B2 := B1.out.trans (hb1.mono (B1.out.size))
        go_wp2_with fail
        go_ret2
        rw [hng.out]
        exact retL_nil B2
    · have hkn : n = k := by omega
      subst hkn
      have hy : Hid (allB f n = true) := Lib.hid (HA.out.2 hF.out)
      go_wp2_with fail
      go_ret2
      rw [hy.out]
      exact retL_of_row hr.out hB
end Go.Proofs.Ytieimijkkjhegaa
