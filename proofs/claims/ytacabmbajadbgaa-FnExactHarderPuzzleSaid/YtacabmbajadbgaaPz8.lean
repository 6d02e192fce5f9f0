/- which pegs fit a clue; contracts: on both sides -/
import Derived.Test.YtacabmbajadbgaaPz6
import Derived.Test.YtacabmbajadbgaaPz7
import Derived.Test.YtacabmbajadbgaaM
import Derived.Test.YtacabmbajadbgaaMps
import Derived.Test.YtacabmbajadbgaaTb01
import Derived.Test.YtacabmbajadbgaaTb00
namespace Go.Proofs.Ytacabmbajadbgaa
open Go.ChangeShapes Go.WideShapes Go.ChangeAt Go.RowKit Go.Joins
set_option linter.unusedVariables false
set_option linter.unusedSimpArgs false
set_option maxRecDepth 4000
/-- what a peg has of a clue -/
def vaN (k a b p1 p2 : Int) : Int := if k = 0 then p1 else if k = 1 then p2 else if k = 2 then p1 + p2 else if k = 3 then ((twI 0 0 a b p1 p2).natAbs : Int) else if k = 4 then (p1 - a) * (p1 - a) + (p2 - b) * (p2 - b) else if stepN a b p1 p2 < 2 then 1 else 0
def fitB (k a b c p1 p2 : Int) : Bool := if k < 3 then decide (vaN k a b p1 p2 = a) else decide (vaN k a b p1 p2 = c)
/-- numbers of clues and pegs of boards -/
structure Fit (a b p1 p2 : Int) : Prop where
  a : 0 ≤ a ∧ a ≤ 24
  b : 0 ≤ b ∧ b ≤ 24
  p : 0 ≤ p1 ∧ p1 ≤ 12
  q : 0 ≤ p2 ∧ p2 ≤ 12
theorem fit_sz {a b p1 p2 : Int} (h : Fit a b p1 p2) : Sz a b ∧ Sz p1 p2 := by
  obtain ⟨h1, h2, h3, h4⟩ := h
  unfold Sz
  omega
theorem sz00 : Sz 0 0 := by unfold Sz; omega
theorem tw3_any (a1 a2 b1 b2 c1 c2 : Int) (w : World) (ha : Sz a1 a2) (hb : Sz b1 b2) (hc : Sz c1 c2) :
    Calls Try.prog 121 #[.agg #[.int .i64 a1, .int .i64 a2, .int .i64 b1, .int .i64 b2, .int .i64 c1, .int .i64 c2]] w fun e w' => e = .returned (.int .i64 (twI a1 a2 b1 b2 c1 c2)) ∧ Below w.heap.size w w' := by
  have K := Lib.hid (fun W => twiceThree_any a1 a2 b1 b2 c1 c2 W ha hb hc)
  clear ha hb hc
  go_enter Try.func121, Try.ntmps121
  go_wp2_with fail
  refine (K.out _).mono ?_; rintro e w1 ⟨rfl, hb1⟩
  obtain ⟨hc1, hf1⟩ := bcell hb1
  have z1_0 : w.heap.size < w1.heap.size := by (have := hb1.size; simp at this; omega)
  have B1 : Below w.heap.size w w1 := (Below.alloc (Below.refl _ _) (by simp <;> omega) _).trans (hb1.mono (by simp <;> omega))
  go_wp2_with fail
  go_ret
  exact ⟨rfl, B1⟩
theorem tws_any (a1 a2 b1 b2 c1 c2 : Int) (w : World) (ha : Sz a1 a2) (hb : Sz b1 b2) (hc : Sz c1 c2) (t1 : -100000000000 ≤ twI a1 a2 b1 b2 c1 c2) (t2 : twI a1 a2 b1 b2 c1 c2 ≤ 100000000000) :
    Calls Try.prog 101 #[.agg #[.int .i64 a1, .int .i64 a2, .int .i64 b1, .int .i64 b2, .int .i64 c1, .int .i64 c2]] w fun e w' => e = .returned (.int .i64 ((twI a1 a2 b1 b2 c1 c2).natAbs : Int)) ∧ Below w.heap.size w w' := by
  have K := Lib.hid (fun W => tw3_any a1 a2 b1 b2 c1 c2 W ha hb hc)
  generalize twI a1 a2 b1 b2 c1 c2 = t at *
  clear ha hb hc
  have e1 : IntKind.i64.wrap (-t) = -t := IntWalk.i64_in _ (by omega)
  by_cases h : t < -t
  all_goals
    go_enter Try.func101, Try.ntmps101
    go_wp2_with fail
    obtain ⟨W0, hW0⟩ : ∃ W0, W0 = (w.alloc (.cells #[.int .i64 a1, .int .i64 a2, .int .i64 b1, .int .i64 b2, .int .i64 c1, .int .i64 c2] 113)) := ⟨_, rfl⟩
    rw [← hW0]
    have yW00_0 : W0.cell? ⟨w.heap.size, 0, none⟩ = some (.int .i64 a1) := by rw [hW0]; go_simp
    have yW00_1 : W0.cell? ⟨w.heap.size, 1, none⟩ = some (.int .i64 a2) := by rw [hW0]; go_simp
    have yW00_2 : W0.cell? ⟨w.heap.size, 2, none⟩ = some (.int .i64 b1) := by rw [hW0]; go_simp
    have yW00_3 : W0.cell? ⟨w.heap.size, 3, none⟩ = some (.int .i64 b2) := by rw [hW0]; go_simp
    have yW00_4 : W0.cell? ⟨w.heap.size, 4, none⟩ = some (.int .i64 c1) := by rw [hW0]; go_simp
    have yW00_5 : W0.cell? ⟨w.heap.size, 5, none⟩ = some (.int .i64 c2) := by rw [hW0]; go_simp
    have fW00 : ∀ o, W0.frozen? ⟨w.heap.size, o, none⟩ = false := by intro o; rw [hW0]; (repeat rw [frozen?_alloc_cells]); simp [World.frozen?]
    have zW00 : w.heap.size < W0.heap.size := by rw [hW0]; simp <;> omega
    have BW0 : Below w.heap.size w W0 := by rw [hW0]; exact (Below.alloc (Below.refl _ _) (by simp <;> omega) _)
    have eW0 : Hid (W0.heap.size = w.heap.size + 1) := Lib.hid (by rw [hW0]; simp)
    clear hW0
    refine wp_region_BT 6 (fun W => Below (W0).heap.size (W0) W) (by kernel_rfl) (by kernel_rfl) (by repeat (first | exact Below.refl _ _ | apply Below.drew)) ?_
    simp only [List.take_succ_cons, List.take_zero, List.drop_succ_cons, List.drop_zero]
    first | refine wpH_skip (by rfl) ?_ | (refine wpH_text (v := ?_) (by rfl) (fun W k1 => ?_) ?_; rotate_left; (obtain ⟨hc1, hf1⟩ := bcell k1;  go_simp; refine comes_v ?_; exact k1))
    (try simp only [Act.put, List.setIfInBounds_toArray, List.set_cons_zero, List.set_cons_succ])
    first | refine wpH_skip (by rfl) ?_ | (refine wpH_text (v := .int .i64 t) (by rfl) (fun W k1 => ?_) ?_; (obtain ⟨hc1, hf1⟩ := bcell k1;  go_simp; exact comes_c ( K.out _) (fun wn hbn => k1.trans (hbn.mono k1.size))))
    (try simp only [Act.put, List.setIfInBounds_toArray, List.set_cons_zero, List.set_cons_succ])
    first | refine wpH_skip (by rfl) ?_ | (refine wpH_text (v := ?_) (by rfl) (fun W k1 => ?_) ?_; rotate_left; (obtain ⟨hc1, hf1⟩ := bcell k1;  go_simp; refine comes_v ?_; exact k1))
    (try simp only [Act.put, List.setIfInBounds_toArray, List.set_cons_zero, List.set_cons_succ])
    first | refine wpH_skip (by rfl) ?_ | (refine wpH_text (v := .int .i64 t) (by rfl) (fun W k1 => ?_) ?_; (obtain ⟨hc1, hf1⟩ := bcell k1;  go_simp; exact comes_c ( K.out _) (fun wn hbn => k1.trans (hbn.mono k1.size))))
    (try simp only [Act.put, List.setIfInBounds_toArray, List.set_cons_zero, List.set_cons_succ])
    first | refine wpH_skip (by rfl) ?_ | (refine wpH_text (v := ?_) (by rfl) (fun W k1 => ?_) ?_; rotate_left; (obtain ⟨hc1, hf1⟩ := bcell k1;  go_simp; refine comes_v ?_; exact k1))
    (try simp only [Act.put, List.setIfInBounds_toArray, List.set_cons_zero, List.set_cons_succ])
    first | refine wpH_skip (by rfl) ?_ | (refine wpH_text (v := ?_) (by rfl) (fun W k1 => ?_) ?_; rotate_left; (obtain ⟨hc1, hf1⟩ := bcell k1;  go_simp; refine comes_v ?_; exact k1))
    (try simp only [Act.put, List.setIfInBounds_toArray, List.set_cons_zero, List.set_cons_succ])
    refine wpH_nil ?_
    intro W k1; obtain ⟨hc1, hf1⟩ := bcell k1
    have B1 : Below w.heap.size w W := BW0.trans (k1.mono BW0.size)
    go_wp2_with fail
    go_ret
    exact ⟨ret_int (by omega), B1⟩
theorem tw_small {a b p1 p2 : Int} (h : Fit a b p1 p2) : -1000 ≤ twI 0 0 a b p1 p2 ∧ twI 0 0 a b p1 p2 ≤ 1000 := by
  have m1 := mul_bd (x := a) (y := p2) (m := 24) (n := 12) (by have := h.a; omega) (by have := h.a; omega) (by have := h.q; omega) (by have := h.q; omega)
  have m2 := mul_bd (x := b) (y := p1) (m := 24) (n := 12) (by have := h.b; omega) (by have := h.b; omega) (by have := h.p; omega) (by have := h.p; omega)
  unfold twI
  simp only [Int.sub_zero]
  omega
theorem sqd_small {a p : Int} (h1 : 0 ≤ a ∧ a ≤ 24) (h2 : 0 ≤ p ∧ p ≤ 12) : (0 ≤ (p - a) * (p - a) ∧ (p - a) * (p - a) ≤ 576) ∧ (a - p) * (a - p) = (p - a) * (p - a) := by
  have m1 := mul_bd (x := p - a) (y := p - a) (m := 24) (n := 24) (by omega) (by omega) (by omega) (by omega)
  refine ⟨⟨?_, by omega⟩, by rw [← Int.neg_mul_neg, Int.neg_sub]⟩
  rcases Int.le_total 0 (p - a) with h | h
  · exact Int.mul_nonneg h h
  · have := Int.mul_nonneg (show 0 ≤ -(p - a) by omega) (show 0 ≤ -(p - a) by omega)
    rwa [Int.neg_mul_neg] at this
theorem bdFar2_any (a b p1 p2 : Int) (w : World) (h : Fit a b p1 p2) :
    Calls Try.prog 119 #[.agg #[.int .i64 a, .int .i64 b], .agg #[.int .i64 p1, .int .i64 p2]] w fun e w' => e = .returned (.int .i64 ((p1 - a) * (p1 - a) + (p2 - b) * (p2 - b))) ∧ Below w.heap.size w w' := by
  obtain ⟨⟨x1, x2⟩, x3⟩ := sqd_small h.a h.p
  obtain ⟨⟨y1, y2⟩, y3⟩ := sqd_small h.b h.q
  rw [← x3, ← y3]
  rw [← x3] at x1 x2
  rw [← y3] at y1 y2
  have h1 := h.a
  have h2 := h.b
  have h3 := h.p
  have h4 := h.q
  have i1 : IntKind.i64.wrap (a - p1) = a - p1 := IntWalk.i64_in _ (by omega)
  have i2 : IntKind.i64.wrap (b - p2) = b - p2 := IntWalk.i64_in _ (by omega)
  have i3 : IntKind.i64.wrap ((a - p1) * (a - p1)) = (a - p1) * (a - p1) := IntWalk.i64_in _ (by omega)
  have i4 : IntKind.i64.wrap ((b - p2) * (b - p2)) = (b - p2) * (b - p2) := IntWalk.i64_in _ (by omega)
  have i5 : IntKind.i64.wrap ((a - p1) * (a - p1) + (b - p2) * (b - p2)) = (a - p1) * (a - p1) + (b - p2) * (b - p2) := IntWalk.i64_in _ (by omega)
  clear x1 x2 x3 y1 y2 y3 h1 h2 h3 h4 h
  go_enter Try.func119, Try.ntmps119
  go_wp2_with fail
  go_ret
  exact ⟨rfl, (by repeat (first | exact Below.refl _ _ | assumption | apply Below.drew | refine Below.alloc ?_ (by simp <;> omega) _))⟩
set_option maxHeartbeats 2000000 in
theorem pzValue_any (k a b p1 p2 : Int) (w : World) (hk : kindB k = true) (h : Fit a b p1 p2) :
    Calls Try.prog 99 #[.int .i64 k, .agg #[.int .i64 a, .int .i64 b], .agg #[.int .i64 p1, .int .i64 p2]] w fun e w' => e = .returned (.int .i64 (vaN k a b p1 p2)) ∧ Below w.heap.size w w' := by
  have hz := fit_sz h
  have ht := tw_small h
  have KT := Lib.hid (fun W => pgTurn_any 0 0 a b p1 p2 W sz00 hz.1 hz.2)
  have KA := Lib.hid (fun W => l1Abs_any (twI 0 0 a b p1 p2) W (by omega) (by omega))
  have KF := Lib.hid (fun W => bdFar2_any a b p1 p2 W h)
  have KG := Lib.hid (fun W => pgStep_any a b p1 p2 W hz.1 hz.2)
  have i1 : IntKind.i64.wrap (p1 + p2) = p1 + p2 := IntWalk.i64_in _ (by have := h.p; have := h.q; omega)
  have HB := Lib.hid (Below.alloc (Below.alloc (Below.refl w.heap.size w) (Nat.le_refl _) (.cells #[.int .i64 a, .int .i64 b] 53)) (by simp) (.cells #[.int .i64 p1, .int .i64 p2] 53))
  rcases kinds k with rfl | rfl | rfl | rfl | rfl | rfl | hn
  case inr.inr.inr.inr.inr.inr => rw [kindB_f hn] at hk; exact absurd hk (by simp)
  · go_enter Try.func99, Try.ntmps99
    go_wp2_with fail
    go_ret
    exact ⟨rfl, HB.out⟩
  · go_enter Try.func99, Try.ntmps99
    go_wp2_with fail
    go_ret
    exact ⟨rfl, HB.out⟩
  · have hv : Hid (vaN 2 a b p1 p2 = p1 + p2) := Lib.hid rfl
    rw [hv.out]
    clear ht hz h
    go_enter Try.func99, Try.ntmps99
    go_wp2_with fail
    go_ret
    exact ⟨rfl, HB.out⟩
  · have hv : Hid (vaN 3 a b p1 p2 = ((twI 0 0 a b p1 p2).natAbs : Int)) := Lib.hid rfl
    rw [hv.out]
    clear ht hz h i1 hv
    generalize twI 0 0 a b p1 p2 = t at *
    go_enter Try.func99, Try.ntmps99
    go_wp2_with fail
    refine (KT.out _).mono ?_; rintro e w1 ⟨rfl, hb1⟩
    go_wp2_with fail
    refine (KA.out _).mono ?_; rintro e _ ⟨rfl, rfl⟩
    go_wp2_with fail
    go_ret
    exact ⟨rfl, HB.out.trans (hb1.mono HB.out.size)⟩
  · have hv : Hid (vaN 4 a b p1 p2 = (p1 - a) * (p1 - a) + (p2 - b) * (p2 - b)) := Lib.hid rfl
    rw [hv.out]
    clear ht hz h i1 hv
    generalize (p1 - a) * (p1 - a) + (p2 - b) * (p2 - b) = t at *
    go_enter Try.func99, Try.ntmps99
    go_wp2_with fail
    refine (KF.out _).mono ?_; rintro e w1 ⟨rfl, hb1⟩
    go_wp2_with fail
    go_ret
    exact ⟨rfl, HB.out.trans (hb1.mono HB.out.size)⟩
  · have hv : Hid (vaN 5 a b p1 p2 = if stepN a b p1 p2 < 2 then 1 else 0) := Lib.hid rfl
    rw [hv.out]
    clear ht hz h i1 hv
    generalize stepN a b p1 p2 = t at *
    by_cases h2 : t < 2
    · rw [if_pos h2]
      go_enter Try.func99, Try.ntmps99
      go_wp2_with fail
      refine (KG.out _).mono ?_; rintro e w1 ⟨rfl, hb1⟩
      go_wp2_with fail
      go_ret
      exact ⟨rfl, HB.out.trans (hb1.mono HB.out.size)⟩
    · rw [if_neg h2]
      go_enter Try.func99, Try.ntmps99
      go_wp2_with fail
      refine (KG.out _).mono ?_; rintro e w1 ⟨rfl, hb1⟩
      go_wp2_with fail
      go_ret
      exact ⟨rfl, HB.out.trans (hb1.mono HB.out.size)⟩
set_option maxHeartbeats 2000000 in
theorem pzFits_any (k a b c p1 p2 : Int) (w : World) (hk : kindB k = true) (h : Fit a b p1 p2) :
    Calls Try.prog 96 #[.agg #[.int .i64 k, .int .i64 a, .int .i64 b, .int .i64 c], .agg #[.int .i64 p1, .int .i64 p2]] w fun e w' => e = .returned (.bool (fitB k a b c p1 p2)) ∧ Below w.heap.size w w' := by
  have K := Lib.hid (fun W => pzValue_any k a b p1 p2 W hk h)
  by_cases h3 : k < 3
  · have hf : Hid (fitB k a b c p1 p2 = decide (vaN k a b p1 p2 = a)) := Lib.hid (by unfold fitB; rw [if_pos h3])
    rw [hf.out]
    clear hf hk h
    generalize vaN k a b p1 p2 = t at *
    go_enter Try.func96, Try.ntmps96
    go_wp2_with fail
    obtain ⟨W0, hW0⟩ : ∃ W0, W0 = ((w.alloc (.cells #[.int .i64 k, .int .i64 a, .int .i64 b, .int .i64 c] 38)).alloc (.cells #[.int .i64 p1, .int .i64 p2] 53)) := ⟨_, rfl⟩
    rw [← hW0]
    have yW00_0 : W0.cell? ⟨w.heap.size, 0, none⟩ = some (.int .i64 k) := by rw [hW0]; go_simp
    have yW00_1 : W0.cell? ⟨w.heap.size, 1, none⟩ = some (.int .i64 a) := by rw [hW0]; go_simp
    have yW00_2 : W0.cell? ⟨w.heap.size, 2, none⟩ = some (.int .i64 b) := by rw [hW0]; go_simp
    have yW00_3 : W0.cell? ⟨w.heap.size, 3, none⟩ = some (.int .i64 c) := by rw [hW0]; go_simp
    have fW00 : ∀ o, W0.frozen? ⟨w.heap.size, o, none⟩ = false := by intro o; rw [hW0]; (repeat rw [frozen?_alloc_cells]); simp [World.frozen?]
    have zW00 : w.heap.size < W0.heap.size := by rw [hW0]; simp <;> omega
    have yW01_0 : W0.cell? ⟨w.heap.size + 1, 0, none⟩ = some (.int .i64 p1) := by rw [hW0]; go_simp
    have yW01_1 : W0.cell? ⟨w.heap.size + 1, 1, none⟩ = some (.int .i64 p2) := by rw [hW0]; go_simp
    have fW01 : ∀ o, W0.frozen? ⟨w.heap.size + 1, o, none⟩ = false := by intro o; rw [hW0]; (repeat rw [frozen?_alloc_cells]); simp [World.frozen?]
    have zW01 : w.heap.size + 1 < W0.heap.size := by rw [hW0]; simp <;> omega
    have BW0 : Below w.heap.size w W0 := by rw [hW0]; exact (Below.alloc (Below.alloc (Below.refl _ _) (by simp <;> omega) _) (by simp <;> omega) _)
    have eW0 : Hid (W0.heap.size = w.heap.size + 2) := Lib.hid (by rw [hW0]; simp)
    clear hW0
    refine (K.out _).mono ?_; rintro e w1 ⟨rfl, hb1⟩
    have c0 := ((bcell hb1).1 _ 0 zW00).trans yW00_0
    have c1 := ((bcell hb1).1 _ 1 zW00).trans yW00_1
    have z1 := Nat.lt_of_lt_of_le zW00 hb1.size
    go_wp2_with fail
    go_ret
    exact ⟨rfl, BW0.trans (hb1.mono BW0.size)⟩
  · have hf : Hid (fitB k a b c p1 p2 = decide (vaN k a b p1 p2 = c)) := Lib.hid (by unfold fitB; rw [if_neg h3])
    rw [hf.out]
    clear hf hk h
    generalize vaN k a b p1 p2 = t at *
    go_enter Try.func96, Try.ntmps96
    go_wp2_with fail
    obtain ⟨W0, hW0⟩ : ∃ W0, W0 = ((w.alloc (.cells #[.int .i64 k, .int .i64 a, .int .i64 b, .int .i64 c] 38)).alloc (.cells #[.int .i64 p1, .int .i64 p2] 53)) := ⟨_, rfl⟩
    rw [← hW0]
    have yW00_0 : W0.cell? ⟨w.heap.size, 0, none⟩ = some (.int .i64 k) := by rw [hW0]; go_simp
    have yW00_1 : W0.cell? ⟨w.heap.size, 1, none⟩ = some (.int .i64 a) := by rw [hW0]; go_simp
    have yW00_2 : W0.cell? ⟨w.heap.size, 2, none⟩ = some (.int .i64 b) := by rw [hW0]; go_simp
    have yW00_3 : W0.cell? ⟨w.heap.size, 3, none⟩ = some (.int .i64 c) := by rw [hW0]; go_simp
    have fW00 : ∀ o, W0.frozen? ⟨w.heap.size, o, none⟩ = false := by intro o; rw [hW0]; (repeat rw [frozen?_alloc_cells]); simp [World.frozen?]
    have zW00 : w.heap.size < W0.heap.size := by rw [hW0]; simp <;> omega
    have yW01_0 : W0.cell? ⟨w.heap.size + 1, 0, none⟩ = some (.int .i64 p1) := by rw [hW0]; go_simp
    have yW01_1 : W0.cell? ⟨w.heap.size + 1, 1, none⟩ = some (.int .i64 p2) := by rw [hW0]; go_simp
    have fW01 : ∀ o, W0.frozen? ⟨w.heap.size + 1, o, none⟩ = false := by intro o; rw [hW0]; (repeat rw [frozen?_alloc_cells]); simp [World.frozen?]
    have zW01 : w.heap.size + 1 < W0.heap.size := by rw [hW0]; simp <;> omega
    have BW0 : Below w.heap.size w W0 := by rw [hW0]; exact (Below.alloc (Below.alloc (Below.refl _ _) (by simp <;> omega) _) (by simp <;> omega) _)
    have eW0 : Hid (W0.heap.size = w.heap.size + 2) := Lib.hid (by rw [hW0]; simp)
    clear hW0
    refine (K.out _).mono ?_; rintro e w1 ⟨rfl, hb1⟩
    have c0 := ((bcell hb1).1 _ 0 zW00).trans yW00_0
    have c1 := ((bcell hb1).1 _ 3 zW00).trans yW00_3
    have z1 := Nat.lt_of_lt_of_le zW00 hb1.size
    go_wp2_with fail
    go_ret
    exact ⟨rfl, BW0.trans (hb1.mono BW0.size)⟩
end Go.Proofs.Ytacabmbajadbgaa
