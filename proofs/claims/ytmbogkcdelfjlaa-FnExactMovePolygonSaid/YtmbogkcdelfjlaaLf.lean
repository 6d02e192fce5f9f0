/- contracts: moved polygons, on both sides -/
import Derived.Test.YtmbogkcdelfjlaaLd
import Derived.Test.YtmbogkcdelfjlaaQg
namespace Go.Proofs.Ytmbogkcdelfjlaa
open Go.ChangeShapes Go.WideShapes Go.ChangeAt Go.RowKit Go.Joins
set_option linter.unusedVariables false
set_option linter.unusedSimpArgs false
set_option maxRecDepth 4000
/-- are both numbers of a move's shift within bounds? -/
def inXY (x y : Int) : Bool := (decide (-80 ≤ x) && decide (x ≤ 80)) && (decide (-80 ≤ y) && decide (y ≤ 80))
theorem inXY_x {x y : Int} (h : ¬ (decide (-80 ≤ x) && decide (x ≤ 80)) = true) : inXY x y = false := by unfold inXY; simp at h ⊢; omega
theorem inXY_y {x y : Int} (h : ¬ (decide (-80 ≤ y) && decide (y ≤ 80)) = true) : inXY x y = false := by unfold inXY; simp at h ⊢; omega
theorem inXY_t {x y : Int} (h : (decide (-80 ≤ x) && decide (x ≤ 80)) = true) (h' : (decide (-80 ≤ y) && decide (y ≤ 80)) = true) : inXY x y = true := by unfold inXY; rw [h, h']; rfl
set_option maxHeartbeats 1000000 in
theorem specMovePolygon_any (A : Option Addr) (c : Nat) (l : List (Int × Int)) (x y : Int) (w : World) (hn : l.length ≤ 1048576) (hcap : l.length ≤ c) (hc2 : c ≤ 9223372036854775807) (hR : Rd w w.heap.size A l) :
    Calls Try.prog 29 #[.slice A l.length c, .int .i64 x, .int .i64 y] w (RetL w (sel (goodB l && inXY x y && allB (mapF 1 0 0 1 x y l) l.length) (firsts (mapF 1 0 0 1 x y l) l.length)) (goodB l && inXY x y && allB (mapF 1 0 0 1 x y l) l.length)) := by
  have K := Lib.hid (pgGood_any A c l w hn hcap hc2 hR)
  by_cases hg : Good l
  · have hgt := goodB_true hg
    rw [hgt] at K ⊢
    rw [Bool.true_and]
    by_cases hx : (decide (-80 ≤ x) && decide (x ≤ 80)) = true
    · by_cases hy : (decide (-80 ≤ y) && decide (y ≤ 80)) = true
      · rw [inXY_t hx hy, Bool.true_and]
        have K2 := Lib.hid (fun W (hb : Below w.heap.size w W) => pgMap_any A c l 1 0 0 1 x y W (good_pos hg) hg.few.2 hg.pegs (rd_more (rd_below hR hb (Nat.le_refl _)) hb.size) (by omega) (by omega) (by omega) (by omega) (by simp at hx; omega) (by simp at hy; omega))
        generalize mapF 1 0 0 1 x y l = f at *
        clear hgt hg hR
        go_enter Try.func29, Try.ntmps29
        go_wp2_with fail
        refine K.out.mono ?_; rintro e w1 ⟨rfl, hb1⟩
        go_wp2_with (go_at_call 52; refine (l1In_any _ _ _ _).mono ?_; rintro e w' ⟨rfl, rfl⟩)
        refine (K2.out w1 hb1).mono ?_; rintro e w2 ⟨A2, c2, rfl, q1, q2, hb2, q3⟩
        go_wp2_with fail
        go_ret2
        exact retL_up hb1 ⟨A2, c2, rfl, q1, q2, hb2, q3⟩
      · rw [inXY_y hy, Bool.false_and]
        clear hgt hg hR
        go_enter Try.func29, Try.ntmps29
        go_wp2_with fail
        refine K.out.mono ?_; rintro e w1 ⟨rfl, hb1⟩
        go_wp2_with (go_at_call 52; refine (l1In_any _ _ _ _).mono ?_; rintro e w' ⟨rfl, rfl⟩)
        go_ret2
        exact retL_nil hb1
    · rw [inXY_x hx, Bool.false_and]
      clear hgt hg hR
      go_enter Try.func29, Try.ntmps29
      go_wp2_with fail
      refine K.out.mono ?_; rintro e w1 ⟨rfl, hb1⟩
      go_wp2_with (go_at_call 52; refine (l1In_any _ _ _ _).mono ?_; rintro e w' ⟨rfl, rfl⟩)
      go_ret2
      exact retL_nil hb1
  · have hgf := goodB_false hg
    rw [hgf] at K ⊢
    rw [Bool.false_and, Bool.false_and]
    clear hgf hg hR
    go_enter Try.func29, Try.ntmps29
    go_wp2_with fail
    refine K.out.mono ?_; rintro e w1 ⟨rfl, hb1⟩
    go_wp2_with fail
    go_ret2
    exact retL_nil hb1
theorem shifted_any (p1 p2 x y : Int) (bx bY : Nat) (w : World) (h1 : -40 ≤ p1 ∧ p1 ≤ 40) (h3 : -40 ≤ p2 ∧ p2 ≤ 40) (h5 : -80 ≤ x ∧ x ≤ 80) (h7 : -80 ≤ y ∧ y ≤ 80) (hbx : bx < w.heap.size) (hby : bY < w.heap.size)
    (hx : w.cell? ⟨bx, 0, none⟩ = some (.int .i64 x)) (hy : w.cell? ⟨bY, 0, none⟩ = some (.int .i64 y)) :
    Calls Try.prog 54 #[.agg #[.int .i64 p1, .int .i64 p2], .pointer (some ⟨bx, 0, none⟩), .pointer (some ⟨bY, 0, none⟩)] w fun e w' => e = .returned (.agg #[.int .i64 (p1 + x), .int .i64 (p2 + y)]) ∧ Below w.heap.size w w' := by
  obtain ⟨h1, h2⟩ := h1
  obtain ⟨h3, h4⟩ := h3
  obtain ⟨h5, h6⟩ := h5
  obtain ⟨h7, h8⟩ := h7
  go_enter Try.func54, Try.ntmps54
  go_wp2
  exact bodyPost_ret (v := .agg #[.int .i64 (p1 + x), .int .i64 (p2 + y)]) (by simp [results, Try.results54, go_sem]) rfl ⟨rfl, (by repeat (first | exact Below.refl _ _ | assumption | apply Below.drew | refine Below.alloc ?_ (by simp <;> omega) _))⟩
set_option maxHeartbeats 1000000 in
theorem implMovePolygon_any (A : Option Addr) (c : Nat) (l : List (Int × Int)) (x y : Int) (w : World) (hn : l.length ≤ 1048576) (hR : Rd w w.heap.size A l) :
    Calls Try.prog 30 #[.slice A l.length c, .int .i64 x, .int .i64 y] w (RetL w (sel (goodB l && inXY x y && allB (mapF 1 0 0 1 x y l) l.length) (firsts (mapF 1 0 0 1 x y l) l.length)) (goodB l && inXY x y && allB (mapF 1 0 0 1 x y l) l.length)) := by
  have B0 := Below.alloc (Below.alloc (Below.refl w.heap.size w) (Nat.le_refl _) (.cells #[.int .i64 x] 3)) (by simp) (.cells #[.int .i64 y] 3)
  have HB0 := Lib.hid B0
  clear B0
  by_cases hx : (decide (-80 ≤ x) && decide (x ≤ 80)) = true
  · by_cases hy : (decide (-80 ≤ y) && decide (y ≤ 80)) = true
    · rw [inXY_t hx hy, Bool.and_true]
      have K := Lib.hid (bringCorners_any A c l 54 #[.pointer (some ⟨w.heap.size, 0, none⟩), .pointer (some ⟨w.heap.size + 1, 0, none⟩)] (mapF 1 0 0 1 x y l) _ hn (rd_more (rd_below hR HB0.out (Nat.le_refl _)) HB0.out.size) Try.call54 (fun hg i hi W hb => by
        have hp := hg.pegs i hi
        unfold isPg isPegB at hp
        simp only [Bool.and_eq_true, decide_eq_true_eq] at hp hx hy
        have e1 : (mapF 1 0 0 1 x y l i).1 = (vx l i).1 + x := by unfold mapF; simp
        have e2 : (mapF 1 0 0 1 x y l i).2 = (vx l i).2 + y := by unfold mapF; simp
        rw [e1, e2]
        have hz := hb.size
        simp at hz
        exact shifted_any _ _ x y _ _ W hp.1 hp.2 hx hy (by omega) (by omega) (((bcell hb).1 _ _ (by simp; omega)).trans (by go_simp)) (((bcell hb).1 _ _ (by simp)).trans (by go_simp))))
      generalize (goodB l && allB (mapF 1 0 0 1 x y l) l.length) = b at *
      generalize mapF 1 0 0 1 x y l = f at *
      clear hR
      go_enter Try.func30, Try.ntmps30
      go_wp2_with (go_at_call 53; refine (isOfSize_any _ _ _ (by omega) (by omega)).mono ?_; rintro e w' ⟨rfl, rfl⟩)
      refine K.out.mono ?_; rintro e w2 ⟨A2, c2, rfl, q1, q2, hb2, q3⟩
      go_wp2_with fail
      go_ret2
      exact retL_up HB0.out ⟨A2, c2, rfl, q1, q2, hb2, q3⟩
    · rw [inXY_y hy, Bool.and_false, Bool.false_and]
      clear hR
      go_enter Try.func30, Try.ntmps30
      go_wp2_with (go_at_call 53; refine (isOfSize_any _ _ _ (by omega) (by omega)).mono ?_; rintro e w' ⟨rfl, rfl⟩)
      go_ret2
      exact retL_nil HB0.out
  · rw [inXY_x hx, Bool.and_false, Bool.false_and]
    clear hR
    go_enter Try.func30, Try.ntmps30
    go_wp2_with (go_at_call 53; refine (isOfSize_any _ _ _ (by omega) (by omega)).mono ?_; rintro e w' ⟨rfl, rfl⟩)
    go_ret2
    exact retL_nil HB0.out
end Go.Proofs.Ytmbogkcdelfjlaa
