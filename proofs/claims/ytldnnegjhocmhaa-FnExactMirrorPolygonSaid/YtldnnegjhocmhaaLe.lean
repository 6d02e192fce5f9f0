/- contracts: polygons told backwards, turned, mirrored and moved, on both sides -/
import Derived.Test.YtldnnegjhocmhaaLd
namespace Go.Proofs.Ytldnnegjhocmhaa
open Go.ChangeShapes Go.WideShapes Go.ChangeAt Go.RowKit Go.Joins
set_option linter.unusedVariables false
set_option linter.unusedSimpArgs false
theorem retL_of_P {w w1 w2 : World} {m : List (Int × Int)} {A : Option Addr} {c : Nat} (hb1 : Below w.heap.size w w1) (h1 : m.length ≤ c) (h2 : c ≤ maxLen) (hb2 : Below w1.heap.size w1 w2) (h : Rw w2 w1.heap.size w2.heap.size A m.length (pt m)) :
    RetL w m true (.returned (.tuple #[.slice A m.length c, .bool true])) w2 :=
  ⟨A, c, rfl, h1, h2, hb1.trans (hb2.mono hb1.size), rw_more h hb1.size (Nat.le_refl _)⟩
theorem retL_up {w w1 w2 : World} {m : List (Int × Int)} {b : Bool} {e : Ending} (hb1 : Below w.heap.size w w1) (h : RetL w1 m b e w2) : RetL w m b e w2 := by
  obtain ⟨A, c, e, h1, h2, h3, h4⟩ := h
  exact ⟨A, c, e, h1, h2, hb1.trans (h3.mono hb1.size), rw_more h4 hb1.size (Nat.le_refl _)⟩
theorem backF_mod (l : List (Int × Int)) : firsts (fun i => vx l ((l.length - i) % l.length)) l.length = firsts (backF l) l.length := by
  unfold firsts backF
  congr 1
  funext i
  exact vx_per l _
theorem specBackPolygon_any (A : Option Addr) (c : Nat) (l : List (Int × Int)) (w : World) (hn : l.length ≤ 1048576) (hcap : l.length ≤ c) (hc2 : c ≤ 9223372036854775807) (hR : Rd w w.heap.size A l) :
    Calls Try.prog 19 #[.slice A l.length c] w (RetL w (sel (goodB l) (firsts (backF l) l.length)) (goodB l)) := by
  have K := Lib.hid (pgGood_any A c l w hn hcap hc2 hR)
  by_cases hg : Good l
  · have hgt := goodB_true hg
    rw [hgt] at K ⊢
    have K2 := Lib.hid (fun W (hb : Below w.heap.size w W) => pgBack_any A c l W (good_pos hg) hg.few.2 (rd_more (rd_below hR hb (Nat.le_refl _)) hb.size))
    clear hgt hg hR
    go_enter Try.func19, Try.ntmps19
    go_wp2_with fail
    refine K.out.mono ?_; rintro e w1 ⟨rfl, hb1⟩
    go_wp2_with fail
    refine (K2.out w1 hb1).mono ?_; rintro e w2 ⟨A2, c2, rfl, q1, q2, hb2, q3⟩
    go_wp2_with fail
    go_ret2
    exact retL_of_P hb1 q1 q2 hb2 q3
  · have hgf := goodB_false hg
    rw [hgf] at K ⊢
    clear hgf hg hR
    go_enter Try.func19, Try.ntmps19
    go_wp2_with fail
    refine K.out.mono ?_; rintro e w1 ⟨rfl, hb1⟩
    go_wp2_with fail
    go_ret2
    exact retL_nil hb1
theorem implBackPolygon_any (A : Option Addr) (c : Nat) (l : List (Int × Int)) (w : World) (hn : l.length ≤ 1048576) (hR : Rd w w.heap.size A l) :
    Calls Try.prog 20 #[.slice A l.length c] w (RetL w (sel (goodB l) (firsts (backF l) l.length)) (goodB l)) := by
  have K := Lib.hid (implIsPolygon_any A c l w hn hR)
  by_cases hg : Good l
  · have hgt := goodB_true hg
    rw [hgt] at K ⊢
    have K2 := Lib.hid (fun W (hb : Below w.heap.size w W) => (show Calls Try.prog 40 #[.slice A l.length c, .int .i64 0, .int .i64 (-1)] W (RetP W (firsts (backF l) l.length)) from by
      rw [← backF_mod]
      exact tellFrom_any A c l 0 (-1) (fun i => (l.length - i) % l.length) W (good_pos hg) hg.few.2 (rd_more (rd_below hR hb (Nat.le_refl _)) hb.size) (good_pos hg) (Or.inr rfl)
        (fun i hi => by rw [Int.natCast_emod]; congr 1; omega)))
    clear hgt hg hR
    go_enter Try.func20, Try.ntmps20
    go_wp2_with fail
    refine K.out.mono ?_; rintro e w1 ⟨rfl, hb1⟩
    go_wp2_with fail
    refine (K2.out w1 hb1).mono ?_; rintro e w2 ⟨A2, c2, rfl, q1, q2, hb2, q3⟩
    go_wp2_with fail
    go_ret2
    exact retL_of_P hb1 q1 q2 hb2 q3
  · have hgf := goodB_false hg
    rw [hgf] at K ⊢
    clear hgf hg hR
    go_enter Try.func20, Try.ntmps20
    go_wp2_with fail
    refine K.out.mono ?_; rintro e w1 ⟨rfl, hb1⟩
    go_wp2_with fail
    go_ret2
    exact retL_nil hb1
theorem turned_any (p1 p2 : Int) (w : World) (h1 : -40 ≤ p1) (h2 : p1 ≤ 40) (h3 : -40 ≤ p2) (h4 : p2 ≤ 40) :
    Calls Try.prog 43 #[.agg #[.int .i64 p1, .int .i64 p2]] w fun e w' => e = .returned (.agg #[.int .i64 (-p2), .int .i64 (p1)]) ∧ Below w.heap.size w w' := by
  go_enter Try.func43, Try.ntmps43
  go_wp2
  exact bodyPost_ret (v := .agg #[.int .i64 (-p2), .int .i64 (p1)]) (by simp [results, Try.results43, go_sem]) rfl ⟨rfl, (by repeat (first | exact Below.refl _ _ | assumption | apply Below.drew | refine Below.alloc ?_ (by simp <;> omega) _))⟩
theorem specTurnPolygon_any (A : Option Addr) (c : Nat) (l : List (Int × Int)) (w : World) (hn : l.length ≤ 1048576) (hcap : l.length ≤ c) (hc2 : c ≤ 9223372036854775807) (hR : Rd w w.heap.size A l) :
    Calls Try.prog 23 #[.slice A l.length c] w (RetL w (sel (goodB l && allB (mapF 0 (-1) 1 0 0 0 l) l.length) (firsts (mapF 0 (-1) 1 0 0 0 l) l.length)) (goodB l && allB (mapF 0 (-1) 1 0 0 0 l) l.length)) := by
  have K := Lib.hid (pgGood_any A c l w hn hcap hc2 hR)
  by_cases hg : Good l
  · have hgt := goodB_true hg
    rw [hgt] at K ⊢
    rw [Bool.true_and]
    have K2 := Lib.hid (fun W (hb : Below w.heap.size w W) => pgMap_any A c l 0 (-1) 1 0 0 0 W (good_pos hg) hg.few.2 hg.pegs (rd_more (rd_below hR hb (Nat.le_refl _)) hb.size) (by omega) (by omega) (by omega) (by omega) (by omega) (by omega))
    generalize mapF 0 (-1) 1 0 0 0 l = f at *
    clear hgt hg hR
    go_enter Try.func23, Try.ntmps23
    go_wp2_with fail
    refine K.out.mono ?_; rintro e w1 ⟨rfl, hb1⟩
    go_wp2_with fail
    refine (K2.out w1 hb1).mono ?_; rintro e w2 ⟨A2, c2, rfl, q1, q2, hb2, q3⟩
    go_wp2_with fail
    go_ret2
    exact retL_up hb1 ⟨A2, c2, rfl, q1, q2, hb2, q3⟩
  · have hgf := goodB_false hg
    rw [hgf] at K ⊢
    rw [Bool.false_and]
    clear hgf hg hR
    go_enter Try.func23, Try.ntmps23
    go_wp2_with fail
    refine K.out.mono ?_; rintro e w1 ⟨rfl, hb1⟩
    go_wp2_with fail
    go_ret2
    exact retL_nil hb1
theorem implTurnPolygon_any (A : Option Addr) (c : Nat) (l : List (Int × Int)) (w : World) (hn : l.length ≤ 1048576) (hR : Rd w w.heap.size A l) :
    Calls Try.prog 24 #[.slice A l.length c] w (RetL w (sel (goodB l && allB (mapF 0 (-1) 1 0 0 0 l) l.length) (firsts (mapF 0 (-1) 1 0 0 0 l) l.length)) (goodB l && allB (mapF 0 (-1) 1 0 0 0 l) l.length)) := by
  have K := Lib.hid (bringCorners_any A c l 43 #[] (mapF 0 (-1) 1 0 0 0 l) w hn hR Try.call43 (fun hg i hi W hb => by
    have hp := hg.pegs i hi
    unfold isPg isPegB at hp
    simp only [Bool.and_eq_true, decide_eq_true_eq] at hp
    have e1 : (mapF 0 (-1) 1 0 0 0 l i).1 = -(vx l i).2 := by unfold mapF; simp
    have e2 : (mapF 0 (-1) 1 0 0 0 l i).2 = (vx l i).1 := by unfold mapF; simp
    rw [e1, e2]
    exact turned_any _ _ W (by omega) (by omega) (by omega) (by omega)))
  generalize (goodB l && allB (mapF 0 (-1) 1 0 0 0 l) l.length) = b at *
  generalize mapF 0 (-1) 1 0 0 0 l = f at *
  clear hR
  go_enter Try.func24, Try.ntmps24
  go_wp2_with fail
  refine K.out.mono ?_; rintro e w2 ⟨A2, c2, rfl, q1, q2, hb2, q3⟩
  go_wp2_with fail
  go_ret2
  exact ⟨A2, c2, rfl, q1, q2, hb2, q3⟩
theorem mirrored_any (p1 p2 : Int) (w : World) (h1 : -40 ≤ p1) (h2 : p1 ≤ 40) (h3 : -40 ≤ p2) (h4 : p2 ≤ 40) :
    Calls Try.prog 44 #[.agg #[.int .i64 p1, .int .i64 p2]] w fun e w' => e = .returned (.agg #[.int .i64 (-p1), .int .i64 (p2)]) ∧ Below w.heap.size w w' := by
  go_enter Try.func44, Try.ntmps44
  go_wp2
  exact bodyPost_ret (v := .agg #[.int .i64 (-p1), .int .i64 (p2)]) (by simp [results, Try.results44, go_sem]) rfl ⟨rfl, (by repeat (first | exact Below.refl _ _ | assumption | apply Below.drew | refine Below.alloc ?_ (by simp <;> omega) _))⟩
theorem specMirrorPolygon_any (A : Option Addr) (c : Nat) (l : List (Int × Int)) (w : World) (hn : l.length ≤ 1048576) (hcap : l.length ≤ c) (hc2 : c ≤ 9223372036854775807) (hR : Rd w w.heap.size A l) :
    Calls Try.prog 25 #[.slice A l.length c] w (RetL w (sel (goodB l && allB (mapF (-1) 0 0 1 0 0 l) l.length) (firsts (mapF (-1) 0 0 1 0 0 l) l.length)) (goodB l && allB (mapF (-1) 0 0 1 0 0 l) l.length)) := by
  have K := Lib.hid (pgGood_any A c l w hn hcap hc2 hR)
  by_cases hg : Good l
  · have hgt := goodB_true hg
    rw [hgt] at K ⊢
    rw [Bool.true_and]
    have K2 := Lib.hid (fun W (hb : Below w.heap.size w W) => pgMap_any A c l (-1) 0 0 1 0 0 W (good_pos hg) hg.few.2 hg.pegs (rd_more (rd_below hR hb (Nat.le_refl _)) hb.size) (by omega) (by omega) (by omega) (by omega) (by omega) (by omega))
    generalize mapF (-1) 0 0 1 0 0 l = f at *
    clear hgt hg hR
    go_enter Try.func25, Try.ntmps25
    go_wp2_with fail
    refine K.out.mono ?_; rintro e w1 ⟨rfl, hb1⟩
    go_wp2_with fail
    refine (K2.out w1 hb1).mono ?_; rintro e w2 ⟨A2, c2, rfl, q1, q2, hb2, q3⟩
    go_wp2_with fail
    go_ret2
    exact retL_up hb1 ⟨A2, c2, rfl, q1, q2, hb2, q3⟩
  · have hgf := goodB_false hg
    rw [hgf] at K ⊢
    rw [Bool.false_and]
    clear hgf hg hR
    go_enter Try.func25, Try.ntmps25
    go_wp2_with fail
    refine K.out.mono ?_; rintro e w1 ⟨rfl, hb1⟩
    go_wp2_with fail
    go_ret2
    exact retL_nil hb1
theorem implMirrorPolygon_any (A : Option Addr) (c : Nat) (l : List (Int × Int)) (w : World) (hn : l.length ≤ 1048576) (hR : Rd w w.heap.size A l) :
    Calls Try.prog 26 #[.slice A l.length c] w (RetL w (sel (goodB l && allB (mapF (-1) 0 0 1 0 0 l) l.length) (firsts (mapF (-1) 0 0 1 0 0 l) l.length)) (goodB l && allB (mapF (-1) 0 0 1 0 0 l) l.length)) := by
  have K := Lib.hid (bringCorners_any A c l 44 #[] (mapF (-1) 0 0 1 0 0 l) w hn hR Try.call44 (fun hg i hi W hb => by
    have hp := hg.pegs i hi
    unfold isPg isPegB at hp
    simp only [Bool.and_eq_true, decide_eq_true_eq] at hp
    have e1 : (mapF (-1) 0 0 1 0 0 l i).1 = -(vx l i).1 := by unfold mapF; simp
    have e2 : (mapF (-1) 0 0 1 0 0 l i).2 = (vx l i).2 := by unfold mapF; simp
    rw [e1, e2]
    exact mirrored_any _ _ W (by omega) (by omega) (by omega) (by omega)))
  generalize (goodB l && allB (mapF (-1) 0 0 1 0 0 l) l.length) = b at *
  generalize mapF (-1) 0 0 1 0 0 l = f at *
  clear hR
  go_enter Try.func26, Try.ntmps26
  go_wp2_with fail
  refine K.out.mono ?_; rintro e w2 ⟨A2, c2, rfl, q1, q2, hb2, q3⟩
  go_wp2_with fail
  go_ret2
  exact ⟨A2, c2, rfl, q1, q2, hb2, q3⟩
end Go.Proofs.Ytldnnegjhocmhaa
