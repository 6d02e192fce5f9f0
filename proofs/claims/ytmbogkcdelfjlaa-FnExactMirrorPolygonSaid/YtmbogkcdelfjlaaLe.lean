/- contracts: polygons told backwards, turned, mirrored and moved, on both sides -/
import Derived.Test.YtmbogkcdelfjlaaLd
import Derived.Test.YtmbogkcdelfjlaaQg
import Derived.Test.YtmbogkcdelfjlaaLb
import Derived.Test.YtmbogkcdelfjlaaLk
namespace Go.Proofs.Ytmbogkcdelfjlaa
open Go.ChangeShapes Go.WideShapes Go.ChangeAt Go.RowKit Go.Joins
set_option linter.unusedVariables false
set_option linter.unusedSimpArgs false
set_option maxRecDepth 4000
theorem backF_mod (l : List (Int × Int)) : firsts (fun i => vx l ((l.length - i) % l.length)) l.length = firsts (backF l) l.length := by
  unfold firsts backF
  congr 1
  funext i
  exact vx_per l _
theorem turned_any (p1 p2 : Int) (w : World) (h1 : -40 ≤ p1) (h2 : p1 ≤ 40) (h3 : -40 ≤ p2) (h4 : p2 ≤ 40) :
    Calls Try.prog 55 #[.agg #[.int .i64 p1, .int .i64 p2]] w fun e w' => e = .returned (.agg #[.int .i64 (-p2), .int .i64 (p1)]) ∧ Below w.heap.size w w' := by
  go_enter Try.func55, Try.ntmps55
  go_wp2
  exact bodyPost_ret (v := .agg #[.int .i64 (-p2), .int .i64 (p1)]) (by simp [results, Try.results55, go_sem]) rfl ⟨rfl, (by repeat (first | exact Below.refl _ _ | assumption | apply Below.drew | refine Below.alloc ?_ (by simp <;> omega) _))⟩
theorem specTurnPolygon_any (A : Option Addr) (c : Nat) (l : List (Int × Int)) (w : World) (hn : l.length ≤ 1048576) (hcap : l.length ≤ c) (hc2 : c ≤ 9223372036854775807) (hR : Rd w w.heap.size A l) :
    Calls Try.prog 31 #[.slice A l.length c] w (RetL w (sel (goodB l && allB (mapF 0 (-1) 1 0 0 0 l) l.length) (firsts (mapF 0 (-1) 1 0 0 0 l) l.length)) (goodB l && allB (mapF 0 (-1) 1 0 0 0 l) l.length)) := by
  have K := Lib.hid (pgGood_any A c l w hn hcap hc2 hR)
  by_cases hg : Good l
  · have hgt := goodB_true hg
    rw [hgt] at K ⊢
    rw [Bool.true_and]
    have K2 := Lib.hid (fun W (hb : Below w.heap.size w W) => pgMap_any A c l 0 (-1) 1 0 0 0 W (good_pos hg) hg.few.2 hg.pegs (rd_more (rd_below hR hb (Nat.le_refl _)) hb.size) (by omega) (by omega) (by omega) (by omega) (by omega) (by omega))
    generalize mapF 0 (-1) 1 0 0 0 l = f at *
    clear hgt hg hR
    go_enter Try.func31, Try.ntmps31
    go_wp2_with fail
    refine K.out.mono ?_; rintro e w1 ⟨rfl, hb1⟩
    go_wp2_with fail
    refine (K2.out w1 hb1).mono ?_; rintro e w2 ⟨A2, c2, rfl, q1, q2, hb2, q3⟩
    go_wp2_with fail
    go_ret2
    exact retL_up hb1 ⟨A2, c2, rfl, q1, q2, hb2, q3⟩
  · have hgf := goodB_false hg
    rw [hgf] at K ⊢
    rw [Bool.false_and]
    clear hgf hg hR
    go_enter Try.func31, Try.ntmps31
    go_wp2_with fail
    refine K.out.mono ?_; rintro e w1 ⟨rfl, hb1⟩
    go_wp2_with fail
    go_ret2
    exact retL_nil hb1
theorem implTurnPolygon_any (A : Option Addr) (c : Nat) (l : List (Int × Int)) (w : World) (hn : l.length ≤ 1048576) (hR : Rd w w.heap.size A l) :
    Calls Try.prog 32 #[.slice A l.length c] w (RetL w (sel (goodB l && allB (mapF 0 (-1) 1 0 0 0 l) l.length) (firsts (mapF 0 (-1) 1 0 0 0 l) l.length)) (goodB l && allB (mapF 0 (-1) 1 0 0 0 l) l.length)) := by
  have K := Lib.hid (bringCorners_any A c l 55 #[] (mapF 0 (-1) 1 0 0 0 l) w hn hR Try.call55 (fun hg i hi W hb => by
    have hp := hg.pegs i hi
    unfold isPg isPegB at hp
    simp only [Bool.and_eq_true, decide_eq_true_eq] at hp
    have e1 : (mapF 0 (-1) 1 0 0 0 l i).1 = -(vx l i).2 := by unfold mapF; simp
    have e2 : (mapF 0 (-1) 1 0 0 0 l i).2 = (vx l i).1 := by unfold mapF; simp
    rw [e1, e2]
    exact turned_any _ _ W (by omega) (by omega) (by omega) (by omega)))
  generalize (goodB l && allB (mapF 0 (-1) 1 0 0 0 l) l.length) = b at *
  generalize mapF 0 (-1) 1 0 0 0 l = f at *
  clear hR
  go_enter Try.func32, Try.ntmps32
  go_wp2_with fail
  refine K.out.mono ?_; rintro e w2 ⟨A2, c2, rfl, q1, q2, hb2, q3⟩
  go_wp2_with fail
  go_ret2
  exact ⟨A2, c2, rfl, q1, q2, hb2, q3⟩
theorem mirrored_any (p1 p2 : Int) (w : World) (h1 : -40 ≤ p1) (h2 : p1 ≤ 40) (h3 : -40 ≤ p2) (h4 : p2 ≤ 40) :
    Calls Try.prog 51 #[.agg #[.int .i64 p1, .int .i64 p2]] w fun e w' => e = .returned (.agg #[.int .i64 (-p1), .int .i64 (p2)]) ∧ Below w.heap.size w w' := by
  go_enter Try.func51, Try.ntmps51
  go_wp2
  exact bodyPost_ret (v := .agg #[.int .i64 (-p1), .int .i64 (p2)]) (by simp [results, Try.results51, go_sem]) rfl ⟨rfl, (by repeat (first | exact Below.refl _ _ | assumption | apply Below.drew | refine Below.alloc ?_ (by simp <;> omega) _))⟩
theorem specMirrorPolygon_any (A : Option Addr) (c : Nat) (l : List (Int × Int)) (w : World) (hn : l.length ≤ 1048576) (hcap : l.length ≤ c) (hc2 : c ≤ 9223372036854775807) (hR : Rd w w.heap.size A l) :
    Calls Try.prog 25 #[.slice A l.length c] w (RetL w (sel (goodB l && allB (mapF (-1) 0 0 1 0 0 l) l.length) (firsts (mapF (-1) 0 0 1 0 0 l) l.length)) (goodB l && allB (mapF (-1) 0 0 1 0 0 l) l.length)) := by
  have K := Lib.hid (pgGood_any A c l w hn hcap hc2 hR)
  by_cases hg : Good l
  · have hgt := goodB_true hg
    rw [hgt] at K ⊢
    rw [Bool.true_and]
    have K2 := Lib.hid (fun W (hb : Below w.heap.size w W) => pgMap_any A c l (-1) 0 0 1 0 0 W (good_pos hg) hg.few.2 hg.pegs (rd_more (rd_below hR hb (Nat.le_refl _)) hb.size) (by omega) (by omega) (by omega) (by omega) (by omega) (by omega))
    generalize mapF (-1) 0 0 1 0 0 l = f at *
    clear hgt hg hR
    go_enter Try.func25, Try.ntmps25
    go_wp2_with fail
    refine K.out.mono ?_; rintro e w1 ⟨rfl, hb1⟩
    go_wp2_with fail
    refine (K2.out w1 hb1).mono ?_; rintro e w2 ⟨A2, c2, rfl, q1, q2, hb2, q3⟩
    go_wp2_with fail
    go_ret2
    exact retL_up hb1 ⟨A2, c2, rfl, q1, q2, hb2, q3⟩
  · have hgf := goodB_false hg
    rw [hgf] at K ⊢
    rw [Bool.false_and]
    clear hgf hg hR
    go_enter Try.func25, Try.ntmps25
    go_wp2_with fail
    refine K.out.mono ?_; rintro e w1 ⟨rfl, hb1⟩
    go_wp2_with fail
    go_ret2
    exact retL_nil hb1
theorem implMirrorPolygon_any (A : Option Addr) (c : Nat) (l : List (Int × Int)) (w : World) (hn : l.length ≤ 1048576) (hR : Rd w w.heap.size A l) :
    Calls Try.prog 26 #[.slice A l.length c] w (RetL w (sel (goodB l && allB (mapF (-1) 0 0 1 0 0 l) l.length) (firsts (mapF (-1) 0 0 1 0 0 l) l.length)) (goodB l && allB (mapF (-1) 0 0 1 0 0 l) l.length)) := by
  have K := Lib.hid (bringCorners_any A c l 51 #[] (mapF (-1) 0 0 1 0 0 l) w hn hR Try.call51 (fun hg i hi W hb => by
    have hp := hg.pegs i hi
    unfold isPg isPegB at hp
    simp only [Bool.and_eq_true, decide_eq_true_eq] at hp
    have e1 : (mapF (-1) 0 0 1 0 0 l i).1 = -(vx l i).1 := by unfold mapF; simp
    have e2 : (mapF (-1) 0 0 1 0 0 l i).2 = (vx l i).2 := by unfold mapF; simp
    rw [e1, e2]
    exact mirrored_any _ _ W (by omega) (by omega) (by omega) (by omega)))
  generalize (goodB l && allB (mapF (-1) 0 0 1 0 0 l) l.length) = b at *
  generalize mapF (-1) 0 0 1 0 0 l = f at *
  clear hR
  go_enter Try.func26, Try.ntmps26
  go_wp2_with fail
  refine K.out.mono ?_; rintro e w2 ⟨A2, c2, rfl, q1, q2, hb2, q3⟩
  go_wp2_with fail
  go_ret2
  exact ⟨A2, c2, rfl, q1, q2, hb2, q3⟩
end Go.Proofs.Ytmbogkcdelfjlaa
