/- The law FnExactTangentsFrom returns true at every list of points, whatever its length and numbers, and any point, and changes nothing: the program tells the corners of the band that are seen first to the right and to the left from a peg outside as its model does, and fails where it does. -/
import Derived.Test.YthpbnfmfedggjaaVZ
import Derived.Test.YthpbnfmfedggjaaKZ
import Derived.Deep.CutRange
import Derived.Deep.RegionWith
import Derived.Deep.DeepMust
namespace Go.Proofs.Ythpbnfmfedggjaa
open Go.ChangeShapes Go.WideShapes Go.ChangeAt Go.RowKit Go.Joins
set_option linter.unusedVariables false
set_option linter.unusedSimpArgs false
set_option maxRecDepth 4000
theorem fineL : Try.prog.readableRec 22 = true ∧ 22 < Try.prog.types.size := ⟨by kernel_rfl, of_decide_eq_true (by kernel_rfl)⟩
set_option maxHeartbeats 40000000 in
theorem tangentsFrom_walk (A : Option Addr) (c : Nat) (l : List (Int × Int)) (p1 p2 : Int) (w : World) (hcap : l.length ≤ c) (hc2 : c ≤ 9223372036854775807) (hR : Rd w w.heap.size A l) :
    Calls Try.prog 14 #[.slice A l.length c, .agg #[.int .i64 p1, .int .i64 p2]] w fun e w' => e = .returned (.bool true) ∧ Below w.heap.size w w' := by
  have K0 := Lib.hid (fun W => szPegS_any A l.length c 1048576 W (by omega) (by omega) (by omega))
  by_cases hbig : 1048576 < l.length
  · rw [if_pos (by omega)] at K0
    clear hR
    go_enter Try.func14, Try.ntmps14
    go_wp2_with fail
    obtain ⟨Wa, hWa⟩ : ∃ Wa, Wa = (w.alloc (.cells #[.int .i64 p1, .int .i64 p2] 35)) := ⟨_, rfl⟩
    rw [← hWa]
    have yWa0_0 : Wa.cell? ⟨w.heap.size, 0, none⟩ = some (.int .i64 p1) := by rw [hWa]; go_simp
    have yWa0_1 : Wa.cell? ⟨w.heap.size, 1, none⟩ = some (.int .i64 p2) := by rw [hWa]; go_simp
    have fWa0 : ∀ o, Wa.frozen? ⟨w.heap.size, o, none⟩ = false := by intro o; rw [hWa]; (repeat rw [frozen?_alloc_cells]); simp [World.frozen?]
    have zWa0 : w.heap.size < Wa.heap.size := by rw [hWa]; simp <;> omega
    have BWa : Below w.heap.size w Wa := by rw [hWa]; exact (Below.alloc (Below.refl _ _) (by simp <;> omega) _)
    have eWa : Hid (Wa.heap.size = w.heap.size + 1) := Lib.hid (by rw [hWa]; simp)
    clear hWa
    refine (K0.out _).mono ?_; rintro e _ ⟨rfl, rfl⟩
    go_wp2_with fail
    go_ret
    exact ⟨rfl, BWa⟩
  · rw [if_neg (by omega)] at K0
    have hle : l.length ≤ 1048576 := by omega
    have hz : (0 : Int) ≤ 1048576 - (l.length : Int) := by omega
    have KT := Lib.hid (fun W (hb : Below w.heap.size w W) => toPegS_any A c l W hle (rd_more (rd_below hR hb (Nat.le_refl _)) hb.size))
    have KS := Lib.hid (fun W g (h : Set W g l.length l.length l) => specTangentsFrom_any (some ⟨g, 0, none⟩) l.length l p1 p2 W hle (Nat.le_refl _) (by omega) (rd_of_set h))
    have KI := Lib.hid (fun W g (h : Set W g l.length l.length l) => implTangentsFrom_any (some ⟨g, 0, none⟩) l.length l p1 p2 W hle (Nat.le_refl _) (by omega) (rd_of_set h))
    have KE := Lib.hid (fun W g g' (h : Set W g l.length l.length l) (h' : Set W g' l.length l.length l) => (eqPegS_any (some ⟨g, 0, none⟩) (some ⟨g', 0, none⟩) l.length l.length l l W hle hle (rd_of_set h) (rd_of_set h')).mono fun e w' hh => (show e = .returned (.bool true) ∧ Below W.heap.size W w' from ⟨hh.1.trans (ret_bool (by simp)), hh.2⟩))
    have KP := Lib.hid (fun W => toPeg_any p1 p2 W)
    have KQ := Lib.hid (fun x y W => (eqPeg_any x y x y W).mono fun e w' hh => (show e = .returned (.bool true) ∧ Below W.heap.size W w' from ⟨hh.1.trans (ret_bool (by simp)), hh.2⟩))
    clear hR hbig hle
    generalize tzS l p1 p2 0 = gg0 at *
    generalize tzS l p1 p2 1 = gg1 at *
    generalize tzS l p1 p2 2 = gg2 at *
    generalize tzS l p1 p2 3 = gg3 at *
    generalize tzO l p1 p2 = gg4 at *
    go_enter Try.func14, Try.ntmps14
    go_wp2_with fail
    obtain ⟨Wa, hWa⟩ : ∃ Wa, Wa = (w.alloc (.cells #[.int .i64 p1, .int .i64 p2] 35)) := ⟨_, rfl⟩
    rw [← hWa]
    have yWa0_0 : Wa.cell? ⟨w.heap.size, 0, none⟩ = some (.int .i64 p1) := by rw [hWa]; go_simp
    have yWa0_1 : Wa.cell? ⟨w.heap.size, 1, none⟩ = some (.int .i64 p2) := by rw [hWa]; go_simp
    have fWa0 : ∀ o, Wa.frozen? ⟨w.heap.size, o, none⟩ = false := by intro o; rw [hWa]; (repeat rw [frozen?_alloc_cells]); simp [World.frozen?]
    have zWa0 : w.heap.size < Wa.heap.size := by rw [hWa]; simp <;> omega
    have BWa : Below w.heap.size w Wa := by rw [hWa]; exact (Below.alloc (Below.refl _ _) (by simp <;> omega) _)
    have eWa : Hid (Wa.heap.size = w.heap.size + 1) := Lib.hid (by rw [hWa]; simp)
    clear hWa
    clear fWa0 eWa
    refine (K0.out _).mono ?_; rintro e _ ⟨rfl, rfl⟩
    go_upto_region 5 with fail
    go_cut [6, 7, 8] from 18 to 26 (fun p q r wx => ∃ ga gb : Nat, p = .pointer (some ⟨ga, 0, none⟩) ∧ q = .pointer (some ⟨gb, 0, none⟩) ∧ r = .bool gg4 ∧ Below w.heap.size w wx ∧ w.heap.size < wx.heap.size ∧ wx.cell? ⟨w.heap.size, 0, none⟩ = some (.int .i64 p1) ∧ wx.cell? ⟨w.heap.size, 1, none⟩ = some (.int .i64 p2) ∧ ga < wx.heap.size ∧ gb < wx.heap.size ∧ wx.cell? ⟨ga, 0, none⟩ = some (.int .i64 gg0) ∧ wx.cell? ⟨ga, 1, none⟩ = some (.int .i64 gg1) ∧ wx.cell? ⟨gb, 0, none⟩ = some (.int .i64 gg2) ∧ wx.cell? ⟨gb, 1, none⟩ = some (.int .i64 gg3))
    case first =>
      have zA0 : w.heap.size < Wa.heap.size := zWa0
      go_region_with (first
        | (go_at_call 17; go_loud (refine (KT.out _ (by repeat (first | with_reducible assumption | with_reducible exact Below.refl _ _ | with_reducible apply Below.drew | ((with_reducible refine Below.setCell ?_ ?_ _); rotate_left; (first | exact Nat.le_refl _ | omega | (simp <;> omega))) | ((with_reducible refine Below.alloc ?_ ?_ _); rotate_left; (first | omega | (simp <;> omega)))))).mono ?_); rintro e wA ⟨rfl, hbA, hsA⟩;
           have hcA := (bcell hbA).1;
           have hfA := (bcell hbA).2;
           have BA : Below w.heap.size w wA := below_grow (by repeat (first | with_reducible assumption | with_reducible exact Below.refl _ _ | with_reducible apply Below.drew | ((with_reducible refine Below.setCell ?_ ?_ _); rotate_left; (first | exact Nat.le_refl _ | omega | (simp <;> omega))) | ((with_reducible refine Below.alloc ?_ ?_ _); rotate_left; (first | omega | (simp <;> omega))))) hbA;
           have uA := hbA.size;
           (try simp at uA);
           (try simp at hsA);
           have zA : w.heap.size < wA.heap.size := (by omega);
           have yA0 : wA.cell? ⟨w.heap.size, 0, none⟩ = some (.int .i64 p1) := (hcA _ 0 (by first | omega | (simp <;> omega))).trans (by go_simp);
           have yA1 : wA.cell? ⟨w.heap.size, 1, none⟩ = some (.int .i64 p2) := (hcA _ 1 (by first | omega | (simp <;> omega))).trans (by go_simp);
           (first | (have qA000 : wA.cell? ⟨Wa.heap.size, 0, none⟩ = some (.int .i64 0) := (hcA (Wa.heap.size) 0 (by first | omega | (simp <;> omega))).trans (by (go_simp; done)); have qA001 : wA.cell? ⟨Wa.heap.size, 1, none⟩ = some (.int .i64 0) := (hcA (Wa.heap.size) 1 (by first | omega | (simp <;> omega))).trans (by (go_simp; done)); have qA002 : wA.frozen? ⟨Wa.heap.size, 0, none⟩ = false := (hfA (Wa.heap.size) 0 (by first | omega | (simp <;> omega))).trans (by (go_simp; done)); have qA003 : wA.frozen? ⟨Wa.heap.size, 1, none⟩ = false := (hfA (Wa.heap.size) 1 (by first | omega | (simp <;> omega))).trans (by (go_simp; done)); have qA004 : Wa.heap.size < wA.heap.size := (by omega)) | skip);
           (first | (have qA010 : wA.cell? ⟨Wa.heap.size + 1, 0, none⟩ = some (.int .i64 0) := (hcA (Wa.heap.size + 1) 0 (by first | omega | (simp <;> omega))).trans (by (go_simp; done)); have qA011 : wA.cell? ⟨Wa.heap.size + 1, 1, none⟩ = some (.int .i64 0) := (hcA (Wa.heap.size + 1) 1 (by first | omega | (simp <;> omega))).trans (by (go_simp; done)); have qA012 : wA.frozen? ⟨Wa.heap.size + 1, 0, none⟩ = false := (hfA (Wa.heap.size + 1) 0 (by first | omega | (simp <;> omega))).trans (by (go_simp; done)); have qA013 : wA.frozen? ⟨Wa.heap.size + 1, 1, none⟩ = false := (hfA (Wa.heap.size + 1) 1 (by first | omega | (simp <;> omega))).trans (by (go_simp; done)); have qA014 : Wa.heap.size + 1 < wA.heap.size := (by omega)) | skip);
           clear hbA hcA hfA)
        | (go_at_call 29; go_must (with_reducible refine (KP.out _).mono ?_); rintro e wB ⟨rfl, hbB⟩;
           have hcB := (bcell hbB).1;
           have hfB := (bcell hbB).2;
           have hsB := set_below hsA (below_grow (by repeat (first | with_reducible assumption | with_reducible exact Below.refl _ _ | with_reducible apply Below.drew | ((with_reducible refine Below.setCell ?_ ?_ _); rotate_left; (first | exact Nat.le_refl _ | omega | (simp <;> omega))) | ((with_reducible refine Below.alloc ?_ ?_ _); rotate_left; (first | omega | (simp <;> omega))))) hbB);
           have BB : Below w.heap.size w wB := below_grow (by repeat (first | with_reducible assumption | with_reducible exact Below.refl _ _ | with_reducible apply Below.drew | ((with_reducible refine Below.setCell ?_ ?_ _); rotate_left; (first | exact Nat.le_refl _ | omega | (simp <;> omega))) | ((with_reducible refine Below.alloc ?_ ?_ _); rotate_left; (first | omega | (simp <;> omega))))) hbB;
           have uB := hbB.size;
           (try simp at uB);
           have zB : w.heap.size < wB.heap.size := (by omega);
           have yB0 : wB.cell? ⟨w.heap.size, 0, none⟩ = some (.int .i64 p1) := (hcB _ 0 (by first | omega | (simp <;> omega))).trans (by go_simp);
           have yB1 : wB.cell? ⟨w.heap.size, 1, none⟩ = some (.int .i64 p2) := (hcB _ 1 (by first | omega | (simp <;> omega))).trans (by go_simp);
           (first | (have gg := qA000; have qB000 : wB.cell? ⟨Wa.heap.size, 0, none⟩ = some (.int .i64 0) := (hcB (Wa.heap.size) 0 (by first | omega | (simp <;> omega))).trans (by (go_simp; done)); have qB001 : wB.cell? ⟨Wa.heap.size, 1, none⟩ = some (.int .i64 0) := (hcB (Wa.heap.size) 1 (by first | omega | (simp <;> omega))).trans (by (go_simp; done)); have qB002 : wB.frozen? ⟨Wa.heap.size, 0, none⟩ = false := (hfB (Wa.heap.size) 0 (by first | omega | (simp <;> omega))).trans (by (go_simp; done)); have qB003 : wB.frozen? ⟨Wa.heap.size, 1, none⟩ = false := (hfB (Wa.heap.size) 1 (by first | omega | (simp <;> omega))).trans (by (go_simp; done)); have qB004 : Wa.heap.size < wB.heap.size := (by omega)) | skip);
           (first | (have gg := qA010; have qB010 : wB.cell? ⟨Wa.heap.size + 1, 0, none⟩ = some (.int .i64 0) := (hcB (Wa.heap.size + 1) 0 (by first | omega | (simp <;> omega))).trans (by (go_simp; done)); have qB011 : wB.cell? ⟨Wa.heap.size + 1, 1, none⟩ = some (.int .i64 0) := (hcB (Wa.heap.size + 1) 1 (by first | omega | (simp <;> omega))).trans (by (go_simp; done)); have qB012 : wB.frozen? ⟨Wa.heap.size + 1, 0, none⟩ = false := (hfB (Wa.heap.size + 1) 0 (by first | omega | (simp <;> omega))).trans (by (go_simp; done)); have qB013 : wB.frozen? ⟨Wa.heap.size + 1, 1, none⟩ = false := (hfB (Wa.heap.size + 1) 1 (by first | omega | (simp <;> omega))).trans (by (go_simp; done)); have qB014 : Wa.heap.size + 1 < wB.heap.size := (by omega)) | skip);
           (first | (have qB100 : wB.cell? ⟨wA.heap.size, 0, none⟩ = some (.int .i64 0) := (hcB (wA.heap.size) 0 (by first | omega | (simp <;> omega))).trans (by (go_simp; done)); have qB101 : wB.cell? ⟨wA.heap.size, 1, none⟩ = some (.int .i64 0) := (hcB (wA.heap.size) 1 (by first | omega | (simp <;> omega))).trans (by (go_simp; done)); have qB102 : wB.frozen? ⟨wA.heap.size, 0, none⟩ = false := (hfB (wA.heap.size) 0 (by first | omega | (simp <;> omega))).trans (by (go_simp; done)); have qB103 : wB.frozen? ⟨wA.heap.size, 1, none⟩ = false := (hfB (wA.heap.size) 1 (by first | omega | (simp <;> omega))).trans (by (go_simp; done)); have qB104 : wA.heap.size < wB.heap.size := (by omega)) | skip);
           (first | (have qB110 : wB.cell? ⟨wA.heap.size + 1, 0, none⟩ = some (.int .i64 0) := (hcB (wA.heap.size + 1) 0 (by first | omega | (simp <;> omega))).trans (by (go_simp; done)); have qB111 : wB.cell? ⟨wA.heap.size + 1, 1, none⟩ = some (.int .i64 0) := (hcB (wA.heap.size + 1) 1 (by first | omega | (simp <;> omega))).trans (by (go_simp; done)); have qB112 : wB.frozen? ⟨wA.heap.size + 1, 0, none⟩ = false := (hfB (wA.heap.size + 1) 0 (by first | omega | (simp <;> omega))).trans (by (go_simp; done)); have qB113 : wB.frozen? ⟨wA.heap.size + 1, 1, none⟩ = false := (hfB (wA.heap.size + 1) 1 (by first | omega | (simp <;> omega))).trans (by (go_simp; done)); have qB114 : wA.heap.size + 1 < wB.heap.size := (by omega)) | skip);
           clear hbB hcB hfB)
        | (go_at_call 46; go_must (with_reducible refine (KS.out _ _ (set_below hsB (by repeat (first | with_reducible assumption | with_reducible exact Below.refl _ _ | with_reducible apply Below.drew | ((with_reducible refine Below.setCell ?_ ?_ _); rotate_left; (first | exact Nat.le_refl _ | omega | (simp <;> omega))) | ((with_reducible refine Below.alloc ?_ ?_ _); rotate_left; (first | omega | (simp <;> omega))))))).mono ?_); rintro e wC ⟨rfl, hbC⟩;
           have hcC := (bcell hbC).1;
           have hfC := (bcell hbC).2;
           have BC : Below w.heap.size w wC := below_grow (by repeat (first | with_reducible assumption | with_reducible exact Below.refl _ _ | with_reducible apply Below.drew | ((with_reducible refine Below.setCell ?_ ?_ _); rotate_left; (first | exact Nat.le_refl _ | omega | (simp <;> omega))) | ((with_reducible refine Below.alloc ?_ ?_ _); rotate_left; (first | omega | (simp <;> omega))))) hbC;
           have uC := hbC.size;
           (try simp at uC);
           have zC : w.heap.size < wC.heap.size := (by omega);
           have yC0 : wC.cell? ⟨w.heap.size, 0, none⟩ = some (.int .i64 p1) := (hcC _ 0 (by first | omega | (simp <;> omega))).trans (by go_simp);
           have yC1 : wC.cell? ⟨w.heap.size, 1, none⟩ = some (.int .i64 p2) := (hcC _ 1 (by first | omega | (simp <;> omega))).trans (by go_simp);
           (first | (have gg := qB000; have qC000 : wC.cell? ⟨Wa.heap.size, 0, none⟩ = some (.int .i64 0) := (hcC (Wa.heap.size) 0 (by first | omega | (simp <;> omega))).trans (by (go_simp; done)); have qC001 : wC.cell? ⟨Wa.heap.size, 1, none⟩ = some (.int .i64 0) := (hcC (Wa.heap.size) 1 (by first | omega | (simp <;> omega))).trans (by (go_simp; done)); have qC002 : wC.frozen? ⟨Wa.heap.size, 0, none⟩ = false := (hfC (Wa.heap.size) 0 (by first | omega | (simp <;> omega))).trans (by (go_simp; done)); have qC003 : wC.frozen? ⟨Wa.heap.size, 1, none⟩ = false := (hfC (Wa.heap.size) 1 (by first | omega | (simp <;> omega))).trans (by (go_simp; done)); have qC004 : Wa.heap.size < wC.heap.size := (by omega)) | skip);
           (first | (have gg := qB010; have qC010 : wC.cell? ⟨Wa.heap.size + 1, 0, none⟩ = some (.int .i64 0) := (hcC (Wa.heap.size + 1) 0 (by first | omega | (simp <;> omega))).trans (by (go_simp; done)); have qC011 : wC.cell? ⟨Wa.heap.size + 1, 1, none⟩ = some (.int .i64 0) := (hcC (Wa.heap.size + 1) 1 (by first | omega | (simp <;> omega))).trans (by (go_simp; done)); have qC012 : wC.frozen? ⟨Wa.heap.size + 1, 0, none⟩ = false := (hfC (Wa.heap.size + 1) 0 (by first | omega | (simp <;> omega))).trans (by (go_simp; done)); have qC013 : wC.frozen? ⟨Wa.heap.size + 1, 1, none⟩ = false := (hfC (Wa.heap.size + 1) 1 (by first | omega | (simp <;> omega))).trans (by (go_simp; done)); have qC014 : Wa.heap.size + 1 < wC.heap.size := (by omega)) | skip);
           (first | (have gg := qB100; have qC100 : wC.cell? ⟨wA.heap.size, 0, none⟩ = some (.int .i64 0) := (hcC (wA.heap.size) 0 (by first | omega | (simp <;> omega))).trans (by (go_simp; done)); have qC101 : wC.cell? ⟨wA.heap.size, 1, none⟩ = some (.int .i64 0) := (hcC (wA.heap.size) 1 (by first | omega | (simp <;> omega))).trans (by (go_simp; done)); have qC102 : wC.frozen? ⟨wA.heap.size, 0, none⟩ = false := (hfC (wA.heap.size) 0 (by first | omega | (simp <;> omega))).trans (by (go_simp; done)); have qC103 : wC.frozen? ⟨wA.heap.size, 1, none⟩ = false := (hfC (wA.heap.size) 1 (by first | omega | (simp <;> omega))).trans (by (go_simp; done)); have qC104 : wA.heap.size < wC.heap.size := (by omega)) | skip);
           (first | (have gg := qB110; have qC110 : wC.cell? ⟨wA.heap.size + 1, 0, none⟩ = some (.int .i64 0) := (hcC (wA.heap.size + 1) 0 (by first | omega | (simp <;> omega))).trans (by (go_simp; done)); have qC111 : wC.cell? ⟨wA.heap.size + 1, 1, none⟩ = some (.int .i64 0) := (hcC (wA.heap.size + 1) 1 (by first | omega | (simp <;> omega))).trans (by (go_simp; done)); have qC112 : wC.frozen? ⟨wA.heap.size + 1, 0, none⟩ = false := (hfC (wA.heap.size + 1) 0 (by first | omega | (simp <;> omega))).trans (by (go_simp; done)); have qC113 : wC.frozen? ⟨wA.heap.size + 1, 1, none⟩ = false := (hfC (wA.heap.size + 1) 1 (by first | omega | (simp <;> omega))).trans (by (go_simp; done)); have qC114 : wA.heap.size + 1 < wC.heap.size := (by omega)) | skip);
           (first | (have qC200 : wC.cell? ⟨wB.heap.size, 0, none⟩ = some (.int .i64 0) := (hcC (wB.heap.size) 0 (by first | omega | (simp <;> omega))).trans (by (go_simp; done)); have qC201 : wC.cell? ⟨wB.heap.size, 1, none⟩ = some (.int .i64 0) := (hcC (wB.heap.size) 1 (by first | omega | (simp <;> omega))).trans (by (go_simp; done)); have qC202 : wC.frozen? ⟨wB.heap.size, 0, none⟩ = false := (hfC (wB.heap.size) 0 (by first | omega | (simp <;> omega))).trans (by (go_simp; done)); have qC203 : wC.frozen? ⟨wB.heap.size, 1, none⟩ = false := (hfC (wB.heap.size) 1 (by first | omega | (simp <;> omega))).trans (by (go_simp; done)); have qC204 : wB.heap.size < wC.heap.size := (by omega)) | skip);
           (first | (have qC210 : wC.cell? ⟨wB.heap.size + 1, 0, none⟩ = some (.int .i64 0) := (hcC (wB.heap.size + 1) 0 (by first | omega | (simp <;> omega))).trans (by (go_simp; done)); have qC211 : wC.cell? ⟨wB.heap.size + 1, 1, none⟩ = some (.int .i64 0) := (hcC (wB.heap.size + 1) 1 (by first | omega | (simp <;> omega))).trans (by (go_simp; done)); have qC212 : wC.frozen? ⟨wB.heap.size + 1, 0, none⟩ = false := (hfC (wB.heap.size + 1) 0 (by first | omega | (simp <;> omega))).trans (by (go_simp; done)); have qC213 : wC.frozen? ⟨wB.heap.size + 1, 1, none⟩ = false := (hfC (wB.heap.size + 1) 1 (by first | omega | (simp <;> omega))).trans (by (go_simp; done)); have qC214 : wB.heap.size + 1 < wC.heap.size := (by omega)) | skip);
           clear hbC hcC hfC))
      all_goals
        go_wp2_with fail
        go_meet
        case rel =>
          refine ⟨_, _, rfl, rfl, rfl, ?_, by simp; omega, by go_simp, by go_simp, by simp <;> omega, by simp <;> omega, by go_simp, by go_simp, by go_simp, by go_simp⟩
          repeat (first | with_reducible assumption | with_reducible exact Below.refl _ _ | with_reducible apply Below.drew | ((with_reducible refine Below.setCell ?_ ?_ _); rotate_left; (first | exact Nat.le_refl _ | omega | (simp <;> omega))) | ((with_reducible refine Below.alloc ?_ ?_ _); rotate_left; (first | omega | (simp <;> omega))))
    case rest =>
    obtain ⟨ga, gb, rfl, rfl, rfl, B2, z2, y0, y1, za, zb, a0, a1, b0, b1⟩ := hcut
    clear BWa yWa0_0 yWa0_1 zWa0 KS K0
    go_wp2_with fail
    refine (KT.out wc B2).mono ?_; rintro e w3 ⟨rfl, hb3, hs3⟩
    have B3 : Below w.heap.size w w3 := B2.trans (hb3.mono B2.size)
    have x0 := ((bcell hb3).1 _ _ z2).trans y0
    have x1 := ((bcell hb3).1 _ _ z2).trans y1
    have a2 := ((bcell hb3).1 _ _ za).trans a0
    have a3 := ((bcell hb3).1 _ _ za).trans a1
    have b2 := ((bcell hb3).1 _ _ zb).trans b0
    have b3 := ((bcell hb3).1 _ _ zb).trans b1
    have z3 : w.heap.size < w3.heap.size := Nat.lt_of_lt_of_le z2 hb3.size
    have za3 := Nat.lt_of_lt_of_le za hb3.size
    have zb3 := Nat.lt_of_lt_of_le zb hb3.size
    generalize wc.heap.size = g at *
    clear hb3 B2 y0 y1 z2 a0 a1 b0 b1 za zb
    go_wp2_with fail
    refine (KP.out _).mono ?_; rintro e w4 ⟨rfl, hb4⟩
    have B4 : Below w.heap.size w w4 := B3.trans (hb4.mono B3.size)
    have hs4 := set_below hs3 hb4
    have a4 := ((bcell hb4).1 _ _ za3).trans a2
    have a5 := ((bcell hb4).1 _ _ za3).trans a3
    have b4 := ((bcell hb4).1 _ _ zb3).trans b2
    have b5 := ((bcell hb4).1 _ _ zb3).trans b3
    have za4 := Nat.lt_of_lt_of_le za3 hb4.size
    have zb4 := Nat.lt_of_lt_of_le zb3 hb4.size
    clear hb4 B3 hs3 x0 x1 z3 a2 a3 b2 b3 za3 zb3
    go_wp2_with fail
    refine (KI.out w4 _ hs4).mono ?_; rintro e w5 ⟨rfl, hb5⟩
    have B5 : Below w.heap.size w w5 := B4.trans (hb5.mono B4.size)
    have hs5 := set_below hs4 hb5
    have a6 := ((bcell hb5).1 _ _ za4).trans a4
    have a7 := ((bcell hb5).1 _ _ za4).trans a5
    have b6 := ((bcell hb5).1 _ _ zb4).trans b4
    have b7 := ((bcell hb5).1 _ _ zb4).trans b5
    have za5 := Nat.lt_of_lt_of_le za4 hb5.size
    have zb5 := Nat.lt_of_lt_of_le zb4 hb5.size
    clear hb5 B4 hs4 a4 a5 b4 b5 za4 zb4
    go_wp2_with fail
    obtain ⟨W5, hW5⟩ : ∃ W5, W5 = ((w5.alloc (.cells #[.int .i64 gg0, .int .i64 gg1] 38)).alloc (.cells #[.int .i64 gg2, .int .i64 gg3] 38)) := ⟨_, rfl⟩
    rw [← hW5]
    have yW50_0 : W5.cell? ⟨w5.heap.size, 0, none⟩ = some (.int .i64 gg0) := by rw [hW5]; go_simp
    have yW50_1 : W5.cell? ⟨w5.heap.size, 1, none⟩ = some (.int .i64 gg1) := by rw [hW5]; go_simp
    have fW50 : ∀ o, W5.frozen? ⟨w5.heap.size, o, none⟩ = false := by intro o; rw [hW5]; (repeat rw [frozen?_alloc_cells]); simp [World.frozen?]
    have zW50 : w5.heap.size < W5.heap.size := by rw [hW5]; simp <;> omega
    have yW51_0 : W5.cell? ⟨w5.heap.size + 1, 0, none⟩ = some (.int .i64 gg2) := by rw [hW5]; go_simp
    have yW51_1 : W5.cell? ⟨w5.heap.size + 1, 1, none⟩ = some (.int .i64 gg3) := by rw [hW5]; go_simp
    have fW51 : ∀ o, W5.frozen? ⟨w5.heap.size + 1, o, none⟩ = false := by intro o; rw [hW5]; (repeat rw [frozen?_alloc_cells]); simp [World.frozen?]
    have zW51 : w5.heap.size + 1 < W5.heap.size := by rw [hW5]; simp <;> omega
    have BW5 : Below w5.heap.size w5 W5 := by rw [hW5]; exact (Below.alloc (Below.alloc (Below.refl _ _) (by simp <;> omega) _) (by simp <;> omega) _)
    have eW5 : Hid (W5.heap.size = w5.heap.size + 2) := Lib.hid (by rw [hW5]; simp)
    clear hW5
    have B5' := B5.trans (BW5.mono B5.size)
    have hs5' := set_below hs5 BW5
    have a8 := ((bcell BW5).1 _ _ zb5).trans b6
    have a9 := ((bcell BW5).1 _ _ zb5).trans b7
    have zb6 := Nat.lt_of_lt_of_le zb5 BW5.size
    clear a6 a7 b6 b7 za5 zb5 B5 hs5
    refine (KQ.out gg0 gg1 W5).mono ?_; rintro e w6 ⟨rfl, hb6⟩
    have B6 := B5'.trans (hb6.mono B5'.size)
    have hs6 := set_below hs5' hb6
    have h2 := ((bcell hb6).1 _ _ zb6).trans a8
    have h3 := ((bcell hb6).1 _ _ zb6).trans a9
    have h4 := ((bcell hb6).1 _ 0 zW51).trans yW51_0
    have h5 := ((bcell hb6).1 _ 1 zW51).trans yW51_1
    have zF := Nat.lt_of_lt_of_le zb6 hb6.size
    have zG : w5.heap.size + 1 < w6.heap.size := by have := hb6.size; omega
    clear hb6 B5' hs5' a8 a9 zb6 yW50_0 yW50_1 yW51_0 yW51_1 fW50 fW51 zW50 zW51 BW5
    go_wp2_with fail
    refine (KQ.out gg2 gg3 w6).mono ?_; rintro e w7 ⟨rfl, hb7⟩
    have B7 := B6.trans (hb7.mono B6.size)
    have hs7 := set_below hs6 hb7
    clear hb7 B6 hs6 h2 h3 h4 h5
    go_wp2_with fail
    refine (KT.out w7 B7).mono ?_; rintro e w8 ⟨rfl, hb8, hs8⟩
    have B8 : Below w.heap.size w w8 := B7.trans (hb8.mono B7.size)
    have hs9 := set_below hs7 hb8
    clear hb8 B7 hs7
    go_wp2_with fail
    refine (KE.out w8 _ _ hs9 hs8).mono ?_; rintro e w9 ⟨rfl, hb9⟩
    have B9 : Below w.heap.size w w9 := B8.trans (hb9.mono B8.size)
    go_wp2_with fail
    go_ret
    exact ⟨rfl, B9⟩
set_option maxRecDepth 100000 in
theorem tangentsFrom_lifted (os : Os) (started : os.Started) (H : Type) (enc : TypeId × Value → H) :
    ReturnsInHanded {} Try.checked os 14 .any (Rows.fnExactTangentsFromSpec.pre6 enc Try.prog Try.f14 Rows.fnExactTangentsFromRow.domain false) (Rows.fnExactTangentsFromSpec.post enc Try.prog Try.f14 false true false false) := by
  refine returnsInHanded_of_change (C := Try.checked) own started (by kernel_rfl) Try.func14
    (ChangeSpec.witness6 (enc := enc) (C := Try.checked) false ⟨#[], #[.slice none 0 0, .agg #[.int .i64 0, .int .i64 0]], []⟩ 8 (by kernel_rfl) (by kernel_rfl) (by kernel_rfl) (by kernel_rfl)) ?_
  intro W base args ds gs before hval0 hW hcnd _
  have hval : ∀ (j : Nat) t v, Try.f14.params[j]? = some t → args[j]? = some v → Value.okWide Try.prog W .any base t v := hval0
  have hW' := hW
  obtain ⟨p, q, hA0, hV, rfl, hfz, hnd⟩ := hW
  have hA : DataW.TrodAll enc Try.prog W 0 (fun _ => true) true Try.f14.params.toList args.toList ds p := hA0
  rw [Try.params14] at hA hval
  obtain ⟨v0, vs0, d0, ds0, p0, q0, hargs, rfl, rfl, h0, r0⟩ := trodAll_cons hA
  obtain ⟨v1, vs1, d1, ds1, p1, q1, rfl, rfl, rfl, h1, r1⟩ := trodAll_cons r0
  obtain ⟨rfl, rfl, rfl⟩ := trodAll_nil r1
  obtain rfl : args = #[v0, v1] := by cases args; simp_all
  obtain ⟨A0, c0, l0, rfl, hlc0, hcm0, hR0⟩ := open_pegs (hval 0 22 v0 rfl rfl) h0
  unfold maxLen at hcm0
  obtain ⟨c1a, c1b, y1a, y1b, m1, rfl, rfl, rfl, hy1a, hy1b⟩ := open_agg2 Try.underlying35 (by kernel_rfl) cells35 (hval 1 35 v1 rfl rfl) h1
  obtain ⟨x1, e1a, rfl, w1a⟩ := DataW.trod_int Try.underlying3 hy1a
  obtain ⟨y1, e1b, rfl, w1b⟩ := DataW.trod_int Try.underlying3 hy1b
  simp at e1a e1b
  subst e1a e1b
  refine (tangentsFrom_walk A0 c0 l0 x1 y1 W hlc0 hcm0 hR0).mono fun e W' ⟨he, hb⟩ => ?_
  subst he
  exact ⟨_, rfl, law_done hW' rfl (by kernel_rfl) (fun t ht => by rw [Try.params14] at ht; simp at ht; first | (rcases ht with rfl | rfl <;> first | exact fineL | exact fine35)) rfl hb⟩
theorem tangentsFrom_over : Rows.fnExactTangentsFromRow.holds Try.pinned (OpenSpec.ofChange Rows.fnExactTangentsFromSpec) :=
  OpenClaim.holds_of_wide 14 Try.f14 rfl rfl rfl rfl rfl rfl rfl ⟨rfl, rfl, rfl, rfl, rfl⟩ rfl rfl rfl rfl rfl (by kernel_rfl) Try.func14 (by kernel_rfl)
    (of_decide_eq_true (by kernel_rfl)) (by unfold Func.isWrapper; rw [if_neg (of_decide_eq_false (by kernel_rfl))]; exact ⟨rfl, rfl⟩)
    (fun os started H enc _ => tangentsFrom_lifted os started H enc)
theorem tangentsFrom_proved : Rows.FnExactTangentsFromSaid := tangentsFrom_over
end Go.Proofs.Ythpbnfmfedggjaa
