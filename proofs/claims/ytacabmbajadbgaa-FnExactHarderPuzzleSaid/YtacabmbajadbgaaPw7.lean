/- contracts: DropClue, on both sides -/
import Derived.Test.YtacabmbajadbgaaPw6
import Derived.Test.YtacabmbajadbgaaKi
namespace Go.Proofs.Ytacabmbajadbgaa
open Go.ChangeShapes Go.WideShapes Go.ChangeAt Go.RowKit Go.Joins
set_option linter.unusedVariables false
set_option linter.unusedSimpArgs false
set_option maxRecDepth 4000
/-- a call that gives a puzzle and a bool, in new memory -/
def RetZ (w : World) (S : Int) (p : Nat) (F : Nat → Int) (b : Bool) (e : Ending) (w' : World) : Prop :=
  ∃ A c, e = .returned (.tuple #[.agg #[.int .i64 S, .slice A p c], .bool b]) ∧ Below w.heap.size w w' ∧ RwI w' w.heap.size w'.heap.size A (p * 4) F
theorem retZ_nil {w w' : World} {F : Nat → Int} (hb : Below w.heap.size w w') : RetZ w 0 0 F false (.returned (.tuple #[.agg #[.int .i64 0, .slice none 0 0], .bool false])) w' :=
  ⟨none, 0, rfl, hb, fun h => absurd h (by omega)⟩
theorem retZ_row {w w1 w' : World} {s : Int} {n c : Nat} {A : Option Addr} {f : Nat → Int} (h : RowC w' w1.heap.size (.slice A n c) n f) (hb1 : Below w.heap.size w w1) (hb : Below w.heap.size w w') : RetZ w s n f true (.returned (.tuple #[.agg #[.int .i64 s, .slice A n c], .bool true])) w' := by
  obtain ⟨A2, c2, e, _, _, h2⟩ := rowC_rwi h
  injection e with e1 e2 e3
  subst e1 e3
  exact ⟨A, c, rfl, hb, rwi_more h2 hb1.size (Nat.le_refl _)⟩
def drB (s : Int) (n : Nat) (f : Nat → Int) (k : Int) : Bool := puzB s n f && (decide (0 ≤ k) && decide (k < (n : Int)))
def drS (s : Int) (n : Nat) (f : Nat → Int) (k : Int) : Int := if drB s n f k = true then s else 0
def drN (s : Int) (n : Nat) (f : Nat → Int) (k : Int) : Nat := if drB s n f k = true then n - 1 else 0
theorem dr_t {s : Int} {n : Nat} {f : Nat → Int} {k : Int} (h : drB s n f k = true) : drS s n f k = s ∧ drN s n f k = n - 1 := by unfold drS drN; rw [if_pos h, if_pos h]; exact ⟨rfl, rfl⟩
theorem dr_f {s : Int} {n : Nat} {f : Nat → Int} {k : Int} (h : drB s n f k = false) : drS s n f k = 0 ∧ drN s n f k = 0 := by unfold drS drN; rw [h]; exact ⟨rfl, rfl⟩
set_option maxHeartbeats 4000000 in
theorem implDropClue_any (s : Int) (bk off c n : Nat) (f : Nat → Int) (k : Int) (w : World) (hm : n ≤ 1048576) (hnc : n ≤ c) (hc : c ≤ 9223372036854775807) (hR : RdI w w.heap.size (some ⟨bk, off, none⟩) (n * 4) f) :
    Calls Try.prog 18 #[.agg #[.int .i64 s, .slice (some ⟨bk, off, none⟩) n c], .int .i64 k] w (RetZ w (drS s n f k) (drN s n f k) (woF f k.toNat) (drB s n f k)) := by
  have K := Lib.hid (fun W (hb : Below w.heap.size w W) => implIsPuzzle_any s (some ⟨bk, off, none⟩) c n f W (rdi_below hR hb (Nat.le_refl _)))
  obtain ⟨W0, hW, B0, z, c0, c1, r0, r1, fr⟩ := pbx_two w s (some ⟨bk, off, none⟩) n c 28 28
  have P0 := Lib.hid (show Pbx W0 w.heap.size s (some ⟨bk, off, none⟩) n c from ⟨by omega, c0, c1⟩)
  have Q0 := Lib.hid (show Pbw W0 (w.heap.size + 1) (.int .i64 0) (.slice none 0 0) from ⟨z, r0, r1, fr⟩)
  have HB := Lib.hid B0
  clear z c0 c1 r0 r1 fr B0
  cases hp : puzB s n f
  · have hd : drB s n f k = false := by unfold drB; rw [hp]; rfl
    rw [(dr_f hd).1, (dr_f hd).2, hd]
    rw [hp] at K
    clear hp hR hd
    go_enter Try.func18, Try.ntmps18
    go_wp2_with fail
    rw [← hW]
    clear hW
    have p0 := P0.out.c0
    have p1 := P0.out.c1
    have pz := P0.out.z
    go_wp2_with fail
    refine (K.out _ HB.out).mono ?_; rintro e w1 ⟨rfl, hb1⟩
    have B1 := HB.out.trans (hb1.mono HB.out.size)
    have P1 := Lib.hid (pbx_below P0.out hb1)
    have Q1 := Lib.hid (pbw_below Q0.out hb1)
    clear hb1 P0 Q0 HB K p0 p1 pz
    have r0 := Q1.out.c0
    have r1 := Q1.out.c1
    have rz := Q1.out.z
    have rf0 := Q1.out.fz 0
    have rf1 := Q1.out.fz 1
    have p0 := P1.out.c0
    have p1 := P1.out.c1
    have pz := P1.out.z
    have zz := B1.size
    go_wp2_with fail
    refine bodyPost_ret (v := .tuple #[.agg #[.int .i64 0, .slice none 0 0], .bool false]) (by simp [results, Try.results18, go_sem, rz, r0, r1]) rfl (retZ_nil ?_)
    repeat (first | with_reducible assumption | with_reducible exact Below.refl _ _ | with_reducible apply Below.drew | ((with_reducible refine Below.setCell ?_ ?_ _); rotate_left; (first | exact Nat.le_refl _ | omega | (simp <;> omega))) | ((with_reducible refine Below.alloc ?_ ?_ _); rotate_left; (first | omega | (simp <;> omega))))
  rcases Int.lt_or_le k 0 with h0 | h0
  · have hd : drB s n f k = false := by unfold drB; rw [decide_eq_false (show ¬ (0 : Int) ≤ k by omega)]; simp
    rw [(dr_f hd).1, (dr_f hd).2, hd]
    rw [hp] at K
    clear hp hR hd
    go_enter Try.func18, Try.ntmps18
    go_wp2_with fail
    rw [← hW]
    clear hW
    have p0 := P0.out.c0
    have p1 := P0.out.c1
    have pz := P0.out.z
    go_wp2_with fail
    refine (K.out _ HB.out).mono ?_; rintro e w1 ⟨rfl, hb1⟩
    have B1 := HB.out.trans (hb1.mono HB.out.size)
    have P1 := Lib.hid (pbx_below P0.out hb1)
    have Q1 := Lib.hid (pbw_below Q0.out hb1)
    clear hb1 P0 Q0 HB K p0 p1 pz
    have r0 := Q1.out.c0
    have r1 := Q1.out.c1
    have rz := Q1.out.z
    have rf0 := Q1.out.fz 0
    have rf1 := Q1.out.fz 1
    have p0 := P1.out.c0
    have p1 := P1.out.c1
    have pz := P1.out.z
    have zz := B1.size
    go_wp2_with fail
    refine bodyPost_ret (v := .tuple #[.agg #[.int .i64 0, .slice none 0 0], .bool false]) (by simp [results, Try.results18, go_sem, rz, r0, r1]) rfl (retZ_nil ?_)
    repeat (first | with_reducible assumption | with_reducible exact Below.refl _ _ | with_reducible apply Below.drew | ((with_reducible refine Below.setCell ?_ ?_ _); rotate_left; (first | exact Nat.le_refl _ | omega | (simp <;> omega))) | ((with_reducible refine Below.alloc ?_ ?_ _); rotate_left; (first | omega | (simp <;> omega))))
  rcases Int.lt_or_le k (n : Int) with h1 | h1
  rotate_left
  · have hd : drB s n f k = false := by unfold drB; rw [decide_eq_false (show ¬ k < (n : Int) by omega)]; simp
    have h0' : ¬ k < 0 := by omega
    rw [(dr_f hd).1, (dr_f hd).2, hd]
    rw [hp] at K
    clear hp hR hd
    go_enter Try.func18, Try.ntmps18
    go_wp2_with fail
    rw [← hW]
    clear hW
    have p0 := P0.out.c0
    have p1 := P0.out.c1
    have pz := P0.out.z
    go_wp2_with fail
    refine (K.out _ HB.out).mono ?_; rintro e w1 ⟨rfl, hb1⟩
    have B1 := HB.out.trans (hb1.mono HB.out.size)
    have P1 := Lib.hid (pbx_below P0.out hb1)
    have Q1 := Lib.hid (pbw_below Q0.out hb1)
    clear hb1 P0 Q0 HB K p0 p1 pz
    have r0 := Q1.out.c0
    have r1 := Q1.out.c1
    have rz := Q1.out.z
    have rf0 := Q1.out.fz 0
    have rf1 := Q1.out.fz 1
    have p0 := P1.out.c0
    have p1 := P1.out.c1
    have pz := P1.out.z
    have zz := B1.size
    go_wp2_with fail
    refine bodyPost_ret (v := .tuple #[.agg #[.int .i64 0, .slice none 0 0], .bool false]) (by simp [results, Try.results18, go_sem, rz, r0, r1]) rfl (retZ_nil ?_)
    repeat (first | with_reducible assumption | with_reducible exact Below.refl _ _ | with_reducible apply Below.drew | ((with_reducible refine Below.setCell ?_ ?_ _); rotate_left; (first | exact Nat.le_refl _ | omega | (simp <;> omega))) | ((with_reducible refine Below.alloc ?_ ?_ _); rotate_left; (first | omega | (simp <;> omega))))
  · have hd : drB s n f k = true := by unfold drB; rw [hp, decide_eq_true h0, decide_eq_true h1]; rfl
    rw [(dr_t hd).1, (dr_t hd).2, hd]
    rw [hp] at K
    obtain ⟨kn, rfl⟩ : ∃ kn : Nat, k = (kn : Int) := ⟨k.toNat, by omega⟩
    have h12 := puzB_t hp
    rw [show ((kn : Int)).toNat = kn by omega]
    have h0' : ¬ (kn : Int) < 0 := by omega
    have h1' : ¬ (n : Int) ≤ (kn : Int) := by omega
    have KW := Lib.hid (fun W (hb : Below w.heap.size w W) => without_any s bk off c n kn f W (by omega) h12.2.2.1 hnc hc (rdi_below hR hb (Nat.le_refl _)))
    clear hp hR hd h12 h0
    go_enter Try.func18, Try.ntmps18
    go_wp2_with fail
    rw [← hW]
    clear hW
    have p0 := P0.out.c0
    have p1 := P0.out.c1
    have pz := P0.out.z
    go_wp2_with fail
    refine (K.out _ HB.out).mono ?_; rintro e w1 ⟨rfl, hb1⟩
    have B1 := HB.out.trans (hb1.mono HB.out.size)
    have P1 := Lib.hid (pbx_below P0.out hb1)
    have Q1 := Lib.hid (pbw_below Q0.out hb1)
    clear hb1 P0 Q0 HB K p0 p1 pz
    have p0 := P1.out.c0
    have p1 := P1.out.c1
    have pz := P1.out.z
    go_wp2_with fail
    refine (KW.out _ B1).mono ?_; rintro e wA ⟨⟨v, rfl, own⟩, kA⟩
    obtain ⟨Av, cv, rfl, hnv, hcv, rwv⟩ := rowC_rwi own
    have QA := pbw_below Q1.out kA
    have r0 := QA.c0
    have r1 := QA.c1
    have rz := QA.z
    have rf0 := QA.fz 0
    have rf1 := QA.fz 1
    have BA := B1.trans (kA.mono B1.size)
    have hz1 := Q1.out.z
    have zz := BA.size
    clear hnv hcv rwv QA KW p0 p1 pz
    go_wp2_with fail
    refine bodyPost_ret (v := .tuple #[.agg #[.int .i64 s, .slice Av (n - 1) cv], .bool true]) (by simp [results, Try.results18, go_sem, rz, r0, r1]) rfl ?_
    exact retZ_row (rowC_set (rowC_set own (by show w.heap.size + 1 < _; exact hz1) _) (by show w.heap.size + 1 < _; exact hz1) _) B1 (by repeat (first | with_reducible assumption | with_reducible exact Below.refl _ _ | with_reducible apply Below.drew | ((with_reducible refine Below.setCell ?_ ?_ _); rotate_left; (first | exact Nat.le_refl _ | omega | (simp <;> omega))) | ((with_reducible refine Below.alloc ?_ ?_ _); rotate_left; (first | omega | (simp <;> omega)))))
set_option maxHeartbeats 4000000 in
theorem specDropClue_any (s : Int) (bk off c n : Nat) (f : Nat → Int) (k : Int) (w : World) (hm : n ≤ 1048576) (hnc : n ≤ c) (hc : c ≤ 9223372036854775807) (hR : RdI w w.heap.size (some ⟨bk, off, none⟩) (n * 4) f) :
    Calls Try.prog 16 #[.agg #[.int .i64 s, .slice (some ⟨bk, off, none⟩) n c], .int .i64 k] w (RetZ w (drS s n f k) (drN s n f k) (woF f k.toNat) (drB s n f k)) := by
  have K := Lib.hid (fun W (hb : Below w.heap.size w W) => pzGood_any s (some ⟨bk, off, none⟩) c n f W hm (rdi_below hR hb (Nat.le_refl _)))
  obtain ⟨W0, hW, B0, z, c0, c1, r0, r1, fr⟩ := pbx_two w s (some ⟨bk, off, none⟩) n c 28 28
  have P0 := Lib.hid (show Pbx W0 w.heap.size s (some ⟨bk, off, none⟩) n c from ⟨by omega, c0, c1⟩)
  have Q0 := Lib.hid (show Pbw W0 (w.heap.size + 1) (.int .i64 0) (.slice none 0 0) from ⟨z, r0, r1, fr⟩)
  have HB := Lib.hid B0
  clear z c0 c1 r0 r1 fr B0
  have KL := Lib.hid (fun W => l1In_any k 0 ((n : Int) - 1) W)
  cases hp : puzB s n f
  · have hd : drB s n f k = false := by unfold drB; rw [hp]; rfl
    rw [(dr_f hd).1, (dr_f hd).2, hd]
    rw [hp] at K
    clear hp hR hd KL
    go_enter Try.func16, Try.ntmps16
    go_wp2_with fail
    rw [← hW]
    clear hW
    have p0 := P0.out.c0
    have p1 := P0.out.c1
    have pz := P0.out.z
    go_wp2_with fail
    refine (K.out _ HB.out).mono ?_; rintro e w1 ⟨rfl, hb1⟩
    have B1 := HB.out.trans (hb1.mono HB.out.size)
    have P1 := Lib.hid (pbx_below P0.out hb1)
    have Q1 := Lib.hid (pbw_below Q0.out hb1)
    clear hb1 P0 Q0 HB K p0 p1 pz
    have r0 := Q1.out.c0
    have r1 := Q1.out.c1
    have rz := Q1.out.z
    have rf0 := Q1.out.fz 0
    have rf1 := Q1.out.fz 1
    have p0 := P1.out.c0
    have p1 := P1.out.c1
    have pz := P1.out.z
    have zz := B1.size
    go_wp2_with fail
    refine bodyPost_ret (v := .tuple #[.agg #[.int .i64 0, .slice none 0 0], .bool false]) (by simp [results, Try.results16, go_sem, rz, r0, r1]) rfl (retZ_nil ?_)
    repeat (first | with_reducible assumption | with_reducible exact Below.refl _ _ | with_reducible apply Below.drew | ((with_reducible refine Below.setCell ?_ ?_ _); rotate_left; (first | exact Nat.le_refl _ | omega | (simp <;> omega))) | ((with_reducible refine Below.alloc ?_ ?_ _); rotate_left; (first | omega | (simp <;> omega))))
  rcases Int.lt_or_le k 0 with h0 | h0
  · have hd : drB s n f k = false := by unfold drB; rw [decide_eq_false (show ¬ (0 : Int) ≤ k by omega)]; simp
    rw [(dr_f hd).1, (dr_f hd).2, hd]
    rw [hp] at K
    rw [show (decide ((0 : Int) ≤ k) && decide (k ≤ (n : Int) - 1)) = false by simp; omega] at KL
    have hnn : IntKind.i64.wrap ((n : Int) - 1) = (n : Int) - 1 := IntWalk.i64_in _ (by omega)
    clear hp hR hd
    go_enter Try.func16, Try.ntmps16
    go_wp2_with fail
    rw [← hW]
    clear hW
    have p0 := P0.out.c0
    have p1 := P0.out.c1
    have pz := P0.out.z
    go_wp2_with fail
    refine (K.out _ HB.out).mono ?_; rintro e w1 ⟨rfl, hb1⟩
    have B1 := HB.out.trans (hb1.mono HB.out.size)
    have P1 := Lib.hid (pbx_below P0.out hb1)
    have Q1 := Lib.hid (pbw_below Q0.out hb1)
    clear hb1 P0 Q0 HB K p0 p1 pz
    have r0 := Q1.out.c0
    have r1 := Q1.out.c1
    have rz := Q1.out.z
    have rf0 := Q1.out.fz 0
    have rf1 := Q1.out.fz 1
    have p0 := P1.out.c0
    have p1 := P1.out.c1
    have pz := P1.out.z
    have zz := B1.size
    go_wp2_with fail
    try rw [hnn]
    refine (KL.out _).mono ?_; rintro e _ ⟨rfl, rfl⟩
    go_wp2_with fail
    refine bodyPost_ret (v := .tuple #[.agg #[.int .i64 0, .slice none 0 0], .bool false]) (by simp [results, Try.results16, go_sem, rz, r0, r1]) rfl (retZ_nil ?_)
    repeat (first | with_reducible assumption | with_reducible exact Below.refl _ _ | with_reducible apply Below.drew | ((with_reducible refine Below.setCell ?_ ?_ _); rotate_left; (first | exact Nat.le_refl _ | omega | (simp <;> omega))) | ((with_reducible refine Below.alloc ?_ ?_ _); rotate_left; (first | omega | (simp <;> omega))))
  rcases Int.lt_or_le k (n : Int) with h1 | h1
  rotate_left
  · have hd : drB s n f k = false := by unfold drB; rw [decide_eq_false (show ¬ k < (n : Int) by omega)]; simp
    have h0' : ¬ k < 0 := by omega
    rw [(dr_f hd).1, (dr_f hd).2, hd]
    rw [hp] at K
    rw [show (decide ((0 : Int) ≤ k) && decide (k ≤ (n : Int) - 1)) = false by simp; omega] at KL
    have hnn : IntKind.i64.wrap ((n : Int) - 1) = (n : Int) - 1 := IntWalk.i64_in _ (by omega)
    clear hp hR hd
    go_enter Try.func16, Try.ntmps16
    go_wp2_with fail
    rw [← hW]
    clear hW
    have p0 := P0.out.c0
    have p1 := P0.out.c1
    have pz := P0.out.z
    go_wp2_with fail
    refine (K.out _ HB.out).mono ?_; rintro e w1 ⟨rfl, hb1⟩
    have B1 := HB.out.trans (hb1.mono HB.out.size)
    have P1 := Lib.hid (pbx_below P0.out hb1)
    have Q1 := Lib.hid (pbw_below Q0.out hb1)
    clear hb1 P0 Q0 HB K p0 p1 pz
    have r0 := Q1.out.c0
    have r1 := Q1.out.c1
    have rz := Q1.out.z
    have rf0 := Q1.out.fz 0
    have rf1 := Q1.out.fz 1
    have p0 := P1.out.c0
    have p1 := P1.out.c1
    have pz := P1.out.z
    have zz := B1.size
    go_wp2_with fail
    try rw [hnn]
    refine (KL.out _).mono ?_; rintro e _ ⟨rfl, rfl⟩
    go_wp2_with fail
    refine bodyPost_ret (v := .tuple #[.agg #[.int .i64 0, .slice none 0 0], .bool false]) (by simp [results, Try.results16, go_sem, rz, r0, r1]) rfl (retZ_nil ?_)
    repeat (first | with_reducible assumption | with_reducible exact Below.refl _ _ | with_reducible apply Below.drew | ((with_reducible refine Below.setCell ?_ ?_ _); rotate_left; (first | exact Nat.le_refl _ | omega | (simp <;> omega))) | ((with_reducible refine Below.alloc ?_ ?_ _); rotate_left; (first | omega | (simp <;> omega))))
  · have hd : drB s n f k = true := by unfold drB; rw [hp, decide_eq_true h0, decide_eq_true h1]; rfl
    rw [(dr_t hd).1, (dr_t hd).2, hd]
    rw [hp] at K
    obtain ⟨kn, rfl⟩ : ∃ kn : Nat, k = (kn : Int) := ⟨k.toNat, by omega⟩
    have h12 := puzB_t hp
    rw [show ((kn : Int)).toNat = kn by omega]
    rw [show (decide ((0 : Int) ≤ (kn : Int)) && decide ((kn : Int) ≤ (n : Int) - 1)) = true by simp; omega] at KL
    have hnn : IntKind.i64.wrap ((n : Int) - 1) = (n : Int) - 1 := IntWalk.i64_in _ (by omega)
    have KW := Lib.hid (fun W (hb : Below w.heap.size w W) => pzWithout_any bk off c n kn f W (by omega) h12.2.2.1 hnc hc (rdi_below hR hb (Nat.le_refl _)))
    clear hp hR hd h12 h0
    go_enter Try.func16, Try.ntmps16
    go_wp2_with fail
    rw [← hW]
    clear hW
    have p0 := P0.out.c0
    have p1 := P0.out.c1
    have pz := P0.out.z
    go_wp2_with fail
    refine (K.out _ HB.out).mono ?_; rintro e w1 ⟨rfl, hb1⟩
    have B1 := HB.out.trans (hb1.mono HB.out.size)
    have P1 := Lib.hid (pbx_below P0.out hb1)
    have Q1 := Lib.hid (pbw_below Q0.out hb1)
    clear hb1 P0 Q0 HB K p0 p1 pz
    have p0 := P1.out.c0
    have p1 := P1.out.c1
    have pz := P1.out.z
    go_wp2_with fail
    try rw [hnn]
    refine (KL.out _).mono ?_; rintro e _ ⟨rfl, rfl⟩
    have r0 := Q1.out.c0
    have r1 := Q1.out.c1
    have rz := Q1.out.z
    have hw1 := B1.size
    go_upto_region 3 with fail
    go_region_with (first
      | (go_at_call 56; go_loud (refine (KW.out _ (by first | exact B1 | exact B1.drew)).mono ?_); rintro e wA ⟨⟨v, rfl, own⟩, kA'⟩;
         have kA : Below w1.heap.size w1 wA := (by first | exact kA' | exact (Below.refl _ _).drew.trans kA');
         obtain ⟨Av, cv, rfl, hnv, hcv, rwv⟩ := rowC_rwi own;
         clear hnv hcv rwv;
         have QA := pbw_below Q1.out kA;
         have PA := pbx_below P1.out kA;
         have ra0 := QA.c0;
         have ra1 := QA.c1;
         have raz := QA.z;
         have rf0 := QA.fz 0;
         have rf1 := QA.fz 1;
         have pa0 := PA.c0;
         have paz := PA.z;
         have BA := B1.trans (kA.mono B1.size);
         have hown : RowC wA w1.heap.size (.slice Av (n - 1) cv) (n - 1) (woF f kn) := own;
         clear QA PA))
    all_goals
      go_wp2_with fail
      refine bodyPost_ret (v := .tuple #[.agg #[.int .i64 s, .slice Av (n - 1) cv], .bool true]) (by simp [results, Try.results16, go_sem, raz, ra0, ra1]) rfl ?_
      exact retZ_row (rowC_set (rowC_set hown (by show w.heap.size + 1 < _; exact rz) _) (by show w.heap.size + 1 < _; exact rz) _) B1 (by repeat (first | with_reducible assumption | with_reducible exact Below.refl _ _ | with_reducible apply Below.drew | ((with_reducible refine Below.setCell ?_ ?_ _); rotate_left; (first | exact Nat.le_refl _ | omega | (simp <;> omega))) | ((with_reducible refine Below.alloc ?_ ?_ _); rotate_left; (first | omega | (simp <;> omega)))))
end Go.Proofs.Ytacabmbajadbgaa
