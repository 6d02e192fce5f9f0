/- contracts: clues, the program: the greatest numbers of a clue; a clue that is none is raised -/
import Derived.Test.YtacabmbajadbgaaPz2
import Derived.WalkLawsBesides
namespace Go.Proofs.Ytacabmbajadbgaa
open Go.ChangeShapes Go.WideShapes Go.ChangeAt Go.RowKit Go.Joins
set_option linter.unusedVariables false
set_option linter.unusedSimpArgs false
set_option maxRecDepth 4000
/-- the panic with a clue -/
def pnc (k a b c : Int) : Ending := .panicked [{ v := .iface 38 (.agg #[.int .i64 k, .int .i64 a, .int .i64 b, .int .i64 c]), recovered := false }]
def mstE (s k a b c : Int) : Ending := if kindB k = true then .returned (.agg #[.int .i64 k, .int .i64 (mA k s), .int .i64 (mB k s), .int .i64 (mC k s)]) else pnc k a b c
set_option maxHeartbeats 4000000 in
theorem greatest_any (s k a b c : Int) (w : World) (h1 : 1 ≤ s) (h2 : s ≤ 12) :
    Calls Try.prog 126 #[.agg #[.int .i64 k, .int .i64 a, .int .i64 b, .int .i64 c], .int .i64 s] w fun e w' => e = mstE s k a b c ∧ Below w.heap.size w w' := by
  obtain ⟨q1, q2⟩ := sq_12 h1 h2
  have i1 : IntKind.i64.wrap (2 * s) = 2 * s := IntWalk.i64_in _ (by omega)
  have i2 : IntKind.i64.wrap (s * s) = s * s := IntWalk.i64_in _ (by omega)
  have e2 : 2 * s * s = 2 * (s * s) := by rw [Int.mul_assoc]
  have i3 : IntKind.i64.wrap (2 * s * s) = 2 * s * s := IntWalk.i64_in _ (by omega)
  clear q1 q2 e2
  rcases kinds k with rfl | rfl | rfl | rfl | rfl | rfl | hk
  case inr.inr.inr.inr.inr.inr =>
    have hd : Hid (mstE s k a b c = pnc k a b c) := Lib.hid (by unfold mstE; rw [kindB_f hk]; rfl)
    obtain ⟨k0, k1, k2, k3, k4, k5⟩ := hk
    rw [hd.out]
    go_enter Try.func126, Try.ntmps126
    go_wp2_with fail
    exact ⟨rfl, rfl, (by repeat (first | exact Below.refl _ _ | assumption | apply Below.drew | refine Below.alloc ?_ (by simp <;> omega) _))⟩
  · have hd : Hid (mstE s 0 a b c = .returned (.agg #[.int .i64 0, .int .i64 (s), .int .i64 (0), .int .i64 (0)])) := Lib.hid (by unfold mstE kindB mA mB mC; simp)
    rw [hd.out]
    go_enter Try.func126, Try.ntmps126
    go_wp2_with fail
    refine bodyPost_ret (v := .agg #[.int .i64 0, .int .i64 (s), .int .i64 (0), .int .i64 (0)]) (by simp [results, Try.results126, go_sem]) rfl ⟨rfl, ?_⟩
    repeat (first | with_reducible assumption | with_reducible exact Below.refl _ _ | with_reducible apply Below.drew | ((with_reducible refine Below.setCell ?_ ?_ _); rotate_left; (first | exact Nat.le_refl _ | omega | (simp <;> omega))) | ((with_reducible refine Below.alloc ?_ ?_ _); rotate_left; (first | omega | (simp <;> omega))))
  · have hd : Hid (mstE s 1 a b c = .returned (.agg #[.int .i64 1, .int .i64 (s), .int .i64 (0), .int .i64 (0)])) := Lib.hid (by unfold mstE kindB mA mB mC; simp)
    rw [hd.out]
    go_enter Try.func126, Try.ntmps126
    go_wp2_with fail
    refine bodyPost_ret (v := .agg #[.int .i64 1, .int .i64 (s), .int .i64 (0), .int .i64 (0)]) (by simp [results, Try.results126, go_sem]) rfl ⟨rfl, ?_⟩
    repeat (first | with_reducible assumption | with_reducible exact Below.refl _ _ | with_reducible apply Below.drew | ((with_reducible refine Below.setCell ?_ ?_ _); rotate_left; (first | exact Nat.le_refl _ | omega | (simp <;> omega))) | ((with_reducible refine Below.alloc ?_ ?_ _); rotate_left; (first | omega | (simp <;> omega))))
  · have hd : Hid (mstE s 2 a b c = .returned (.agg #[.int .i64 2, .int .i64 (2 * s), .int .i64 (0), .int .i64 (0)])) := Lib.hid (by unfold mstE kindB mA mB mC; simp)
    rw [hd.out]
    go_enter Try.func126, Try.ntmps126
    go_wp2_with fail
    refine bodyPost_ret (v := .agg #[.int .i64 2, .int .i64 (2 * s), .int .i64 (0), .int .i64 (0)]) (by simp [results, Try.results126, go_sem]) rfl ⟨rfl, ?_⟩
    repeat (first | with_reducible assumption | with_reducible exact Below.refl _ _ | with_reducible apply Below.drew | ((with_reducible refine Below.setCell ?_ ?_ _); rotate_left; (first | exact Nat.le_refl _ | omega | (simp <;> omega))) | ((with_reducible refine Below.alloc ?_ ?_ _); rotate_left; (first | omega | (simp <;> omega))))
  · have hd : Hid (mstE s 3 a b c = .returned (.agg #[.int .i64 3, .int .i64 (s), .int .i64 (s), .int .i64 (s * s)])) := Lib.hid (by unfold mstE kindB mA mB mC; simp)
    rw [hd.out]
    go_enter Try.func126, Try.ntmps126
    go_wp2_with fail
    refine bodyPost_ret (v := .agg #[.int .i64 3, .int .i64 (s), .int .i64 (s), .int .i64 (s * s)]) (by simp [results, Try.results126, go_sem]) rfl ⟨rfl, ?_⟩
    repeat (first | with_reducible assumption | with_reducible exact Below.refl _ _ | with_reducible apply Below.drew | ((with_reducible refine Below.setCell ?_ ?_ _); rotate_left; (first | exact Nat.le_refl _ | omega | (simp <;> omega))) | ((with_reducible refine Below.alloc ?_ ?_ _); rotate_left; (first | omega | (simp <;> omega))))
  · have hd : Hid (mstE s 4 a b c = .returned (.agg #[.int .i64 4, .int .i64 (s), .int .i64 (s), .int .i64 (2 * s * s)])) := Lib.hid (by unfold mstE kindB mA mB mC; simp)
    rw [hd.out]
    go_enter Try.func126, Try.ntmps126
    go_wp2_with fail
    refine bodyPost_ret (v := .agg #[.int .i64 4, .int .i64 (s), .int .i64 (s), .int .i64 (2 * s * s)]) (by simp [results, Try.results126, go_sem]) rfl ⟨rfl, ?_⟩
    repeat (first | with_reducible assumption | with_reducible exact Below.refl _ _ | with_reducible apply Below.drew | ((with_reducible refine Below.setCell ?_ ?_ _); rotate_left; (first | exact Nat.le_refl _ | omega | (simp <;> omega))) | ((with_reducible refine Below.alloc ?_ ?_ _); rotate_left; (first | omega | (simp <;> omega))))
  · have hd : Hid (mstE s 5 a b c = .returned (.agg #[.int .i64 5, .int .i64 (s), .int .i64 (s), .int .i64 (1)])) := Lib.hid (by unfold mstE kindB mA mB mC; simp)
    rw [hd.out]
    go_enter Try.func126, Try.ntmps126
    go_wp2_with fail
    refine bodyPost_ret (v := .agg #[.int .i64 5, .int .i64 (s), .int .i64 (s), .int .i64 (1)]) (by simp [results, Try.results126, go_sem]) rfl ⟨rfl, ?_⟩
    repeat (first | with_reducible assumption | with_reducible exact Below.refl _ _ | with_reducible apply Below.drew | ((with_reducible refine Below.setCell ?_ ?_ _); rotate_left; (first | exact Nat.le_refl _ | omega | (simp <;> omega))) | ((with_reducible refine Below.alloc ?_ ?_ _); rotate_left; (first | omega | (simp <;> omega))))
def raiE (s k a b c : Int) : Ending := if clueB s k a b c = true then .returned (.tuple #[]) else pnc k a b c
theorem inQ_t {lo hi n : Int} (h : inQ lo hi n = true) : ¬ n < lo ∧ ¬ hi < n := by unfold inQ at h; simp at h; omega
theorem inQ_f {lo hi n : Int} (h : inQ lo hi n = false) : n < lo ∨ (¬ n < lo ∧ hi < n) := by unfold inQ at h; simp at h; omega
set_option maxHeartbeats 4000000 in
theorem raise_any (s k a b c : Int) (w : World) (h1 : 1 ≤ s) (h2 : s ≤ 12) :
    Calls Try.prog 114 #[.agg #[.int .i64 k, .int .i64 a, .int .i64 b, .int .i64 c], .int .i64 s] w fun e w' => e = raiE s k a b c ∧ Below w.heap.size w w' := by
  have KG := Lib.hid (fun W => greatest_any s k a b c W h1 h2)
  have HB := Lib.hid (Below.alloc (Below.refl w.heap.size w) (Nat.le_refl _) (.cells #[.int .i64 k, .int .i64 a, .int .i64 b, .int .i64 c] 38))
  clear h1 h2
  by_cases hk : kindB k = true
  · have hm : mstE s k a b c = .returned (.agg #[.int .i64 k, .int .i64 (mA k s), .int .i64 (mB k s), .int .i64 (mC k s)]) := by unfold mstE; rw [if_pos hk]
    have hr : Hid (raiE s k a b c = if (inQ 0 (mA k s) a && (inQ 0 (mB k s) b && inQ 0 (mC k s) c)) = true then .returned (.tuple #[]) else pnc k a b c) := Lib.hid (by unfold raiE clueB; rw [hk, Bool.true_and])
    rw [hm] at KG
    rw [hr.out]
    clear hk hm hr
    generalize mA k s = ma at *
    generalize mB k s = mb at *
    generalize mC k s = mc at *
    cases qa : inQ 0 ma a
    · rw [if_neg (by simp [qa])]
      rcases inQ_f qa with ha | ⟨ha, ga⟩
      · clear qa
        unfold pnc
        go_enter Try.func114, Try.ntmps114
        go_wp2_with fail
        refine (KG.out _).mono ?_; rintro e w1 ⟨rfl, hb1⟩
        have B1 := HB.out.trans (hb1.mono HB.out.size)
        have y0 : w1.cell? ⟨w.heap.size, 0, none⟩ = some (.int .i64 k) := ((bcell hb1).1 w.heap.size 0 (by simp)).trans (by go_simp)
        have y1 : w1.cell? ⟨w.heap.size, 1, none⟩ = some (.int .i64 a) := ((bcell hb1).1 w.heap.size 1 (by simp)).trans (by go_simp)
        have y2 : w1.cell? ⟨w.heap.size, 2, none⟩ = some (.int .i64 b) := ((bcell hb1).1 w.heap.size 2 (by simp)).trans (by go_simp)
        have y3 : w1.cell? ⟨w.heap.size, 3, none⟩ = some (.int .i64 c) := ((bcell hb1).1 w.heap.size 3 (by simp)).trans (by go_simp)
        have z1 : w.heap.size < w1.heap.size := by have := hb1.size; simp at this; omega
        clear hb1
        go_wp2_with fail
        exact ⟨rfl, rfl, by repeat (first | with_reducible assumption | with_reducible exact Below.refl _ _ | with_reducible apply Below.drew | ((with_reducible refine Below.setCell ?_ ?_ _); rotate_left; (first | exact Nat.le_refl _ | omega | (simp <;> omega))) | ((with_reducible refine Below.alloc ?_ ?_ _); rotate_left; (first | omega | (simp <;> omega))))⟩
      · clear qa
        unfold pnc
        go_enter Try.func114, Try.ntmps114
        go_wp2_with fail
        refine (KG.out _).mono ?_; rintro e w1 ⟨rfl, hb1⟩
        have B1 := HB.out.trans (hb1.mono HB.out.size)
        have y0 : w1.cell? ⟨w.heap.size, 0, none⟩ = some (.int .i64 k) := ((bcell hb1).1 w.heap.size 0 (by simp)).trans (by go_simp)
        have y1 : w1.cell? ⟨w.heap.size, 1, none⟩ = some (.int .i64 a) := ((bcell hb1).1 w.heap.size 1 (by simp)).trans (by go_simp)
        have y2 : w1.cell? ⟨w.heap.size, 2, none⟩ = some (.int .i64 b) := ((bcell hb1).1 w.heap.size 2 (by simp)).trans (by go_simp)
        have y3 : w1.cell? ⟨w.heap.size, 3, none⟩ = some (.int .i64 c) := ((bcell hb1).1 w.heap.size 3 (by simp)).trans (by go_simp)
        have z1 : w.heap.size < w1.heap.size := by have := hb1.size; simp at this; omega
        clear hb1
        go_wp2_with fail
        exact ⟨rfl, rfl, by repeat (first | with_reducible assumption | with_reducible exact Below.refl _ _ | with_reducible apply Below.drew | ((with_reducible refine Below.setCell ?_ ?_ _); rotate_left; (first | exact Nat.le_refl _ | omega | (simp <;> omega))) | ((with_reducible refine Below.alloc ?_ ?_ _); rotate_left; (first | omega | (simp <;> omega))))⟩
    · obtain ⟨ha, ga⟩ := inQ_t qa
      cases qb : inQ 0 mb b
      · rw [if_neg (by simp [qa, qb])]
        rcases inQ_f qb with hb | ⟨hb, gb⟩
        · clear qa qb
          unfold pnc
          go_enter Try.func114, Try.ntmps114
          go_wp2_with fail
          refine (KG.out _).mono ?_; rintro e w1 ⟨rfl, hb1⟩
          have B1 := HB.out.trans (hb1.mono HB.out.size)
          have y0 : w1.cell? ⟨w.heap.size, 0, none⟩ = some (.int .i64 k) := ((bcell hb1).1 w.heap.size 0 (by simp)).trans (by go_simp)
          have y1 : w1.cell? ⟨w.heap.size, 1, none⟩ = some (.int .i64 a) := ((bcell hb1).1 w.heap.size 1 (by simp)).trans (by go_simp)
          have y2 : w1.cell? ⟨w.heap.size, 2, none⟩ = some (.int .i64 b) := ((bcell hb1).1 w.heap.size 2 (by simp)).trans (by go_simp)
          have y3 : w1.cell? ⟨w.heap.size, 3, none⟩ = some (.int .i64 c) := ((bcell hb1).1 w.heap.size 3 (by simp)).trans (by go_simp)
          have z1 : w.heap.size < w1.heap.size := by have := hb1.size; simp at this; omega
          clear hb1
          go_wp2_with fail
          exact ⟨rfl, rfl, by repeat (first | with_reducible assumption | with_reducible exact Below.refl _ _ | with_reducible apply Below.drew | ((with_reducible refine Below.setCell ?_ ?_ _); rotate_left; (first | exact Nat.le_refl _ | omega | (simp <;> omega))) | ((with_reducible refine Below.alloc ?_ ?_ _); rotate_left; (first | omega | (simp <;> omega))))⟩
        · clear qa qb
          unfold pnc
          go_enter Try.func114, Try.ntmps114
          go_wp2_with fail
          refine (KG.out _).mono ?_; rintro e w1 ⟨rfl, hb1⟩
          have B1 := HB.out.trans (hb1.mono HB.out.size)
          have y0 : w1.cell? ⟨w.heap.size, 0, none⟩ = some (.int .i64 k) := ((bcell hb1).1 w.heap.size 0 (by simp)).trans (by go_simp)
          have y1 : w1.cell? ⟨w.heap.size, 1, none⟩ = some (.int .i64 a) := ((bcell hb1).1 w.heap.size 1 (by simp)).trans (by go_simp)
          have y2 : w1.cell? ⟨w.heap.size, 2, none⟩ = some (.int .i64 b) := ((bcell hb1).1 w.heap.size 2 (by simp)).trans (by go_simp)
          have y3 : w1.cell? ⟨w.heap.size, 3, none⟩ = some (.int .i64 c) := ((bcell hb1).1 w.heap.size 3 (by simp)).trans (by go_simp)
          have z1 : w.heap.size < w1.heap.size := by have := hb1.size; simp at this; omega
          clear hb1
          go_wp2_with fail
          exact ⟨rfl, rfl, by repeat (first | with_reducible assumption | with_reducible exact Below.refl _ _ | with_reducible apply Below.drew | ((with_reducible refine Below.setCell ?_ ?_ _); rotate_left; (first | exact Nat.le_refl _ | omega | (simp <;> omega))) | ((with_reducible refine Below.alloc ?_ ?_ _); rotate_left; (first | omega | (simp <;> omega))))⟩
      · obtain ⟨hb, gb⟩ := inQ_t qb
        cases qc : inQ 0 mc c
        · rw [if_neg (by simp [qa, qb, qc])]
          rcases inQ_f qc with hc | ⟨hc, gc⟩
          · clear qa qb qc
            unfold pnc
            go_enter Try.func114, Try.ntmps114
            go_wp2_with fail
            refine (KG.out _).mono ?_; rintro e w1 ⟨rfl, hb1⟩
            have B1 := HB.out.trans (hb1.mono HB.out.size)
            have y0 : w1.cell? ⟨w.heap.size, 0, none⟩ = some (.int .i64 k) := ((bcell hb1).1 w.heap.size 0 (by simp)).trans (by go_simp)
            have y1 : w1.cell? ⟨w.heap.size, 1, none⟩ = some (.int .i64 a) := ((bcell hb1).1 w.heap.size 1 (by simp)).trans (by go_simp)
            have y2 : w1.cell? ⟨w.heap.size, 2, none⟩ = some (.int .i64 b) := ((bcell hb1).1 w.heap.size 2 (by simp)).trans (by go_simp)
            have y3 : w1.cell? ⟨w.heap.size, 3, none⟩ = some (.int .i64 c) := ((bcell hb1).1 w.heap.size 3 (by simp)).trans (by go_simp)
            have z1 : w.heap.size < w1.heap.size := by have := hb1.size; simp at this; omega
            clear hb1
            go_wp2_with fail
            exact ⟨rfl, rfl, by repeat (first | with_reducible assumption | with_reducible exact Below.refl _ _ | with_reducible apply Below.drew | ((with_reducible refine Below.setCell ?_ ?_ _); rotate_left; (first | exact Nat.le_refl _ | omega | (simp <;> omega))) | ((with_reducible refine Below.alloc ?_ ?_ _); rotate_left; (first | omega | (simp <;> omega))))⟩
          · clear qa qb qc
            unfold pnc
            go_enter Try.func114, Try.ntmps114
            go_wp2_with fail
            refine (KG.out _).mono ?_; rintro e w1 ⟨rfl, hb1⟩
            have B1 := HB.out.trans (hb1.mono HB.out.size)
            have y0 : w1.cell? ⟨w.heap.size, 0, none⟩ = some (.int .i64 k) := ((bcell hb1).1 w.heap.size 0 (by simp)).trans (by go_simp)
            have y1 : w1.cell? ⟨w.heap.size, 1, none⟩ = some (.int .i64 a) := ((bcell hb1).1 w.heap.size 1 (by simp)).trans (by go_simp)
            have y2 : w1.cell? ⟨w.heap.size, 2, none⟩ = some (.int .i64 b) := ((bcell hb1).1 w.heap.size 2 (by simp)).trans (by go_simp)
            have y3 : w1.cell? ⟨w.heap.size, 3, none⟩ = some (.int .i64 c) := ((bcell hb1).1 w.heap.size 3 (by simp)).trans (by go_simp)
            have z1 : w.heap.size < w1.heap.size := by have := hb1.size; simp at this; omega
            clear hb1
            go_wp2_with fail
            exact ⟨rfl, rfl, by repeat (first | with_reducible assumption | with_reducible exact Below.refl _ _ | with_reducible apply Below.drew | ((with_reducible refine Below.setCell ?_ ?_ _); rotate_left; (first | exact Nat.le_refl _ | omega | (simp <;> omega))) | ((with_reducible refine Below.alloc ?_ ?_ _); rotate_left; (first | omega | (simp <;> omega))))⟩
        · obtain ⟨hc, gc⟩ := inQ_t qc
          rw [if_pos (by simp [qa, qb, qc])]
          clear qa qb qc
          go_enter Try.func114, Try.ntmps114
          go_wp2_with fail
          refine (KG.out _).mono ?_; rintro e w1 ⟨rfl, hb1⟩
          have B1 := HB.out.trans (hb1.mono HB.out.size)
          have y0 : w1.cell? ⟨w.heap.size, 0, none⟩ = some (.int .i64 k) := ((bcell hb1).1 w.heap.size 0 (by simp)).trans (by go_simp)
          have y1 : w1.cell? ⟨w.heap.size, 1, none⟩ = some (.int .i64 a) := ((bcell hb1).1 w.heap.size 1 (by simp)).trans (by go_simp)
          have y2 : w1.cell? ⟨w.heap.size, 2, none⟩ = some (.int .i64 b) := ((bcell hb1).1 w.heap.size 2 (by simp)).trans (by go_simp)
          have y3 : w1.cell? ⟨w.heap.size, 3, none⟩ = some (.int .i64 c) := ((bcell hb1).1 w.heap.size 3 (by simp)).trans (by go_simp)
          have z1 : w.heap.size < w1.heap.size := by have := hb1.size; simp at this; omega
          clear hb1
          go_wp2_with fail
          go_end0
          exact ⟨rfl, by repeat (first | with_reducible assumption | with_reducible exact Below.refl _ _ | with_reducible apply Below.drew | ((with_reducible refine Below.setCell ?_ ?_ _); rotate_left; (first | exact Nat.le_refl _ | omega | (simp <;> omega))) | ((with_reducible refine Below.alloc ?_ ?_ _); rotate_left; (first | omega | (simp <;> omega))))⟩
  · have hf : kindB k = false := by simpa using hk
    have hm : mstE s k a b c = pnc k a b c := by unfold mstE; rw [hf]; rfl
    have hr : Hid (raiE s k a b c = pnc k a b c) := Lib.hid (by unfold raiE clueB; rw [hf]; rfl)
    rw [hm] at KG
    rw [hr.out]
    clear hk hf hm hr
    go_enter Try.func114, Try.ntmps114
    go_wp2_with fail
    refine (KG.out _).mono ?_; rintro e w1 ⟨rfl, hb1⟩
    have B1 := HB.out.trans (hb1.mono HB.out.size)
    unfold pnc
    go_wp2_with fail
    exact ⟨rfl, rfl, B1⟩
end Go.Proofs.Ytacabmbajadbgaa
