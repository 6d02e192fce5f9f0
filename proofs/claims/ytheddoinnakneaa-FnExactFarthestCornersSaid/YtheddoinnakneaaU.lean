/- contract: the corners of a polygon, each with both beside it -/
import Derived.Test.YtheddoinnakneaaT
import Derived.StillTailTactics
namespace Go.Proofs.Ytheddoinnakneaa
open Go.ChangeShapes Go.WideShapes Go.ChangeAt Go.RowKit Go.Joins
set_option linter.unusedVariables false
set_option linter.unusedSimpArgs false
set_option maxRecDepth 4000
theorem corner_info : (Try.prog.info? 107).map (fun i => (i.zero, i.size, i.bytes)) = some (some (.agg #[.int .i64 0, .int .i64 0, .int .i64 0, .int .i64 0, .int .i64 0, .int .i64 0]), 6, 48) := by kernel_rfl
/-- a new block of n corners: the first k of them set -/
def SetC (w : World) (g n k : Nat) (l : List (Int × Int)) : Prop :=
  g < w.heap.size ∧ (∀ j, j < n * 6 → (∃ u, w.cell? ⟨g, j, none⟩ = some u) ∧ w.frozen? ⟨g, j, none⟩ = false) ∧
    ∀ i, i < k → w.cell? ⟨g, i * 6, none⟩ = some (.int .i64 (vx l i).1) ∧ w.cell? ⟨g, i * 6 + 1, none⟩ = some (.int .i64 (vx l i).2) ∧
      w.cell? ⟨g, i * 6 + 2, none⟩ = some (.int .i64 (vx l (i + n - 1)).1) ∧ w.cell? ⟨g, i * 6 + 3, none⟩ = some (.int .i64 (vx l (i + n - 1)).2) ∧
      w.cell? ⟨g, i * 6 + 4, none⟩ = some (.int .i64 (vx l (i + 1)).1) ∧ w.cell? ⟨g, i * 6 + 5, none⟩ = some (.int .i64 (vx l (i + 1)).2)
theorem setC_new (w : World) (t : TypeId) (n : Nat) (l : List (Int × Int)) : SetC (w.alloc (.cells (madeCells #[.int .i64 0, .int .i64 0, .int .i64 0, .int .i64 0, .int .i64 0, .int .i64 0] (n * 6)) t)) w.heap.size n 0 l := by
  have hs := size_madeCells #[.int .i64 0, .int .i64 0, .int .i64 0, .int .i64 0, .int .i64 0, .int .i64 0] (n * 6)
  refine ⟨by simp, fun j hj => ⟨⟨_, by rw [cell_of_row (w.alloc _) w.heap.size j _ t (0, 0) (heap_alloc_new w _)]; exact Array.getElem?_eq_getElem (by omega)⟩, ?_⟩, fun i h => absurd h (Nat.not_lt_zero _)⟩
  · rw [frozen?_alloc_cells]; simp [World.frozen?]
theorem setC_store {w : World} {g n k : Nat} {l : List (Int × Int)} (h : SetC w g n k l) (hk : k < n) (hl : l.length = n) :
    SetC ((((((w.setCell ⟨g, k * 6, none⟩ (.int .i64 (vx l k).1)).setCell ⟨g, k * 6 + 1, none⟩ (.int .i64 (vx l k).2)).setCell ⟨g, k * 6 + 2, none⟩ (.int .i64 (vx l ((k + n - 1) % n)).1)).setCell ⟨g, k * 6 + 3, none⟩ (.int .i64 (vx l ((k + n - 1) % n)).2)).setCell ⟨g, k * 6 + 4, none⟩ (.int .i64 (vx l ((k + 1) % n)).1)).setCell ⟨g, k * 6 + 5, none⟩ (.int .i64 (vx l ((k + 1) % n)).2)) g n (k + 1) l := by
  obtain ⟨h1, h2, h3⟩ := h
  have ne : ∀ (W : World) (o o' : Nat) (v : Value), o' ≠ o → (W.setCell ⟨g, o', none⟩ v).cell? ⟨g, o, none⟩ = W.cell? ⟨g, o, none⟩ := fun W o o' v h =>
    World.cell?_setCell_other W _ _ _ (fun e => h (by injection e))
  have sm : ∀ (W : World) (o : Nat) (v : Value), (∃ u, W.cell? ⟨g, o, none⟩ = some u) → (W.setCell ⟨g, o, none⟩ v).cell? ⟨g, o, none⟩ = some v := fun W o v ⟨u, h⟩ => World.cell?_setCell_same W _ _ h
  have ex : ∀ (W : World) (o : Nat) (v : Value), (∀ j, j < n * 6 → ∃ u, W.cell? ⟨g, j, none⟩ = some u) → ∀ j, j < n * 6 → ∃ u, (W.setCell ⟨g, o, none⟩ v).cell? ⟨g, j, none⟩ = some u := fun W o v h j hj => by
    obtain ⟨u, hu⟩ := h j hj
    exact cell?_setCell_some hu
  have x0 : ∀ j, j < n * 6 → ∃ u, w.cell? ⟨g, j, none⟩ = some u := fun j hj => (h2 j hj).1
  have x1 := ex _ (k * 6) (.int .i64 (vx l k).1) x0
  have x2 := ex _ (k * 6 + 1) (.int .i64 (vx l k).2) x1
  have x3 := ex _ (k * 6 + 2) (.int .i64 (vx l ((k + n - 1) % n)).1) x2
  have x4 := ex _ (k * 6 + 3) (.int .i64 (vx l ((k + n - 1) % n)).2) x3
  have x5 := ex _ (k * 6 + 4) (.int .i64 (vx l ((k + 1) % n)).1) x4
  have x6 := ex _ (k * 6 + 5) (.int .i64 (vx l ((k + 1) % n)).2) x5
  refine ⟨by simpa [World.setCell] using h1, fun j hj => ⟨x6 j hj, ?_⟩, fun i hi => ?_⟩
  · simp only [World.frozen?_setCell]; exact (h2 j hj).2
  · by_cases hik : i = k
    · subst hik
      have p1 : vx l ((i + n - 1) % n) = vx l (i + n - 1) := by rw [← hl, vx_per]
      have p2 : vx l ((i + 1) % n) = vx l (i + 1) := by rw [← hl, vx_per]
      refine ⟨?_, ?_, ?_, ?_, ?_, ?_⟩
      · rw [ne _ _ _ _ (by omega), ne _ _ _ _ (by omega), ne _ _ _ _ (by omega), ne _ _ _ _ (by omega), ne _ _ _ _ (by omega)]; exact sm _ _ _ (x0 _ (by omega))
      · rw [ne _ _ _ _ (by omega), ne _ _ _ _ (by omega), ne _ _ _ _ (by omega), ne _ _ _ _ (by omega)]; exact sm _ _ _ (x1 _ (by omega))
      · rw [ne _ _ _ _ (by omega), ne _ _ _ _ (by omega), ne _ _ _ _ (by omega), ← p1]; exact sm _ _ _ (x2 _ (by omega))
      · rw [ne _ _ _ _ (by omega), ne _ _ _ _ (by omega), ← p1]; exact sm _ _ _ (x3 _ (by omega))
      · rw [ne _ _ _ _ (by omega), ← p2]; exact sm _ _ _ (x4 _ (by omega))
      · rw [← p2]; exact sm _ _ _ (x5 _ (by omega))
    · have hlt : i < k := by omega
      have all : ∀ r, r < 6 → ((((((w.setCell ⟨g, k * 6, none⟩ (.int .i64 (vx l k).1)).setCell ⟨g, k * 6 + 1, none⟩ (.int .i64 (vx l k).2)).setCell ⟨g, k * 6 + 2, none⟩ (.int .i64 (vx l ((k + n - 1) % n)).1)).setCell ⟨g, k * 6 + 3, none⟩ (.int .i64 (vx l ((k + n - 1) % n)).2)).setCell ⟨g, k * 6 + 4, none⟩ (.int .i64 (vx l ((k + 1) % n)).1)).setCell ⟨g, k * 6 + 5, none⟩ (.int .i64 (vx l ((k + 1) % n)).2)).cell? ⟨g, i * 6 + r, none⟩ = w.cell? ⟨g, i * 6 + r, none⟩ := fun r hr => by
        rw [ne _ _ _ _ (by omega), ne _ _ _ _ (by omega), ne _ _ _ _ (by omega), ne _ _ _ _ (by omega), ne _ _ _ _ (by omega), ne _ _ _ _ (by omega)]
      obtain ⟨c0, c1, c2, c3, c4, c5⟩ := h3 i hlt
      exact ⟨(all 0 (by omega)).trans c0, (all 1 (by omega)).trans c1, (all 2 (by omega)).trans c2, (all 3 (by omega)).trans c3, (all 4 (by omega)).trans c4, (all 5 (by omega)).trans c5⟩
theorem setC_below {w w' : World} {g n k : Nat} {l : List (Int × Int)} (h : SetC w g n k l) (hb : Below w.heap.size w w') : SetC w' g n k l := by
  obtain ⟨h1, h2, h3⟩ := h
  have hc := (bcell hb).1
  have hf := (bcell hb).2
  have hz := hb.size
  exact ⟨by omega, fun j hj => by rw [hc _ _ h1, hf _ _ h1]; exact h2 j hj, fun i hi => by
    rw [hc _ _ h1, hc _ _ h1, hc _ _ h1, hc _ _ h1, hc _ _ h1, hc _ _ h1]; exact h3 i hi⟩
theorem setC_drew {w : World} {g n k : Nat} {l : List (Int × Int)} (h : SetC w g n k l) : SetC w.drew g n k l := h
set_option maxHeartbeats 2000000 in
theorem cornersAroundW_any (A : Option Addr) (c : Nat) (l : List (Int × Int)) (w : World) (h1 : 1 ≤ l.length) (hn : l.length ≤ 60) (hR : Rd w w.heap.size A l) :
    Calls Try.prog 87 #[.slice A l.length c] w fun e w' => e = .returned (.slice (some ⟨w.heap.size, 0, none⟩) l.length l.length) ∧ Below w.heap.size w w' ∧ SetC w' w.heap.size l.length l.length l := by
  obtain ⟨i0, hi0, hz0, hz1, hz2⟩ := info_parts corner_info
  have hmk := fun W => run_make (P := Try.prog) W 104 107 i0 _ Try.underlying104 hi0 hz0 .i64 .i64 (l.length : Int) (l.length : Int) (by omega) (by omega) (by rw [hz2]; omega) (by omega)
  obtain ⟨b, off, rfl, hb, hcell⟩ := hR (by omega)
  have hC : ∀ i, i < l.length → w.cell? ⟨b, off + i * 2, none⟩ = some (.int .i64 (vx l i).1) ∧ w.cell? ⟨b, off + i * 2 + 1, none⟩ = some (.int .i64 (vx l i).2) := fun i hi => hcell i _ (vx_get hi)
  have HC := Lib.hid hC
  clear hR hC hcell
  generalize hN : l.length = n at *
  have HN := Lib.hid hN
  clear hN
  go_enter Try.func87, Try.ntmps87
  go_wp2_with fail
  have hS0 := setC_new w 107 n l
  have hB0 : Below w.heap.size w (w.alloc (.cells (madeCells #[.int .i64 0, .int .i64 0, .int .i64 0, .int .i64 0, .int .i64 0, .int .i64 0] (n * 6)) 107)) := (Below.refl _ _).alloc (Nat.le_refl _) _
  go_loopg [13] n (fun g i wr => ∃ k : Nat, k ≤ n ∧ g = n - k ∧ i = .int .i64 k ∧ Below w.heap.size w wr ∧ Hid (SetC wr w.heap.size n k l))
  case atStart => exact ⟨0, Nat.zero_le _, rfl, rfl, hB0, Lib.hid hS0⟩
  case round =>
    obtain ⟨k, hk, hg, rfl, hB, hS⟩ := hrel
    rename World => wo
    have HGK := Lib.hid hg
    clear hg hS0 hB0 hmk
    by_cases hlt : k < n
    · have hq1 : wo.cell? ⟨b, off + k * 2, none⟩ = some (.int .i64 (vx l k).1) := (hB.cell (p := ⟨b, off + k * 2, none⟩) hb).trans (HC.out k hlt).1
      have hq2 : wo.cell? ⟨b, off + k * 2 + 1, none⟩ = some (.int .i64 (vx l k).2) := (hB.cell (p := ⟨b, off + k * 2 + 1, none⟩) hb).trans (HC.out k hlt).2
      have hzB := hB.size
      have hbo : b < wo.heap.size := by omega
      have hgo := hS.out.1
      have m1 : (k + n - 1) % n < n := Nat.mod_lt _ (by omega)
      have m2 : (k + 1) % n < n := Nat.mod_lt _ (by omega)
      have q3 := (hB.cell (p := ⟨b, off + (k + n - 1) % n * 2, none⟩) hb).trans (HC.out _ m1).1
      have q4 := (hB.cell (p := ⟨b, off + (k + n - 1) % n * 2 + 1, none⟩) hb).trans (HC.out _ m1).2
      have q5 := (hB.cell (p := ⟨b, off + (k + 1) % n * 2, none⟩) hb).trans (HC.out _ m2).1
      have q6 := (hB.cell (p := ⟨b, off + (k + 1) % n * 2 + 1, none⟩) hb).trans (HC.out _ m2).2
      have st : ∀ j, j < 6 → (∃ u, wo.cell? ⟨w.heap.size, k * 6 + j, none⟩ = some u) ∧ wo.frozen? ⟨w.heap.size, k * 6 + j, none⟩ = false := fun j hj => hS.out.2.1 _ (by omega)
      obtain ⟨⟨u0, a0⟩, f0⟩ := st 0 (by omega)
      obtain ⟨⟨u1, a1⟩, f1⟩ := st 1 (by omega)
      obtain ⟨⟨u2, a2⟩, f2⟩ := st 2 (by omega)
      obtain ⟨⟨u3, a3⟩, f3⟩ := st 3 (by omega)
      obtain ⟨⟨u4, a4⟩, f4⟩ := st 4 (by omega)
      obtain ⟨⟨u5, a5⟩, f5⟩ := st 5 (by omega)
      clear st
      simp only [Nat.add_zero] at a0 f0
      go_wp2_with fail
      have e1 : IntKind.i64.wrap ((k : Int) + (n : Int)) = (k : Int) + (n : Int) := IntWalk.i64_in _ (by omega)
      have e2 : IntKind.i64.wrap ((k : Int) + (n : Int) - 1) = (k : Int) + (n : Int) - 1 := IntWalk.i64_in _ (by omega)
      have e3 : IntKind.i64.wrap ((k : Int) + 1) = (k : Int) + 1 := IntWalk.i64_in _ (by omega)
      have e4 : ¬ n = 0 := by omega
      have e5 : (0 : Int) ≤ ((k : Int) + 1) % (n : Int) := Int.emod_nonneg _ (by omega)
      have e6 : ((k : Int) + 1) % (n : Int) < (n : Int) := Int.emod_lt_of_pos _ (by omega)
      have e7 : ((k : Int) + 1).tmod (n : Int) = ((k : Int) + 1) % (n : Int) := Int.tmod_eq_emod_of_nonneg (by omega)
      have e8 : (((k : Int) + 1) % (n : Int)).toNat = (k + 1) % n := by rw [show ((k : Int) + 1) % (n : Int) = (((k + 1) % n : Nat) : Int) by simp]; exact Int.toNat_natCast _
      have e9 : (0 : Int) ≤ ((k : Int) + (n : Int) - 1) % (n : Int) := Int.emod_nonneg _ (by omega)
      have e10 : ((k : Int) + (n : Int) - 1) % (n : Int) < (n : Int) := Int.emod_lt_of_pos _ (by omega)
      have e11 : ((k : Int) + (n : Int) - 1).tmod (n : Int) = ((k : Int) + (n : Int) - 1) % (n : Int) := Int.tmod_eq_emod_of_nonneg (by omega)
      have e12 : (((k : Int) + (n : Int) - 1) % (n : Int)).toNat = (k + n - 1) % n := by rw [show ((k : Int) + (n : Int) - 1) % (n : Int) = (((k + n - 1) % n : Nat) : Int) by rw [Int.natCast_emod]; congr 1; omega]; exact Int.toNat_natCast _
      obtain ⟨W2, hW2⟩ : ∃ W2, W2 = wo.alloc (.cells #[.int .i64 (vx l k).1, .int .i64 (vx l k).2] 56) := ⟨_, rfl⟩
      have al : ∀ b' o, b' < wo.heap.size → W2.cell? ⟨b', o, none⟩ = wo.cell? ⟨b', o, none⟩ := fun b' o h => by rw [hW2]; exact World.cell?_alloc_lt wo _ _ h
      have r1 : W2.cell? ⟨wo.heap.size, 0, none⟩ = some (.int .i64 (vx l k).1) := by rw [hW2]; go_simp
      have r2 : W2.cell? ⟨wo.heap.size, 1, none⟩ = some (.int .i64 (vx l k).2) := by rw [hW2]; go_simp
      have r3 := (al _ _ hbo).trans q3
      have r4 := (al _ _ hbo).trans q4
      have r5 := (al _ _ hbo).trans q5
      have r6 := (al _ _ hbo).trans q6
      have b0 := (al _ _ hgo).trans a0
      have b1 := (al _ _ hgo).trans a1
      have b2 := (al _ _ hgo).trans a2
      have b3 := (al _ _ hgo).trans a3
      have b4 := (al _ _ hgo).trans a4
      have b5 := (al _ _ hgo).trans a5
      have fz : ∀ o, W2.frozen? ⟨w.heap.size, o, none⟩ = wo.frozen? ⟨w.heap.size, o, none⟩ := fun o => by rw [hW2]; exact frozen?_alloc_cells _ _ _ _
      have g0 := (fz _).trans f0
      have g1 := (fz _).trans f1
      have g2 := (fz _).trans f2
      have g3 := (fz _).trans f3
      have g4 := (fz _).trans f4
      have g5 := (fz _).trans f5
      rw [← hW2]
      have HW2 := Lib.hid hW2
      clear hW2 al fz q3 q4 q5 q6 a0 a1 a2 a3 a4 a5 f0 f1 f2 f3 f4 f5 hq1 hq2
      refine wp_region_still_tail 21 (by kernel_rfl) (by kernel_rfl) ?_
      change wpStill _ _ W2.drew (fun a' => wpList _ _ _ _ a' W2.drew) _ _
      simp only [List.take_succ_cons, List.take_zero, List.drop_succ_cons, List.drop_zero]
      repeat still_step
      try refine wpStill_nil ?_
      clear e1 e2 e3 e4 e5 e6 e7 e8 e9 e10 e11 e12
      have B2 : Below w.heap.size w W2 := by rw [HW2.out]; exact Below.alloc hB hzB _
      have S2 : SetC W2 w.heap.size n k l := by rw [HW2.out]; exact setC_below hS.out (Below.alloc (Below.refl _ _) (Nat.le_refl _) _)
      have S3 := Lib.hid (setC_drew (setC_store S2 hlt HN.out))
      have B3 := Lib.hid (Below.drew (Below.setCell (Below.setCell (Below.setCell (Below.setCell (Below.setCell (Below.setCell B2 (p := ⟨w.heap.size, k * 6, none⟩) (Nat.le_refl _) (.int .i64 (vx l k).1)) (p := ⟨w.heap.size, k * 6 + 1, none⟩) (Nat.le_refl _) (.int .i64 (vx l k).2)) (p := ⟨w.heap.size, k * 6 + 2, none⟩) (Nat.le_refl _) (.int .i64 (vx l ((k + n - 1) % n)).1)) (p := ⟨w.heap.size, k * 6 + 3, none⟩) (Nat.le_refl _) (.int .i64 (vx l ((k + n - 1) % n)).2)) (p := ⟨w.heap.size, k * 6 + 4, none⟩) (Nat.le_refl _) (.int .i64 (vx l ((k + 1) % n)).1)) (p := ⟨w.heap.size, k * 6 + 5, none⟩) (Nat.le_refl _) (.int .i64 (vx l ((k + 1) % n)).2)))
      clear S2 hS
      go_wp2_with fail
      go_roundg (n - (k + 1))
      case measure => have := HGK.out; omega
      case rel => exact ⟨k + 1, by omega, rfl, by go_num, B3.out, S3⟩
    · have hkn : n = k := by omega
      subst hkn
      go_wp2_with fail
      go_ret
      exact ⟨rfl, hB, hS.out⟩
theorem cornersAround_any (A : Option Addr) (c : Nat) (l : List (Int × Int)) (w : World) (h1 : 1 ≤ l.length) (hn : l.length ≤ 10) (hR : Rd w w.heap.size A l) :
    Calls Try.prog 87 #[.slice A l.length c] w fun e w' => e = .returned (.slice (some ⟨w.heap.size, 0, none⟩) l.length l.length) ∧ Below w.heap.size w w' ∧ SetC w' w.heap.size l.length l.length l := cornersAroundW_any A c l w h1 (by omega) hR
end Go.Proofs.Ytheddoinnakneaa
