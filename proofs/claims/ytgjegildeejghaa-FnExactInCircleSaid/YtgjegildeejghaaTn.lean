/- contract: the squares of all sides, by the program -/
import Derived.Test.YtgjegildeejghaaTm
namespace Go.Proofs.Ytgjegildeejghaa
open Go.ChangeShapes Go.WideShapes Go.ChangeAt Go.RowKit Go.Joins
set_option linter.unusedVariables false
set_option linter.unusedSimpArgs false
set_option maxRecDepth 4000
/-- three numbers, the first k of them set, in block g; the other blocks are as in W0 -/
structure SqR (w W0 wr : World) (g k : Nat) (s : Nat → Int) : Prop where
  below : Below w.heap.size w wr
  size : W0.heap.size ≤ wr.heap.size
  other : ∀ b o, b < W0.heap.size → b ≠ g → wr.cell? ⟨b, o, none⟩ = W0.cell? ⟨b, o, none⟩ ∧ wr.frozen? ⟨b, o, none⟩ = W0.frozen? ⟨b, o, none⟩
  row : ∀ j, j < 3 → wr.cell? ⟨g, j, none⟩ = some (.int .i64 (if j < k then s j else 0)) ∧ wr.frozen? ⟨g, j, none⟩ = false
theorem sqr_below {w W0 wr wr' : World} {g k : Nat} {s : Nat → Int} (h : SqR w W0 wr g k s) (hg : g < W0.heap.size) (hb : Below wr.heap.size wr wr') : SqR w W0 wr' g k s := by
  obtain ⟨h1, h2, h3, h4⟩ := h
  have hc := (bcell hb).1
  have hf := (bcell hb).2
  have hz := hb.size
  exact ⟨h1.trans (hb.mono h1.size), by omega, fun b o hb' hne => by rw [hc _ _ (by omega), hf _ _ (by omega)]; exact h3 b o hb' hne, fun j hj => by rw [hc _ _ (by omega), hf _ _ (by omega)]; exact h4 j hj⟩
theorem sqr_store {w W0 wr : World} {g k : Nat} {s : Nat → Int} (h : SqR w W0 wr g k s) (hk : k < 3) (hw : w.heap.size ≤ g) : SqR w W0 (wr.setCell ⟨g, k, none⟩ (.int .i64 (s k))) g (k + 1) s := by
  obtain ⟨h1, h2, h3, h4⟩ := h
  refine ⟨h1.setCell hw _, by simpa [World.setCell] using h2, fun b o hb hne => ?_, fun j hj => ?_⟩
  · rw [World.cell?_setCell_other _ _ _ _ (fun e => hne (by injection e with e1 e2; exact e1.symm)), World.frozen?_setCell]; exact h3 b o hb hne
  · obtain ⟨c1, c2⟩ := h4 j hj
    refine ⟨?_, by rw [World.frozen?_setCell]; exact c2⟩
    by_cases hjk : j = k
    · subst hjk
      rw [World.cell?_setCell_same _ _ _ c1, if_pos (by omega)]
    · rw [World.cell?_setCell_other _ _ _ _ (fun e => hjk (by injection e with e1 e2; exact e2.symm)), c1]
      by_cases hlt : j < k
      · rw [if_pos hlt, if_pos (by omega)]
      · rw [if_neg hlt, if_neg (by omega)]
theorem sqP_back (p q : Int × Int) : (q.1 - p.1) * (q.1 - p.1) + (q.2 - p.2) * (q.2 - p.2) = sqP p q := by unfold sqP sqI; grind
set_option maxHeartbeats 4000000 in
theorem sideSquares_any (l : List (Int × Int)) (a1 a2 b1 b2 c1 c2 : Int) (w : World) (ht : Tri l a1 a2 b1 b2 c1 c2) :
    Calls Try.prog 61 #[.agg #[.int .i64 a1, .int .i64 a2, .int .i64 b1, .int .i64 b2, .int .i64 c1, .int .i64 c2]] w fun e w' => e = .returned (.agg #[.int .i64 (sdF l 0), .int .i64 (sdF l 1), .int .i64 (sdF l 2)]) ∧ Below w.heap.size w w' := by
  have hpg : ∀ i, (-40 ≤ (vx l i).1 ∧ (vx l i).1 ≤ 40) ∧ (-40 ≤ (vx l i).2 ∧ (vx l i).2 ≤ 40) := fun i => by
    have := vx_pg ht.2.pegs (good_pos ht.2) i
    unfold isPg isPegB at this
    simp only [Bool.and_eq_true, decide_eq_true_eq] at this
    exact this
  have KS := Lib.hid (fun i hi W => (show Calls Try.prog 92 #[.agg #[.int .i64 a1, .int .i64 a2, .int .i64 b1, .int .i64 b2, .int .i64 c1, .int .i64 c2], .int .i64 (i : Nat)] W fun e w' => e = .returned (.tuple #[.agg #[.int .i64 (vx l (i + 1)).1, .int .i64 (vx l (i + 1)).2], .agg #[.int .i64 (vx l (i + 2)).1, .int .i64 (vx l (i + 2)).2]]) ∧ Below W.heap.size W w' from by
    rw [ht.1]; exact side_any a1 a2 b1 b2 c1 c2 i hi W))
  have KM := Lib.hid (fun i W => minus_any (vx l (i + 2)).1 (vx l (i + 2)).2 (vx l (i + 1)).1 (vx l (i + 1)).2 W (by have := hpg (i + 2); unfold Mid; omega) (by have := hpg (i + 2); unfold Mid; omega) (by have := hpg (i + 1); unfold Mid; omega) (by have := hpg (i + 1); unfold Mid; omega))
  have KQ := Lib.hid (fun i W => (show Calls Try.prog 77 #[.agg #[.int .i64 ((vx l (i + 2)).1 - (vx l (i + 1)).1), .int .i64 ((vx l (i + 2)).2 - (vx l (i + 1)).2)]] W fun e w' => e = .returned (.int .i64 (sdF l i)) ∧ Below W.heap.size W w' from by
    have := square_any ((vx l (i + 2)).1 - (vx l (i + 1)).1) ((vx l (i + 2)).2 - (vx l (i + 1)).2) W (by have h1 := hpg (i + 2); have h2 := hpg (i + 1); omega) (by have h1 := hpg (i + 2); have h2 := hpg (i + 1); omega)
    rw [sqP_back (vx l (i + 1)) (vx l (i + 2))] at this
    exact this))
  clear ht hpg
  generalize sdF l = s at *
  go_enter Try.func61, Try.ntmps61
  go_wp2_with fail
  obtain ⟨W0, hW0⟩ : ∃ W0, W0 = (((w.alloc (.cells #[.int .i64 a1, .int .i64 a2, .int .i64 b1, .int .i64 b2, .int .i64 c1, .int .i64 c2] 67)).alloc (.cells #[.int .i64 0, .int .i64 0, .int .i64 0] 72)).alloc (.cells #[.int .i64 0, .int .i64 0, .int .i64 0] 72)) := ⟨_, rfl⟩
  rw [← hW0]
  have yW00_0 : W0.cell? ⟨w.heap.size, 0, none⟩ = some (.int .i64 a1) := by rw [hW0]; go_simp
  have yW00_1 : W0.cell? ⟨w.heap.size, 1, none⟩ = some (.int .i64 a2) := by rw [hW0]; go_simp
  have yW00_2 : W0.cell? ⟨w.heap.size, 2, none⟩ = some (.int .i64 b1) := by rw [hW0]; go_simp
  have yW00_3 : W0.cell? ⟨w.heap.size, 3, none⟩ = some (.int .i64 b2) := by rw [hW0]; go_simp
  have yW00_4 : W0.cell? ⟨w.heap.size, 4, none⟩ = some (.int .i64 c1) := by rw [hW0]; go_simp
  have yW00_5 : W0.cell? ⟨w.heap.size, 5, none⟩ = some (.int .i64 c2) := by rw [hW0]; go_simp
  have fW00 : ∀ o, W0.frozen? ⟨w.heap.size, o, none⟩ = false := by intro o; rw [hW0]; (repeat rw [frozen?_alloc_cells]); simp [World.frozen?]
  have zW00 : w.heap.size < W0.heap.size := by rw [hW0]; simp <;> omega
  have yW01_0 : W0.cell? ⟨w.heap.size + 1, 0, none⟩ = some (.int .i64 0) := by rw [hW0]; go_simp
  have yW01_1 : W0.cell? ⟨w.heap.size + 1, 1, none⟩ = some (.int .i64 0) := by rw [hW0]; go_simp
  have yW01_2 : W0.cell? ⟨w.heap.size + 1, 2, none⟩ = some (.int .i64 0) := by rw [hW0]; go_simp
  have fW01 : ∀ o, W0.frozen? ⟨w.heap.size + 1, o, none⟩ = false := by intro o; rw [hW0]; (repeat rw [frozen?_alloc_cells]); simp [World.frozen?]
  have zW01 : w.heap.size + 1 < W0.heap.size := by rw [hW0]; simp <;> omega
  have yW02_0 : W0.cell? ⟨w.heap.size + 2, 0, none⟩ = some (.int .i64 0) := by rw [hW0]; go_simp
  have yW02_1 : W0.cell? ⟨w.heap.size + 2, 1, none⟩ = some (.int .i64 0) := by rw [hW0]; go_simp
  have yW02_2 : W0.cell? ⟨w.heap.size + 2, 2, none⟩ = some (.int .i64 0) := by rw [hW0]; go_simp
  have fW02 : ∀ o, W0.frozen? ⟨w.heap.size + 2, o, none⟩ = false := by intro o; rw [hW0]; (repeat rw [frozen?_alloc_cells]); simp [World.frozen?]
  have zW02 : w.heap.size + 2 < W0.heap.size := by rw [hW0]; simp <;> omega
  have BW0 : Below w.heap.size w W0 := by rw [hW0]; exact (Below.alloc (Below.alloc (Below.alloc (Below.refl _ _) (by simp <;> omega) _) (by simp <;> omega) _) (by simp <;> omega) _)
  have eW0 : Hid (W0.heap.size = w.heap.size + 3) := Lib.hid (by rw [hW0]; simp)
  clear hW0
  have HS := Lib.hid (show SqR w W0 W0 (w.heap.size + 2) 0 s from ⟨BW0, Nat.le_refl _, fun b o _ _ => ⟨rfl, rfl⟩, fun j hj => by
    rw [if_neg (by omega)]
    match j, hj with
    | 0, _ => exact ⟨yW02_0, fW02 0⟩
    | 1, _ => exact ⟨yW02_1, fW02 1⟩
    | 2, _ => exact ⟨yW02_2, fW02 2⟩⟩)
  clear yW02_0 yW02_1 yW02_2 fW02
  have HX := Lib.hid (And.intro yW00_0 (And.intro yW00_1 (And.intro yW00_2 (And.intro yW00_3 (And.intro yW00_4 yW00_5)))))
  have HY := Lib.hid (And.intro yW01_0 (And.intro yW01_1 (And.intro yW01_2 fW01)))
  clear yW00_0 yW00_1 yW00_2 yW00_3 yW00_4 yW00_5 yW01_0 yW01_1 yW01_2 fW01 fW00
  go_wp2_with fail
  go_loopg [7] 3 (fun gg i wr => ∃ k : Nat, k ≤ 3 ∧ gg = 3 - k ∧ i = .int .i64 k ∧ Hid (SqR w W0 wr (w.heap.size + 2) k s))
  case atStart => exact ⟨0, Nat.zero_le _, rfl, rfl, HS⟩
  case round =>
    clear HS
    obtain ⟨k, hk, hgg, rfl, hS⟩ := hrel
    rename World => wo
    have HGK := Lib.hid hgg
    clear hgg
    by_cases hlt : k < 3
    · have o0 := fun o => (hS.out.other w.heap.size o zW00 (by omega)).1
      obtain ⟨h0, h1, h2, h3, h4, h5⟩ := HX.out
      have x0 := (o0 0).trans h0
      have x1 := (o0 1).trans h1
      have x2 := (o0 2).trans h2
      have x3 := (o0 3).trans h3
      have x4 := (o0 4).trans h4
      have x5 := (o0 5).trans h5
      have hz := hS.out.size
      have zz : w.heap.size < wo.heap.size := by omega
      clear o0 h0 h1 h2 h3 h4 h5
      have d1 : ((k : Int) < 3) := by omega
      go_wp2_with fail
      refine (KS.out k hlt _).mono ?_; rintro e w1 ⟨rfl, hb1⟩
      have S1 := Lib.hid (sqr_below hS.out zW02 hb1)
      clear hS x0 x1 x2 x3 x4 x5 hb1
      have z1 := S1.out.size
      go_wp2_with fail
      have BA : Below w1.heap.size w1 ((w1.alloc (.cells #[.int .i64 (vx l (k + 1)).1, .int .i64 (vx l (k + 1)).2] 46)).alloc (.cells #[.int .i64 (vx l (k + 2)).1, .int .i64 (vx l (k + 2)).2] 46)) := Below.alloc (Below.alloc (Below.refl _ _) (Nat.le_refl _) _) (by simp) _
      have S2 := Lib.hid (sqr_below S1.out zW02 BA)
      clear S1
      refine (KM.out k _).mono ?_; rintro e w2 ⟨rfl, hb2⟩
      have S3 := Lib.hid (sqr_below S2.out zW02 hb2)
      clear S2 hb2 BA
      go_wp2_with fail
      refine (KQ.out k _).mono ?_; rintro e w3 ⟨rfl, hb3⟩
      have S4 := Lib.hid (sqr_below S3.out zW02 hb3)
      obtain ⟨r1, r2⟩ := S4.out.row k hlt
      have S5 := Lib.hid (sqr_store S4.out hlt (by omega))
      have z4 := S4.out.size
      have zg : w.heap.size + 2 < w3.heap.size := by omega
      clear S3 hb3 S4
      go_wp2_with fail
      go_roundg (3 - (k + 1))
      case measure => have := HGK.out; omega
      case rel => exact ⟨k + 1, by omega, rfl, by go_num, S5⟩
    · have hk3 : k = 3 := by omega
      subst hk3
      have r0 := (hS.out.row 0 (by omega)).1
      have r1 := (hS.out.row 1 (by omega)).1
      have r2 := (hS.out.row 2 (by omega)).1
      rw [if_pos (by omega)] at r0 r1 r2
      have o1 := fun o => (hS.out.other (w.heap.size + 1) o zW01 (by omega))
      obtain ⟨h0, h1, h2, h3⟩ := HY.out
      have x0 := (o1 0).1.trans h0
      have x1 := (o1 1).1.trans h1
      have x2 := (o1 2).1.trans h2
      have x3 := (o1 0).2.trans (h3 0)
      have x4 := (o1 1).2.trans (h3 1)
      have x5 := (o1 2).2.trans (h3 2)
      have hz := hS.out.size
      have zz : w.heap.size + 1 < wo.heap.size := by omega
      have zg : w.heap.size + 2 < wo.heap.size := by omega
      have B1 := hS.out.below
      clear o1 h0 h1 h2 h3 hS
      go_wp2_with fail
      refine bodyPost_ret (v := .agg #[.int .i64 (s 0), .int .i64 (s 1), .int .i64 (s 2)]) (by simp [results, Try.results61, go_sem, zz, x0, x1, x2]) rfl ⟨rfl, ?_⟩
      repeat (first | with_reducible assumption | with_reducible exact Below.refl _ _ | with_reducible apply Below.drew | ((with_reducible refine Below.setCell ?_ ?_ _); rotate_left; (first | exact Nat.le_refl _ | omega | (simp <;> omega))) | ((with_reducible refine Below.alloc ?_ ?_ _); rotate_left; (first | omega | (simp <;> omega))))
end Go.Proofs.Ytgjegildeejghaa
