/- contract: the circle through a triangle's corners, the program -/
import Derived.Test.YtgjegildeejghaaCc
import Derived.Test.YtgjegildeejghaaTix
import Derived.BigRegion
import Derived.Test.YtgjegildeejghaaTc
namespace Go.Proofs.Ytgjegildeejghaa
open Go.ChangeShapes Go.WideShapes Go.ChangeAt Go.RowKit Go.Joins
set_option linter.unusedVariables false
set_option linter.unusedSimpArgs false
set_option maxRecDepth 4000
theorem index3_any {l : List (Int × Int)} {a1 a2 b1 b2 c1 c2 : Int} (h : l = [(a1, a2), (b1, b2), (c1, c2)]) (k : Nat) (hk : k < 3) (W : World) : (Instr.index 67 (.agg #[.int .i64 a1, .int .i64 a2, .int .i64 b1, .int .i64 b2, .int .i64 c1, .int .i64 c2]) (.int .i64 (k : Int))).run Try.prog W = .ok (.agg #[.int .i64 (vx l k).1, .int .i64 (vx l k).2]) W := by
  subst h
  match k, hk with
  | 0, _ => exact index3_0 a1 a2 b1 b2 c1 c2 W
  | 1, _ => exact index3_1 a1 a2 b1 b2 c1 c2 W
  | 2, _ => exact index3_2 a1 a2 b1 b2 c1 c2 W
/-- a point in block g; the other blocks are as in W0 -/
structure MsR (w W0 wr : World) (g : Nat) (p : Int × Int) : Prop where
  below : Below w.heap.size w wr
  size : W0.heap.size ≤ wr.heap.size
  other : ∀ b o, b < W0.heap.size → b ≠ g → wr.cell? ⟨b, o, none⟩ = W0.cell? ⟨b, o, none⟩ ∧ wr.frozen? ⟨b, o, none⟩ = W0.frozen? ⟨b, o, none⟩
  c0 : wr.cell? ⟨g, 0, none⟩ = some (.int .i64 p.1)
  c1 : wr.cell? ⟨g, 1, none⟩ = some (.int .i64 p.2)
  f : ∀ o, wr.frozen? ⟨g, o, none⟩ = false
theorem msr_below {w W0 wr wr' : World} {g : Nat} {p : Int × Int} (h : MsR w W0 wr g p) (hg : g < W0.heap.size) (hb : Below wr.heap.size wr wr') : MsR w W0 wr' g p := by
  obtain ⟨h1, h2, h3, h4, h5, h6⟩ := h
  have hc := (bcell hb).1
  have hf := (bcell hb).2
  have hz := hb.size
  exact ⟨h1.trans (hb.mono h1.size), by omega, fun b o hb' hne => by rw [hc _ _ (by omega), hf _ _ (by omega)]; exact h3 b o hb' hne, by rw [hc _ _ (by omega)]; exact h4, by rw [hc _ _ (by omega)]; exact h5, fun o => by rw [hf _ _ (by omega)]; exact h6 o⟩
theorem msr_store {w W0 wr : World} {g : Nat} {p : Int × Int} (h : MsR w W0 wr g p) (hw : w.heap.size ≤ g) (x y : Int) : MsR w W0 ((wr.setCell ⟨g, 0, none⟩ (.int .i64 x)).setCell ⟨g, 1, none⟩ (.int .i64 y)) g (x, y) := by
  obtain ⟨h1, h2, h3, h4, h5, h6⟩ := h
  have n1 : ∀ b o oo, b ≠ g → (⟨g, oo, none⟩ : Addr) ≠ ⟨b, o, none⟩ := fun b o oo hne e => hne (by injection e with e1 e2; exact e1.symm)
  refine ⟨(h1.setCell hw _).setCell hw _, by simpa [World.setCell] using h2, fun b o hb hne => ?_, ?_, ?_, fun o => ?_⟩
  · rw [World.cell?_setCell_other _ _ _ _ (n1 b o 1 hne), World.cell?_setCell_other _ _ _ _ (n1 b o 0 hne), World.frozen?_setCell, World.frozen?_setCell]; exact h3 b o hb hne
  · rw [World.cell?_setCell_other _ _ _ _ (fun e => by injection e with e1 e2; cases e2), World.cell?_setCell_same _ _ _ h4]
  · refine World.cell?_setCell_same _ _ _ (show (wr.setCell ⟨g, 0, none⟩ (.int .i64 x)).cell? ⟨g, 1, none⟩ = some (.int .i64 p.2) by rw [World.cell?_setCell_other _ _ _ _ (fun e => by injection e with e1 e2; cases e2)]; exact h5)
  · rw [World.frozen?_setCell, World.frozen?_setCell]; exact h6 o
theorem mpF_bd {l : List (Int × Int)} (hpg : ∀ i, (-40 ≤ (vx l i).1 ∧ (vx l i).1 ≤ 40) ∧ (-40 ≤ (vx l i).2 ∧ (vx l i).2 ≤ 40)) (i : Nat) : (0 ≤ (vx l i).1 * (vx l i).1 + (vx l i).2 * (vx l i).2 ∧ (vx l i).1 * (vx l i).1 + (vx l i).2 * (vx l i).2 ≤ 12800) ∧ (-1024000 ≤ (mpF l i).1 ∧ (mpF l i).1 ≤ 1024000) ∧ (-1024000 ≤ (mpF l i).2 ∧ (mpF l i).2 ≤ 1024000) := by
  have p0 := hpg i
  have p1 := hpg (i + 1)
  have p2 := hpg (i + 2)
  have s1 := sq80 (x := (vx l i).1) (by omega)
  have s2 := sq80 (x := (vx l i).2) (by omega)
  refine ⟨by omega, ?_, ?_⟩
  · exact mul_bd (x := -((vx l (i + 2)).2 - (vx l (i + 1)).2)) (y := (vx l i).1 * (vx l i).1 + (vx l i).2 * (vx l i).2) (m := 80) (n := 12800) (by omega) (by omega) (by omega) (by omega)
  · exact mul_bd (x := (vx l (i + 2)).1 - (vx l (i + 1)).1) (y := (vx l i).1 * (vx l i).1 + (vx l i).2 * (vx l i).2) (m := 80) (n := 12800) (by omega) (by omega) (by omega) (by omega)
theorem msF_bd {l : List (Int × Int)} (hpg : ∀ i, (-40 ≤ (vx l i).1 ∧ (vx l i).1 ≤ 40) ∧ (-40 ≤ (vx l i).2 ∧ (vx l i).2 ≤ 40)) : ∀ i : Nat, (-1024000 * (i : Int) ≤ (msF l i).1 ∧ (msF l i).1 ≤ 1024000 * (i : Int)) ∧ (-1024000 * (i : Int) ≤ (msF l i).2 ∧ (msF l i).2 ≤ 1024000 * (i : Int))
  | 0 => by unfold msF; simp
  | i + 1 => by
    have h := msF_bd hpg i
    have h2 := (mpF_bd hpg i).2
    unfold msF
    omega
theorem cg_neg2 {X Y D : Int} (h : D < 0) : cgI X Y D = -((Nat.gcd ((Nat.gcd X.natAbs Y.natAbs : Nat) : Int).natAbs D.natAbs : Nat) : Int) := by
  unfold cgI
  rw [if_pos h, Int.natAbs_natCast]
set_option maxHeartbeats 4000000 in
theorem circle_any (l : List (Int × Int)) (a1 a2 b1 b2 c1 c2 : Int) (w : World) (ht : Tri l a1 a2 b1 b2 c1 c2) (hd : twI a1 a2 b1 b2 c1 c2 ≠ 0) :
    Calls Try.prog 72 #[.agg #[.int .i64 a1, .int .i64 a2, .int .i64 b1, .int .i64 b2, .int .i64 c1, .int .i64 c2]] w fun e w' => e = .returned (.tuple #[.agg #[.int .i64 ((cxI a1 a2 b1 b2 c1 c2).tdiv (cgI (cxI a1 a2 b1 b2 c1 c2) (cyI a1 a2 b1 b2 c1 c2) (cdI a1 a2 b1 b2 c1 c2))), .int .i64 ((cyI a1 a2 b1 b2 c1 c2).tdiv (cgI (cxI a1 a2 b1 b2 c1 c2) (cyI a1 a2 b1 b2 c1 c2) (cdI a1 a2 b1 b2 c1 c2)))], .int .i64 ((cdI a1 a2 b1 b2 c1 c2).tdiv (cgI (cxI a1 a2 b1 b2 c1 c2) (cyI a1 a2 b1 b2 c1 c2) (cdI a1 a2 b1 b2 c1 c2)))]) ∧ Below w.heap.size w w' := by
  have hpg : ∀ i, (-40 ≤ (vx l i).1 ∧ (vx l i).1 ≤ 40) ∧ (-40 ≤ (vx l i).2 ∧ (vx l i).2 ≤ 40) := fun i => by
    have := vx_pg ht.2.pegs (good_pos ht.2) i
    unfold isPg isPegB at this
    simp only [Bool.and_eq_true, decide_eq_true_eq] at this
    exact this
  have HM := Lib.hid (fun i => msF_bd hpg i)
  have HP := Lib.hid (fun i => mpF_bd hpg i)
  have HA := Lib.hid (msF_all ht)
  have KT := Lib.hid (fun W => twice_any a1 a2 b1 b2 c1 c2 W (tri_sz ht).1 (tri_sz ht).2.1 (tri_sz ht).2.2)
  have KS := Lib.hid (fun i hi W => (show Calls Try.prog 92 #[.agg #[.int .i64 a1, .int .i64 a2, .int .i64 b1, .int .i64 b2, .int .i64 c1, .int .i64 c2], .int .i64 (i : Nat)] W fun e w' => e = .returned (.tuple #[.agg #[.int .i64 (vx l (i + 1)).1, .int .i64 (vx l (i + 1)).2], .agg #[.int .i64 (vx l (i + 2)).1, .int .i64 (vx l (i + 2)).2]]) ∧ Below W.heap.size W w' from by
    rw [ht.1]; exact side_any a1 a2 b1 b2 c1 c2 i hi W))
  have KI := Lib.hid (fun i hi W => index3_any ht.1 i hi W)
  have HV := Lib.hid hpg
  have HT := twI_bd (tri_sz ht).1 (tri_sz ht).2.1 (tri_sz ht).2.2
  obtain ⟨T1, T2⟩ := HT
  have hD : Hid (2 * twI a1 a2 b1 b2 c1 c2 = cdI a1 a2 b1 b2 c1 c2) := Lib.hid rfl
  clear ht hpg
  generalize cxI a1 a2 b1 b2 c1 c2 = X at *
  generalize cyI a1 a2 b1 b2 c1 c2 = Y at *
  generalize cdI a1 a2 b1 b2 c1 c2 = D at *
  generalize twI a1 a2 b1 b2 c1 c2 = t at *
  go_enter Try.func72, Try.ntmps72
  go_wp2_with fail
  obtain ⟨Wa, hWa⟩ : ∃ Wa, Wa = ((w.alloc (.cells #[.int .i64 a1, .int .i64 a2, .int .i64 b1, .int .i64 b2, .int .i64 c1, .int .i64 c2] 67)).alloc (.cells #[.int .i64 0, .int .i64 0] 46)) := ⟨_, rfl⟩
  rw [← hWa]
  have yWa0_0 : Wa.cell? ⟨w.heap.size, 0, none⟩ = some (.int .i64 a1) := by rw [hWa]; go_simp
  have yWa0_1 : Wa.cell? ⟨w.heap.size, 1, none⟩ = some (.int .i64 a2) := by rw [hWa]; go_simp
  have yWa0_2 : Wa.cell? ⟨w.heap.size, 2, none⟩ = some (.int .i64 b1) := by rw [hWa]; go_simp
  have yWa0_3 : Wa.cell? ⟨w.heap.size, 3, none⟩ = some (.int .i64 b2) := by rw [hWa]; go_simp
  have yWa0_4 : Wa.cell? ⟨w.heap.size, 4, none⟩ = some (.int .i64 c1) := by rw [hWa]; go_simp
  have yWa0_5 : Wa.cell? ⟨w.heap.size, 5, none⟩ = some (.int .i64 c2) := by rw [hWa]; go_simp
  have fWa0 : ∀ o, Wa.frozen? ⟨w.heap.size, o, none⟩ = false := by intro o; rw [hWa]; (repeat rw [frozen?_alloc_cells]); simp [World.frozen?]
  have zWa0 : w.heap.size < Wa.heap.size := by rw [hWa]; simp <;> omega
  have yWa1_0 : Wa.cell? ⟨w.heap.size + 1, 0, none⟩ = some (.int .i64 0) := by rw [hWa]; go_simp
  have yWa1_1 : Wa.cell? ⟨w.heap.size + 1, 1, none⟩ = some (.int .i64 0) := by rw [hWa]; go_simp
  have fWa1 : ∀ o, Wa.frozen? ⟨w.heap.size + 1, o, none⟩ = false := by intro o; rw [hWa]; (repeat rw [frozen?_alloc_cells]); simp [World.frozen?]
  have zWa1 : w.heap.size + 1 < Wa.heap.size := by rw [hWa]; simp <;> omega
  have BWa : Below w.heap.size w Wa := by rw [hWa]; exact (Below.alloc (Below.alloc (Below.refl _ _) (by simp <;> omega) _) (by simp <;> omega) _)
  have eWa : Hid (Wa.heap.size = w.heap.size + 2) := Lib.hid (by rw [hWa]; simp)
  clear hWa
  refine (KT.out _).mono ?_; rintro e w1 ⟨rfl, hb1⟩
  obtain ⟨hcA, hfA⟩ := bcell hb1
  have zA := hb1.size
  have d0 := (hcA _ _ zWa0).trans yWa0_0
  have d1 := (hcA _ _ zWa0).trans yWa0_1
  have d2 := (hcA _ _ zWa0).trans yWa0_2
  have d3 := (hcA _ _ zWa0).trans yWa0_3
  have d4 := (hcA _ _ zWa0).trans yWa0_4
  have d5 := (hcA _ _ zWa0).trans yWa0_5
  have d6 := (hcA _ _ zWa1).trans yWa1_0
  have d7 := (hcA _ _ zWa1).trans yWa1_1
  have d8 := fun o => (hfA _ o zWa1).trans (fWa1 o)
  have za : w.heap.size < w1.heap.size := by omega
  have zb : w.heap.size + 1 < w1.heap.size := by omega
  have B1 := BWa.trans (hb1.mono BWa.size)
  clear hcA hfA yWa0_0 yWa0_1 yWa0_2 yWa0_3 yWa0_4 yWa0_5 yWa1_0 yWa1_1 fWa0 fWa1 hb1 zWa0 zWa1 BWa eWa zA
  go_wp2_with fail
  obtain ⟨W0, hW0⟩ : ∃ W0, W0 = (w1.alloc (.cells #[.int .i64 0, .int .i64 0] 46)) := ⟨_, rfl⟩
  rw [← hW0]
  have yW00_0 : W0.cell? ⟨w1.heap.size, 0, none⟩ = some (.int .i64 0) := by rw [hW0]; go_simp
  have yW00_1 : W0.cell? ⟨w1.heap.size, 1, none⟩ = some (.int .i64 0) := by rw [hW0]; go_simp
  have fW00 : ∀ o, W0.frozen? ⟨w1.heap.size, o, none⟩ = false := by intro o; rw [hW0]; (repeat rw [frozen?_alloc_cells]); simp [World.frozen?]
  have zW00 : w1.heap.size < W0.heap.size := by rw [hW0]; simp <;> omega
  have BW0 : Below w1.heap.size w1 W0 := by rw [hW0]; exact (Below.alloc (Below.refl _ _) (by simp <;> omega) _)
  have eW0 : Hid (W0.heap.size = w1.heap.size + 1) := Lib.hid (by rw [hW0]; simp)
  clear hW0
  have HS := Lib.hid (show MsR w W0 W0 w1.heap.size (msF l 0) from ⟨B1.trans (BW0.mono B1.size), Nat.le_refl _, fun b o _ _ => ⟨rfl, rfl⟩, yW00_0, yW00_1, fW00⟩)
  obtain ⟨hcA, hfA⟩ := bcell BW0
  have HX := Lib.hid (And.intro ((hcA _ _ za).trans d0) (And.intro ((hcA _ _ za).trans d1) (And.intro ((hcA _ _ za).trans d2) (And.intro ((hcA _ _ za).trans d3) (And.intro ((hcA _ _ za).trans d4) ((hcA _ _ za).trans d5))))))
  have HY := Lib.hid (And.intro ((hcA _ _ zb).trans d6) (And.intro ((hcA _ _ zb).trans d7) (fun o => (hfA _ o zb).trans (d8 o))))
  have zz := BW0.size
  have ya : w.heap.size < W0.heap.size := by omega
  have yb : w.heap.size + 1 < W0.heap.size := by omega
  have na : w.heap.size ≠ w1.heap.size := by omega
  have nb : w.heap.size + 1 ≠ w1.heap.size := by omega
  have wz : w.heap.size ≤ w1.heap.size := by omega
  clear hcA hfA d0 d1 d2 d3 d4 d5 d6 d7 d8 yW00_0 yW00_1 fW00 eW0 zz BW0 B1 za zb
  go_loopg [16] 3 (fun gg i wr => ∃ k : Nat, k ≤ 3 ∧ gg = 3 - k ∧ i = .int .i64 k ∧ Hid (MsR w W0 wr w1.heap.size (msF l k)))
  case atStart => exact ⟨0, Nat.zero_le _, rfl, rfl, HS⟩
  case round =>
    clear HS
    obtain ⟨k, hk, hgg, rfl, hS⟩ := hrel
    rename World => wo
    have HGK := Lib.hid hgg
    clear hgg
    by_cases hlt : k < 3
    · have o0 := fun o => (hS.out.other w.heap.size o ya na).1
      obtain ⟨h0, h1, h2, h3, h4, h5⟩ := HX.out
      have x0 := (o0 0).trans h0
      have x1 := (o0 1).trans h1
      have x2 := (o0 2).trans h2
      have x3 := (o0 3).trans h3
      have x4 := (o0 4).trans h4
      have x5 := (o0 5).trans h5
      have hz := hS.out.size
      have zz : w.heap.size < wo.heap.size := by omega
      clear o0 h0 h1 h2 h3 h4 h5
      have dd1 : ((k : Int) < 3) := by omega
      have IX := KI.out k hlt
      go_wp2_with fail
      clear IX
      obtain ⟨W1, hW1⟩ : ∃ W1, W1 = (wo.alloc (.cells #[.int .i64 ((vx l k).1), .int .i64 ((vx l k).2)] 46)) := ⟨_, rfl⟩
      rw [← hW1]
      have yW10_0 : W1.cell? ⟨wo.heap.size, 0, none⟩ = some (.int .i64 ((vx l k).1)) := by rw [hW1]; go_simp
      have yW10_1 : W1.cell? ⟨wo.heap.size, 1, none⟩ = some (.int .i64 ((vx l k).2)) := by rw [hW1]; go_simp
      have fW10 : ∀ o, W1.frozen? ⟨wo.heap.size, o, none⟩ = false := by intro o; rw [hW1]; (repeat rw [frozen?_alloc_cells]); simp [World.frozen?]
      have zW10 : wo.heap.size < W1.heap.size := by rw [hW1]; simp <;> omega
      have BW1 : Below wo.heap.size wo W1 := by rw [hW1]; exact (Below.alloc (Below.refl _ _) (by simp <;> omega) _)
      have eW1 : Hid (W1.heap.size = wo.heap.size + 1) := Lib.hid (by rw [hW1]; simp)
      clear hW1
      have S1 := Lib.hid (msr_below hS.out zW00 BW1)
      refine (KS.out k hlt _).mono ?_; rintro e w2 ⟨rfl, hb2⟩
      have S2 := Lib.hid (msr_below S1.out zW00 hb2)
      have p0 := ((bcell hb2).1 _ _ zW10).trans yW10_0
      have p1 := ((bcell hb2).1 _ _ zW10).trans yW10_1
      have zp : wo.heap.size < w2.heap.size := by have := hb2.size; omega
      clear hS S1 x0 x1 x2 x3 x4 x5 hb2 yW10_0 yW10_1 zW10 BW1 eW1 fW10
      go_wp2_with fail
      obtain ⟨W3, hW3⟩ : ∃ W3, W3 = ((w2.alloc (.cells #[.int .i64 ((vx l (k + 1)).1), .int .i64 ((vx l (k + 1)).2)] 46)).alloc (.cells #[.int .i64 ((vx l (k + 2)).1), .int .i64 ((vx l (k + 2)).2)] 46)) := ⟨_, rfl⟩
      rw [← hW3]
      have yW30_0 : W3.cell? ⟨w2.heap.size, 0, none⟩ = some (.int .i64 ((vx l (k + 1)).1)) := by rw [hW3]; go_simp
      have yW30_1 : W3.cell? ⟨w2.heap.size, 1, none⟩ = some (.int .i64 ((vx l (k + 1)).2)) := by rw [hW3]; go_simp
      have fW30 : ∀ o, W3.frozen? ⟨w2.heap.size, o, none⟩ = false := by intro o; rw [hW3]; (repeat rw [frozen?_alloc_cells]); simp [World.frozen?]
      have zW30 : w2.heap.size < W3.heap.size := by rw [hW3]; simp <;> omega
      have yW31_0 : W3.cell? ⟨w2.heap.size + 1, 0, none⟩ = some (.int .i64 ((vx l (k + 2)).1)) := by rw [hW3]; go_simp
      have yW31_1 : W3.cell? ⟨w2.heap.size + 1, 1, none⟩ = some (.int .i64 ((vx l (k + 2)).2)) := by rw [hW3]; go_simp
      have fW31 : ∀ o, W3.frozen? ⟨w2.heap.size + 1, o, none⟩ = false := by intro o; rw [hW3]; (repeat rw [frozen?_alloc_cells]); simp [World.frozen?]
      have zW31 : w2.heap.size + 1 < W3.heap.size := by rw [hW3]; simp <;> omega
      have BW3 : Below w2.heap.size w2 W3 := by rw [hW3]; exact (Below.alloc (Below.alloc (Below.refl _ _) (by simp <;> omega) _) (by simp <;> omega) _)
      have eW3 : Hid (W3.heap.size = w2.heap.size + 2) := Lib.hid (by rw [hW3]; simp)
      clear hW3
      have S3 := Lib.hid (msr_below S2.out zW00 BW3)
      have r0 := S3.out.c0
      have r1 := S3.out.c1
      have z3 := S3.out.size
      have zg : w1.heap.size < W3.heap.size := by omega
      have r2 := ((bcell BW3).1 _ _ zp).trans p0
      have r3 := ((bcell BW3).1 _ _ zp).trans p1
      have zq : wo.heap.size < W3.heap.size := by have := BW3.size; omega
      clear S2 p0 p1 zp BW3 eW3 fW30 fW31
      have V0 := HV.out k
      have V1 := HV.out (k + 1)
      have V2 := HV.out (k + 2)
      have M0 := HM.out k
      have P0 := HP.out k
      have EM : Hid (msF l (k + 1) = ((msF l k).1 + (mpF l k).1, (msF l k).2 + (mpF l k).2)) := Lib.hid rfl
      have KM := Lib.hid (fun W => minus_any (vx l (k + 2)).1 (vx l (k + 2)).2 (vx l (k + 1)).1 (vx l (k + 1)).2 W (by unfold Mid; omega) (by unfold Mid; omega) (by unfold Mid; omega) (by unfold Mid; omega))
      have KU := Lib.hid (fun W => turnedM_any ((vx l (k + 2)).1 - (vx l (k + 1)).1) ((vx l (k + 2)).2 - (vx l (k + 1)).2) W (by unfold Mid; omega) (by unfold Mid; omega))
      have KQ := Lib.hid (fun W => square_any (vx l k).1 (vx l k).2 W (by omega) (by omega))
      have KX := Lib.hid (fun W => (show Calls Try.prog 75 #[.agg #[.int .i64 (-((vx l (k + 2)).2 - (vx l (k + 1)).2)), .int .i64 ((vx l (k + 2)).1 - (vx l (k + 1)).1)], .int .i64 ((vx l k).1 * (vx l k).1 + (vx l k).2 * (vx l k).2)] W fun e w' => e = .returned (.agg #[.int .i64 (mpF l k).1, .int .i64 (mpF l k).2]) ∧ Below W.heap.size W w' from
        times_any (-((vx l (k + 2)).2 - (vx l (k + 1)).2)) ((vx l (k + 2)).1 - (vx l (k + 1)).1) ((vx l k).1 * (vx l k).1 + (vx l k).2 * (vx l k).2) W (show -1000000000000000 ≤ (mpF l k).1 ∧ (mpF l k).1 ≤ 1000000000000000 by omega) (show -1000000000000000 ≤ (mpF l k).2 ∧ (mpF l k).2 ≤ 1000000000000000 by omega)))
      have KP := Lib.hid (fun W => plus_any (msF l k).1 (msF l k).2 (mpF l k).1 (mpF l k).2 W (by unfold Mid; omega) (by unfold Mid; omega) (by unfold Mid; omega) (by unfold Mid; omega))
      clear V0 V1 V2 M0 P0
      generalize hm1 : (msF l k).1 + (mpF l k).1 = m1 at *
      generalize hm2 : (msF l k).2 + (mpF l k).2 = m2 at *
      clear hm1 hm2
      generalize (mpF l k).1 = t1 at *
      generalize (mpF l k).2 = t2 at *
      generalize (vx l k).1 * (vx l k).1 + (vx l k).2 * (vx l k).2 = sq at *
      generalize hdd1 : (vx l (k + 2)).1 - (vx l (k + 1)).1 = e1 at *
      generalize hdd2 : (vx l (k + 2)).2 - (vx l (k + 1)).2 = e2 at *
      clear hdd1 hdd2
      refine wp_region_BT 9 (fun W => Below (W3).heap.size (W3) W) (by kernel_rfl) (by kernel_rfl) (by repeat (first | exact Below.refl _ _ | apply Below.drew)) ?_
      simp only [List.take_succ_cons, List.take_zero, List.drop_succ_cons, List.drop_zero]
      first | refine wpH_skip (by rfl) ?_ | (refine wpH_text (v := ?_) (by rfl) (fun W k1 => ?_) ?_; rotate_left; (obtain ⟨hc1, hf1⟩ := bcell k1;  go_simp; refine comes_v ?_; exact k1))
      (try simp only [Act.put, List.setIfInBounds_toArray, List.set_cons_zero, List.set_cons_succ])
      first | refine wpH_skip (by rfl) ?_ | (refine wpH_text (v := ?_) (by rfl) (fun W k1 => ?_) ?_; rotate_left; (obtain ⟨hc1, hf1⟩ := bcell k1;  go_simp; refine comes_v ?_; exact k1))
      (try simp only [Act.put, List.setIfInBounds_toArray, List.set_cons_zero, List.set_cons_succ])
      first | refine wpH_skip (by rfl) ?_ | (refine wpH_text (v := ?_) (by rfl) (fun W k1 => ?_) ?_; rotate_left; (obtain ⟨hc1, hf1⟩ := bcell k1;  go_simp; refine comes_v ?_; exact k1))
      (try simp only [Act.put, List.setIfInBounds_toArray, List.set_cons_zero, List.set_cons_succ])
      first | refine wpH_skip (by rfl) ?_ | (refine wpH_text (v := .agg #[.int .i64 e1, .int .i64 e2]) (by rfl) (fun W k1 => ?_) ?_; (obtain ⟨hc1, hf1⟩ := bcell k1;  go_simp; exact comes_c ( KM.out _) (fun wn hbn => k1.trans (hbn.mono k1.size))))
      (try simp only [Act.put, List.setIfInBounds_toArray, List.set_cons_zero, List.set_cons_succ])
      first | refine wpH_skip (by rfl) ?_ | (refine wpH_text (v := .agg #[.int .i64 (-e2), .int .i64 e1]) (by rfl) (fun W k1 => ?_) ?_; (obtain ⟨hc1, hf1⟩ := bcell k1;  go_simp; exact comes_c ( KU.out _) (fun wn hbn => k1.trans (hbn.mono k1.size))))
      (try simp only [Act.put, List.setIfInBounds_toArray, List.set_cons_zero, List.set_cons_succ])
      first | refine wpH_skip (by rfl) ?_ | (refine wpH_text (v := ?_) (by rfl) (fun W k1 => ?_) ?_; rotate_left; (obtain ⟨hc1, hf1⟩ := bcell k1;  go_simp; refine comes_v ?_; exact k1))
      (try simp only [Act.put, List.setIfInBounds_toArray, List.set_cons_zero, List.set_cons_succ])
      first | refine wpH_skip (by rfl) ?_ | (refine wpH_text (v := .int .i64 sq) (by rfl) (fun W k1 => ?_) ?_; (obtain ⟨hc1, hf1⟩ := bcell k1;  go_simp; exact comes_c ( KQ.out _) (fun wn hbn => k1.trans (hbn.mono k1.size))))
      (try simp only [Act.put, List.setIfInBounds_toArray, List.set_cons_zero, List.set_cons_succ])
      first | refine wpH_skip (by rfl) ?_ | (refine wpH_text (v := .agg #[.int .i64 t1, .int .i64 t2]) (by rfl) (fun W k1 => ?_) ?_; (obtain ⟨hc1, hf1⟩ := bcell k1;  go_simp; exact comes_c ( KX.out _) (fun wn hbn => k1.trans (hbn.mono k1.size))))
      (try simp only [Act.put, List.setIfInBounds_toArray, List.set_cons_zero, List.set_cons_succ])
      first | refine wpH_skip (by rfl) ?_ | (refine wpH_text (v := .agg #[.int .i64 m1, .int .i64 m2]) (by rfl) (fun W k1 => ?_) ?_; (obtain ⟨hc1, hf1⟩ := bcell k1;  go_simp; exact comes_c ( KP.out _) (fun wn hbn => k1.trans (hbn.mono k1.size))))
      (try simp only [Act.put, List.setIfInBounds_toArray, List.set_cons_zero, List.set_cons_succ])
      refine wpH_nil ?_
      intro W k1; obtain ⟨hc1, hf1⟩ := bcell k1
      have S4 := Lib.hid (msr_below S3.out zW00 k1)
      have q0 := S4.out.c0
      have q1 := S4.out.c1
      have q2 := S4.out.f 0
      have q3 := S4.out.f 1
      have S5 := Lib.hid (show MsR w W0 _ w1.heap.size (msF l (k + 1)) from by rw [EM.out]; exact msr_store S4.out wz m1 m2)
      have z4 := S4.out.size
      have zh : w1.heap.size < W.heap.size := by omega
      clear hc1 hf1 r0 r1 r2 r3 S3 S4
      go_wp2_with fail
      go_roundg (3 - (k + 1))
      case measure => have := HGK.out; omega
      case rel => exact ⟨k + 1, by omega, rfl, by go_num, S5⟩
    · have hk3 : k = 3 := by omega
      subst hk3
      have SF := Lib.hid (show MsR w W0 wo w1.heap.size (X, Y) from by rw [← HA.out]; exact hS.out)
      have M3 := HM.out 3
      rw [HA.out] at M3
      obtain ⟨⟨hX1, hX2⟩, ⟨hY1, hY2⟩⟩ := M3
      dsimp only at hX1 hX2 hY1 hY2
      have hD' := hD.out
      subst hD'
      clear hS HM HP HA KT KS KI HV HX HGK hlt hk hD
      have y0 := SF.out.c0
      have y1 := SF.out.c1
      have zf : w1.heap.size < wo.heap.size := by have := SF.out.size; omega
      by_cases hneg : 2 * t < 0
      · skip
        have HG := Lib.hid (cg_neg2 (X := X) (Y := Y) hneg)
        have K1 := Lib.hid (fun W => greatestDivisorW_any X Y W (by omega) (by omega) (by omega) (by omega))
        have HB := gcd_le_add X.natAbs Y.natAbs
        have K2 := Lib.hid (fun W => greatestDivisorW_any ((Nat.gcd X.natAbs Y.natAbs : Nat) : Int) (2 * t) W (by omega) (by omega) (by omega) (by omega))
        have HC := gcd_le_add ((Nat.gcd X.natAbs Y.natAbs : Nat) : Int).natAbs (2 * t).natAbs
        have HP := Nat.gcd_pos_of_pos_right (((Nat.gcd X.natAbs Y.natAbs : Nat) : Int).natAbs) (show 0 < (2 * t).natAbs by omega)
        generalize Nat.gcd ((Nat.gcd X.natAbs Y.natAbs : Nat) : Int).natAbs (2 * t).natAbs = G at *
        generalize Nat.gcd X.natAbs Y.natAbs = G1 at *
        have gb : (G : Int) ≤ 1000000000000 := by omega
        have gn : IntKind.i64.wrap (-(G : Int)) = -(G : Int) := IntWalk.i64_in _ (by omega)
        have gp : 0 < (G : Int) := by omega
        clear HB HC HP
        go_wp2_with fail
        refine (K1.out _).mono ?_; rintro e w3 ⟨rfl, hb3⟩
        have S3 := Lib.hid (msr_below SF.out zW00 hb3)
        clear hb3 y0 y1 SF zf
        have zf : w1.heap.size < w3.heap.size := by have := S3.out.size; omega
        go_wp2_with fail
        refine (K2.out _).mono ?_; rintro e w4 ⟨rfl, hb4⟩
        have S4 := Lib.hid (msr_below S3.out zW00 hb4)
        clear hb4 S3 zf K1 K2
        go_upto_region 11 with fail
        generalize hcc : -(G : Int) = c at *
        have hc0 : ¬ c = 0 := by omega
        have t1 := tdiv_le X c
        have t2 := tdiv_le Y c
        have t3 := tdiv_le (2 * t) c
        have e1 : IntKind.i64.wrap (X.tdiv c) = X.tdiv c := IntWalk.i64_in _ (by omega)
        have e2 : IntKind.i64.wrap (Y.tdiv c) = Y.tdiv c := IntWalk.i64_in _ (by omega)
        have e3 : IntKind.i64.wrap ((2 * t).tdiv c) = (2 * t).tdiv c := IntWalk.i64_in _ (by omega)
        have zf : w1.heap.size < w4.heap.size := by have := S4.out.size; omega
        have zs : w.heap.size + 1 < w4.heap.size := by have := S4.out.size; omega
        have y0 := S4.out.c0
        have y1 := S4.out.c1
        have v0 := (S4.out.other _ 0 yb nb).1.trans HY.out.1
        have v1 := (S4.out.other _ 1 yb nb).1.trans HY.out.2.1
        have v2 := (S4.out.other _ 0 yb nb).2.trans (HY.out.2.2 0)
        have v3 := (S4.out.other _ 1 yb nb).2.trans (HY.out.2.2 1)
        have B4 := S4.out.below
        clear hcc t1 t2 t3 S4 T1 T2 hX1 hX2 hY1 hY2 hneg gb gn gp
        go_region
        all_goals
          go_wp2_with fail
          refine bodyPost_ret (v := .tuple #[.agg #[.int .i64 (X.tdiv c), .int .i64 (Y.tdiv c)], .int .i64 ((2 * t).tdiv c)]) (by simp [results, Try.results72, go_sem, v0, v1, zs, e3]) rfl ⟨by rw [HG.out], ?_⟩
          repeat (first | with_reducible assumption | with_reducible exact Below.refl _ _ | with_reducible apply Below.drew | ((with_reducible refine Below.setCell ?_ ?_ _); rotate_left; (first | exact Nat.le_refl _ | omega | (simp <;> omega))) | ((with_reducible refine Below.alloc ?_ ?_ _); rotate_left; (first | omega | (simp <;> omega))))
      · skip
        have HG := Lib.hid (cg_pos (X := X) (Y := Y) hneg)
        have K1 := Lib.hid (fun W => greatestDivisorW_any X Y W (by omega) (by omega) (by omega) (by omega))
        have HB := gcd_le_add X.natAbs Y.natAbs
        have K2 := Lib.hid (fun W => greatestDivisorW_any ((Nat.gcd X.natAbs Y.natAbs : Nat) : Int) (2 * t) W (by omega) (by omega) (by omega) (by omega))
        have HC := gcd_le_add ((Nat.gcd X.natAbs Y.natAbs : Nat) : Int).natAbs (2 * t).natAbs
        have HP := Nat.gcd_pos_of_pos_right (((Nat.gcd X.natAbs Y.natAbs : Nat) : Int).natAbs) (show 0 < (2 * t).natAbs by omega)
        generalize Nat.gcd ((Nat.gcd X.natAbs Y.natAbs : Nat) : Int).natAbs (2 * t).natAbs = G at *
        generalize Nat.gcd X.natAbs Y.natAbs = G1 at *
        have gb : (G : Int) ≤ 1000000000000 := by omega
        have gn : IntKind.i64.wrap (-(G : Int)) = -(G : Int) := IntWalk.i64_in _ (by omega)
        have gp : 0 < (G : Int) := by omega
        clear HB HC HP
        go_wp2_with fail
        refine (K1.out _).mono ?_; rintro e w3 ⟨rfl, hb3⟩
        have S3 := Lib.hid (msr_below SF.out zW00 hb3)
        clear hb3 y0 y1 SF zf
        have zf : w1.heap.size < w3.heap.size := by have := S3.out.size; omega
        go_wp2_with fail
        refine (K2.out _).mono ?_; rintro e w4 ⟨rfl, hb4⟩
        have S4 := Lib.hid (msr_below S3.out zW00 hb4)
        clear hb4 S3 zf K1 K2
        go_upto_region 11 with fail
        generalize hcc : (G : Int) = c at *
        have hc0 : ¬ c = 0 := by omega
        have t1 := tdiv_le X c
        have t2 := tdiv_le Y c
        have t3 := tdiv_le (2 * t) c
        have e1 : IntKind.i64.wrap (X.tdiv c) = X.tdiv c := IntWalk.i64_in _ (by omega)
        have e2 : IntKind.i64.wrap (Y.tdiv c) = Y.tdiv c := IntWalk.i64_in _ (by omega)
        have e3 : IntKind.i64.wrap ((2 * t).tdiv c) = (2 * t).tdiv c := IntWalk.i64_in _ (by omega)
        have zf : w1.heap.size < w4.heap.size := by have := S4.out.size; omega
        have zs : w.heap.size + 1 < w4.heap.size := by have := S4.out.size; omega
        have y0 := S4.out.c0
        have y1 := S4.out.c1
        have v0 := (S4.out.other _ 0 yb nb).1.trans HY.out.1
        have v1 := (S4.out.other _ 1 yb nb).1.trans HY.out.2.1
        have v2 := (S4.out.other _ 0 yb nb).2.trans (HY.out.2.2 0)
        have v3 := (S4.out.other _ 1 yb nb).2.trans (HY.out.2.2 1)
        have B4 := S4.out.below
        clear hcc t1 t2 t3 S4 T1 T2 hX1 hX2 hY1 hY2 hneg gb gn gp
        go_region
        all_goals
          go_wp2_with fail
          refine bodyPost_ret (v := .tuple #[.agg #[.int .i64 (X.tdiv c), .int .i64 (Y.tdiv c)], .int .i64 ((2 * t).tdiv c)]) (by simp [results, Try.results72, go_sem, v0, v1, zs, e3]) rfl ⟨by rw [HG.out], ?_⟩
          repeat (first | with_reducible assumption | with_reducible exact Below.refl _ _ | with_reducible apply Below.drew | ((with_reducible refine Below.setCell ?_ ?_ _); rotate_left; (first | exact Nat.le_refl _ | omega | (simp <;> omega))) | ((with_reducible refine Below.alloc ?_ ?_ _); rotate_left; (first | omega | (simp <;> omega))))
end Go.Proofs.Ytgjegildeejghaa
