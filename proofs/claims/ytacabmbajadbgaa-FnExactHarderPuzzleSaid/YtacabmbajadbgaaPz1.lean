/- clues in memory: four numbers each; laid anew, compared, marked, held -/
import Derived.Test.YtacabmbajadbgaaCiM
import Derived.Test.YtacabmbajadbgaaRt
import Derived.BigRegion
namespace Go.Proofs.Ytacabmbajadbgaa
open Go.ChangeShapes Go.WideShapes Go.ChangeAt Go.RowKit Go.Joins
set_option linter.unusedVariables false
set_option linter.unusedSimpArgs false
set_option maxRecDepth 4000
/-- clue i of a row of numbers -/
def cvF (f : Nat → Int) (i : Nat) : Value := .agg #[.int .i64 (f (i * 4)), .int .i64 (f (i * 4 + 1)), .int .i64 (f (i * 4 + 2)), .int .i64 (f (i * 4 + 3))]
theorem clue_info : (Try.prog.info? 38).map (fun i => (i.zero, i.size, i.bytes)) = some (some (.agg #[.int .i64 0, .int .i64 0, .int .i64 0, .int .i64 0]), 4, 32) := by kernel_rfl
theorem toClue_any (a b c d : Int) (w : World) :
    Calls Try.prog 23 #[.agg #[.int .i64 a, .int .i64 b, .int .i64 c, .int .i64 d]] w fun e w' => e = .returned (.agg #[.int .i64 a, .int .i64 b, .int .i64 c, .int .i64 d]) ∧ Below w.heap.size w w' := by
  go_enter Try.func23, Try.ntmps23
  go_wp2_with fail
  refine bodyPost_ret (v := .agg #[.int .i64 a, .int .i64 b, .int .i64 c, .int .i64 d]) (by simp [results, Try.results23, go_sem]) rfl ⟨rfl, ?_⟩
  repeat (first | with_reducible assumption | with_reducible exact Below.refl _ _ | with_reducible apply Below.drew | ((with_reducible refine Below.setCell ?_ ?_ _); rotate_left; (first | exact Nat.le_refl _ | omega | (simp <;> omega))) | ((with_reducible refine Below.alloc ?_ ?_ _); rotate_left; (first | omega | (simp <;> omega))))
theorem seti_new4 (w : World) (t : TypeId) (n : Nat) (f : Nat → Int) : SetI (w.alloc (.cells (madeCells #[.int .i64 0, .int .i64 0, .int .i64 0, .int .i64 0] (n * 4)) t)) w.heap.size (n * 4) 0 f := by
  refine ⟨by simp, fun i hi => ?_, fun i h => absurd h (Nat.not_lt_zero _)⟩
  have hs := size_madeCells #[.int .i64 0, .int .i64 0, .int .i64 0, .int .i64 0] (n * 4)
  exact ⟨⟨_, by rw [cell_of_row (w.alloc _) w.heap.size i _ t (0, 0) (heap_alloc_new w _)]; exact Array.getElem?_eq_getElem (by omega)⟩, by rw [frozen?_alloc_cells]; simp [World.frozen?]⟩
theorem seti_below {w w' : World} {g n k : Nat} {f : Nat → Int} (h : SetI w g n k f) (hb : Below w.heap.size w w') : SetI w' g n k f := by
  obtain ⟨h1, h2, h3⟩ := h
  have hc := (bcell hb).1
  have hf := (bcell hb).2
  have hz := hb.size
  exact ⟨by omega, fun i hi => by rw [hc _ _ h1, hf _ _ h1]; exact h2 i hi, fun i hi => by rw [hc _ _ h1]; exact h3 i hi⟩
theorem seti_store4 {w : World} {g n k : Nat} {f : Nat → Int} (h : SetI w g (n * 4) (k * 4) f) (hk : k < n) :
    SetI ((((w.setCell ⟨g, k * 4, none⟩ (.int .i64 (f (k * 4)))).setCell ⟨g, k * 4 + 1, none⟩ (.int .i64 (f (k * 4 + 1)))).setCell ⟨g, k * 4 + 2, none⟩ (.int .i64 (f (k * 4 + 2)))).setCell ⟨g, k * 4 + 3, none⟩ (.int .i64 (f (k * 4 + 3)))) g (n * 4) ((k + 1) * 4) f := by
  have := seti_store (seti_store (seti_store (seti_store h (by omega)) (by omega)) (by omega)) (by omega)
  rw [show (k + 1) * 4 = k * 4 + 1 + 1 + 1 + 1 by omega]
  exact this
/-- block g holds the numbers -/
structure Nib (w : World) (g n : Nat) (f : Nat → Int) : Prop where
  z : g < w.heap.size
  r : RwI w g (g + 1) (some ⟨g, 0, none⟩) n f
theorem nib_below {w w' : World} {g n : Nat} {f : Nat → Int} (h : Nib w g n f) (hb : Below w.heap.size w w') : Nib w' g n f := ⟨Nat.lt_of_lt_of_le h.z hb.size, rwi_below h.r hb h.z⟩
theorem nib_rd {w : World} {g n : Nat} {f : Nat → Int} (h : Nib w g n f) : RdI w w.heap.size (some ⟨g, 0, none⟩) n f := rdi_of_rw h.r h.z
theorem nib_of_seti {w : World} {g n : Nat} {f : Nat → Int} (h : SetI w g n n f) : Nib w g n f := ⟨h.1, fun hn => by
  obtain ⟨b, off, e, h1, h2, h3⟩ := rwi_of_seti h (Nat.le_refl g) hn
  injection e with e
  injection e with e1 e2
  subst e1
  exact ⟨g, off, by rw [← e2], h1, by omega, h3⟩⟩
set_option maxHeartbeats 1000000 in
theorem toClueS_any (A : Option Addr) (c n : Nat) (f : Nat → Int) (w : World) (hn : n ≤ 1048576) (hR : RdI w w.heap.size A (n * 4) f) :
    Calls Try.prog 57 #[.slice A n c] w fun e w' => e = .returned (.slice (some ⟨w.heap.size, 0, none⟩) n n) ∧ Below w.heap.size w w' ∧ Nib w' w.heap.size (n * 4) f := by
  obtain ⟨i0, hi0, hz0, hz1, hz2⟩ := info_parts clue_info
  have hmk := fun W => run_make (P := Try.prog) W 26 38 i0 _ Try.underlying26 hi0 hz0 .i64 .i64 (n : Int) (n : Int) (by omega) (by omega) (by rw [hz2]; omega) (by omega)
  have HR := Lib.hid hR
  clear hR
  go_enter Try.func57, Try.ntmps57
  go_wp2_with fail
  have hS0 := Lib.hid (seti_new4 w 38 n f)
  have hB0 : Below w.heap.size w (w.alloc (.cells (madeCells #[.int .i64 0, .int .i64 0, .int .i64 0, .int .i64 0] (n * 4)) 38)) := (Below.refl _ _).alloc (Nat.le_refl _) _
  clear hmk
  go_loopg [4] n (fun g i wr => ∃ k : Nat, k ≤ n ∧ g = n - k ∧ i = .int .i64 k ∧ Below w.heap.size w wr ∧ Hid (SetI wr w.heap.size (n * 4) (k * 4) f))
  case atStart => exact ⟨0, Nat.zero_le _, rfl, rfl, hB0, hS0⟩
  case round =>
    clear hB0 hS0
    obtain ⟨k, hk, hg, rfl, hB, hS⟩ := hrel
    rename World => wo
    have HGK := Lib.hid hg
    clear hg
    by_cases hlt : k < n
    · obtain ⟨b, off, rfl, hb, hcell⟩ := HR.out (by omega)
      have q0 : wo.cell? ⟨b, off + k * 4, none⟩ = some (.int .i64 (f (k * 4))) := (hB.cell (p := ⟨b, off + k * 4, none⟩) hb).trans (hcell (k * 4) (by omega))
      have q1 : wo.cell? ⟨b, off + k * 4 + 1, none⟩ = some (.int .i64 (f (k * 4 + 1))) := (hB.cell (p := ⟨b, off + k * 4 + 1, none⟩) hb).trans (hcell (k * 4 + 1) (by omega))
      have q2 : wo.cell? ⟨b, off + k * 4 + 2, none⟩ = some (.int .i64 (f (k * 4 + 2))) := (hB.cell (p := ⟨b, off + k * 4 + 2, none⟩) hb).trans (hcell (k * 4 + 2) (by omega))
      have q3 : wo.cell? ⟨b, off + k * 4 + 3, none⟩ = some (.int .i64 (f (k * 4 + 3))) := (hB.cell (p := ⟨b, off + k * 4 + 3, none⟩) hb).trans (hcell (k * 4 + 3) (by omega))
      clear hcell
      go_wp2_with fail
      refine (toClue_any _ _ _ _ _).mono ?_; rintro e w1 ⟨rfl, hb1⟩
      have S1 := seti_below hS.out hb1
      have B1 := hB.trans (hb1.mono hB.size)
      obtain ⟨g1, g2, g3⟩ := S1
      obtain ⟨⟨u0, d0⟩, z0⟩ := g2 (k * 4) (by omega)
      obtain ⟨⟨u1, d1⟩, z1⟩ := g2 (k * 4 + 1) (by omega)
      obtain ⟨⟨u2, d2⟩, z2⟩ := g2 (k * 4 + 2) (by omega)
      obtain ⟨⟨u3, d3⟩, z3⟩ := g2 (k * 4 + 3) (by omega)
      have S2 := Lib.hid (seti_store4 (seti_below hS.out hb1) hlt)
      have B2 := Lib.hid ((((B1.setCell (p := ⟨w.heap.size, k * 4, none⟩) (Nat.le_refl _) (.int .i64 (f (k * 4)))).setCell (p := ⟨w.heap.size, k * 4 + 1, none⟩) (Nat.le_refl _) (.int .i64 (f (k * 4 + 1)))).setCell (p := ⟨w.heap.size, k * 4 + 2, none⟩) (Nat.le_refl _) (.int .i64 (f (k * 4 + 2)))).setCell (p := ⟨w.heap.size, k * 4 + 3, none⟩) (Nat.le_refl _) (.int .i64 (f (k * 4 + 3))))
      clear g2 g3 hS hb1 q0 q1 q2 q3
      go_wp2_with fail
      go_roundg (n - (k + 1))
      case measure => have := HGK.out; omega
      case rel => exact ⟨k + 1, by omega, rfl, by go_num, B2.out, S2⟩
    · have hkn : n = k := by omega
      subst hkn
      go_wp2_with fail
      go_ret
      exact ⟨rfl, hB, nib_of_seti hS.out⟩
set_option maxHeartbeats 1000000 in
theorem markClueS_any (A : Option Addr) (c n : Nat) (k : Int) (lo B : Nat) (f : Nat → Int) (w : World) (hn : n ≤ 1048576) (hk1 : 1 ≤ k) (hk2 : k ≤ 1000000000) (hR : RwI w lo B A (n * 4) f) :
    Calls Try.prog 61 #[.slice A n c, .int .i64 k] w fun e w' => e = .returned (.int .i64 (k + 4 * (n : Int))) ∧ Only lo B w w' ∧ RwI w' lo B A (n * 4) (fun i => k + (i : Int)) := by
  have HM := Lib.hid (show MarkedI w w lo B A (n * 4) k 0 f from ⟨Only.refl _ _ _, rwi_same hR fun i hi => by unfold mixI; rw [if_neg (by omega)]⟩)
  clear hR
  go_enter Try.func61, Try.ntmps61
  go_wp2_with fail
  go_loopg [1, 5] n (fun g u i wr => ∃ j : Nat, j ≤ n ∧ g = n - j ∧ i = .int .i64 j ∧ u = .int .i64 (k + 4 * (j : Int)) ∧ Hid (MarkedI w wr lo B A (n * 4) k (j * 4) f))
  case atStart => exact ⟨0, Nat.zero_le _, rfl, rfl, by simp, HM⟩
  case round =>
    obtain ⟨j, hj, hg, rfl, rfl, hM⟩ := hrel
    rename World => wo
    have HGK := Lib.hid hg
    clear hg HM
    by_cases hlt : j < n
    · obtain ⟨b, off, hA, hb1, hb2, hc⟩ := hM.out.row (by omega)
      subst hA
      obtain ⟨c0, z0⟩ := hc (j * 4) (by omega)
      have p1 := hc (j * 4 + 1) (by omega)
      have p2 := hc (j * 4 + 2) (by omega)
      have p3 := hc (j * 4 + 3) (by omega)
      rw [← Nat.add_assoc] at p1 p2 p3
      obtain ⟨c1, z1⟩ := p1
      obtain ⟨c2, z2⟩ := p2
      obtain ⟨c3, z3⟩ := p3
      have M2 : Hid (MarkedI w ((((wo.setCell ⟨b, off + j * 4, none⟩ (.int .i64 (k + 4 * (j : Int)))).setCell ⟨b, off + j * 4 + 1, none⟩ (.int .i64 (k + 4 * (j : Int) + 1))).setCell ⟨b, off + j * 4 + 2, none⟩ (.int .i64 (k + 4 * (j : Int) + 2))).setCell ⟨b, off + j * 4 + 3, none⟩ (.int .i64 (k + 4 * (j : Int) + 3))) lo B (some ⟨b, off, none⟩) (n * 4) k ((j + 1) * 4) f) := Lib.hid (by
        have h := markedI_step (markedI_step (markedI_step (markedI_step hM.out (by omega) hb1 hb2) (by omega) hb1 hb2) (by omega) hb1 hb2) (by omega) hb1 hb2
        rw [show k + ((j * 4 : Nat) : Int) = k + 4 * (j : Int) by omega, show k + ((j * 4 + 1 : Nat) : Int) = k + 4 * (j : Int) + 1 by omega, show k + ((j * 4 + 1 + 1 : Nat) : Int) = k + 4 * (j : Int) + 2 by omega, show k + ((j * 4 + 1 + 1 + 1 : Nat) : Int) = k + 4 * (j : Int) + 3 by omega] at h
        rw [show (j + 1) * 4 = j * 4 + 1 + 1 + 1 + 1 by omega]
        exact h)
      clear hc hM
      have e1 : IntKind.i64.wrap (k + 4 * (j : Int) + 1) = k + 4 * (j : Int) + 1 := IntWalk.i64_in _ (by omega)
      have e2 : IntKind.i64.wrap (k + 4 * (j : Int) + 1 + 1) = k + 4 * (j : Int) + 2 := by rw [IntWalk.i64_in _ (by omega)]; omega
      have e3 : IntKind.i64.wrap (k + 4 * (j : Int) + 2 + 1) = k + 4 * (j : Int) + 3 := by rw [IntWalk.i64_in _ (by omega)]; omega
      have e4 : IntKind.i64.wrap (k + 4 * (j : Int) + 3 + 1) = k + 4 * ((j + 1 : Nat) : Int) := by rw [IntWalk.i64_in _ (by omega)]; omega
      go_wp2_with fail
      go_roundg (n - (j + 1))
      case measure => have := HGK.out; omega
      case rel => exact ⟨j + 1, by omega, rfl, by go_num, by first | rfl | go_num, M2⟩
    · have hjn : n = j := by omega
      subst hjn
      go_wp2_with fail
      go_ret
      exact ⟨rfl, hM.out.only, rwi_same hM.out.row fun i hi => by unfold mixI; rw [if_pos hi]⟩
set_option maxHeartbeats 1000000 in
theorem heldClueS_any (A : Option Addr) (c n : Nat) (k : Int) (lo B : Nat) (w : World) (hn : n ≤ 1048576) (hk1 : 1 ≤ k) (hk2 : k ≤ 1000000000) (hR : RwI w lo B A (n * 4) (fun i => k + (i : Int))) :
    Calls Try.prog 62 #[.slice A n c, .int .i64 k] w fun e w' => e = .returned (.int .i64 (k + 4 * (n : Int))) ∧ w = w' := by
  have HR := Lib.hid hR
  clear hR
  go_enter Try.func62, Try.ntmps62
  go_wp2_with fail
  go_loopg [1, 5] n (fun g u i wr => ∃ j : Nat, j ≤ n ∧ g = n - j ∧ i = .int .i64 j ∧ u = .int .i64 (k + 4 * (j : Int)) ∧ w = wr)
  case atStart => exact ⟨0, Nat.zero_le _, rfl, rfl, by simp, rfl⟩
  case round =>
    obtain ⟨j, hj, hg, rfl, rfl, rfl⟩ := hrel
    have HGK := Lib.hid hg
    clear hg
    by_cases hlt : j < n
    · obtain ⟨b, off, hA, hb1, hb2, hc⟩ := HR.out (by omega)
      subst hA
      have p0 := (hc (j * 4) (by omega)).1
      have p1 := (hc (j * 4 + 1) (by omega)).1
      have p2 := (hc (j * 4 + 2) (by omega)).1
      have p3 := (hc (j * 4 + 3) (by omega)).1
      rw [← Nat.add_assoc] at p1 p2 p3
      dsimp only at p0 p1 p2 p3
      rw [show k + ((j * 4 : Nat) : Int) = k + 4 * (j : Int) by omega] at p0
      rw [show k + ((j * 4 + 1 : Nat) : Int) = k + 4 * (j : Int) + 1 by omega] at p1
      rw [show k + ((j * 4 + 2 : Nat) : Int) = k + 4 * (j : Int) + 2 by omega] at p2
      rw [show k + ((j * 4 + 3 : Nat) : Int) = k + 4 * (j : Int) + 3 by omega] at p3
      have e1 : IntKind.i64.wrap (k + 4 * (j : Int) + 1) = k + 4 * (j : Int) + 1 := IntWalk.i64_in _ (by omega)
      have e2 : IntKind.i64.wrap (k + 4 * (j : Int) + 1 + 1) = k + 4 * (j : Int) + 2 := by rw [IntWalk.i64_in _ (by omega)]; omega
      have e3 : IntKind.i64.wrap (k + 4 * (j : Int) + 2 + 1) = k + 4 * (j : Int) + 3 := by rw [IntWalk.i64_in _ (by omega)]; omega
      have e4 : IntKind.i64.wrap (k + 4 * (j : Int) + 3 + 1) = k + 4 * ((j + 1 : Nat) : Int) := by rw [IntWalk.i64_in _ (by omega)]; omega
      clear hc
      go_wp2_with fail
      go_roundg (n - (j + 1))
      case measure => have := HGK.out; omega
      case rel => exact ⟨j + 1, by omega, rfl, by go_num, by first | rfl | go_num, rfl⟩
    · have hjn : n = j := by omega
      subst hjn
      go_wp2_with fail
      go_ret
      exact ⟨rfl, rfl⟩
theorem eqClue_same (a b c d : Int) (w : World) :
    Calls Try.prog 95 #[.agg #[.int .i64 a, .int .i64 b, .int .i64 c, .int .i64 d], .agg #[.int .i64 a, .int .i64 b, .int .i64 c, .int .i64 d]] w fun e w' => e = .returned (.bool true) ∧ Below w.heap.size w w' := by
  go_enter Try.func95, Try.ntmps95
  go_wp2_with fail
  go_ret
  exact ⟨rfl, (by repeat (first | exact Below.refl _ _ | assumption | apply Below.drew | refine Below.alloc ?_ (by simp <;> omega) _))⟩
set_option maxHeartbeats 2000000 in
theorem eqClueS_same (A A' : Option Addr) (c c' n : Nat) (f : Nat → Int) (w : World) (hn : n ≤ 1048576) (hR : RdI w w.heap.size A (n * 4) f) (hR' : RdI w w.heap.size A' (n * 4) f) :
    Calls Try.prog 60 #[.slice A n c, .slice A' n c'] w fun e w' => e = .returned (.bool true) ∧ Below w.heap.size w w' := by
  have HR := Lib.hid hR
  have HR' := Lib.hid hR'
  clear hR hR'
  go_enter Try.func60, Try.ntmps60
  go_wp2_with fail
  go_loopg [5] n (fun g i wr => ∃ j : Nat, j ≤ n ∧ g = n - j ∧ i = .int .i64 j ∧ Below w.heap.size w wr)
  case atStart => exact ⟨0, Nat.zero_le _, rfl, rfl, Below.refl _ _⟩
  case round =>
    obtain ⟨j, hj, hg, rfl, hB⟩ := hrel
    rename World => wo
    have HGK := Lib.hid hg
    clear hg
    by_cases hlt : j < n
    · obtain ⟨b, off, rfl, hb, hcell⟩ := HR.out (by omega)
      obtain ⟨b', off', rfl, hb', hcell'⟩ := HR'.out (by omega)
      have q0 : wo.cell? ⟨b, off + j * 4, none⟩ = some (.int .i64 (f (j * 4))) := (hB.cell (p := ⟨b, off + j * 4, none⟩) hb).trans (hcell (j * 4) (by omega))
      have q1 : wo.cell? ⟨b, off + j * 4 + 1, none⟩ = some (.int .i64 (f (j * 4 + 1))) := (hB.cell (p := ⟨b, off + j * 4 + 1, none⟩) hb).trans (hcell (j * 4 + 1) (by omega))
      have q2 : wo.cell? ⟨b, off + j * 4 + 2, none⟩ = some (.int .i64 (f (j * 4 + 2))) := (hB.cell (p := ⟨b, off + j * 4 + 2, none⟩) hb).trans (hcell (j * 4 + 2) (by omega))
      have q3 : wo.cell? ⟨b, off + j * 4 + 3, none⟩ = some (.int .i64 (f (j * 4 + 3))) := (hB.cell (p := ⟨b, off + j * 4 + 3, none⟩) hb).trans (hcell (j * 4 + 3) (by omega))
      have r0 : wo.cell? ⟨b', off' + j * 4, none⟩ = some (.int .i64 (f (j * 4))) := (hB.cell (p := ⟨b', off' + j * 4, none⟩) hb').trans (hcell' (j * 4) (by omega))
      have r1 : wo.cell? ⟨b', off' + j * 4 + 1, none⟩ = some (.int .i64 (f (j * 4 + 1))) := (hB.cell (p := ⟨b', off' + j * 4 + 1, none⟩) hb').trans (hcell' (j * 4 + 1) (by omega))
      have r2 : wo.cell? ⟨b', off' + j * 4 + 2, none⟩ = some (.int .i64 (f (j * 4 + 2))) := (hB.cell (p := ⟨b', off' + j * 4 + 2, none⟩) hb').trans (hcell' (j * 4 + 2) (by omega))
      have r3 : wo.cell? ⟨b', off' + j * 4 + 3, none⟩ = some (.int .i64 (f (j * 4 + 3))) := (hB.cell (p := ⟨b', off' + j * 4 + 3, none⟩) hb').trans (hcell' (j * 4 + 3) (by omega))
      have hz := hB.size
      have hbo : b < wo.heap.size := by omega
      have hbo' : b' < wo.heap.size := by omega
      have KE := Lib.hid (fun W => eqClue_same (f (j * 4)) (f (j * 4 + 1)) (f (j * 4 + 2)) (f (j * 4 + 3)) W)
      clear hcell hcell'
      go_wp2_with fail
      refine wp_region_BT 9 (fun W => Below (wo).heap.size (wo) W) (by kernel_rfl) (by kernel_rfl) (by repeat (first | exact Below.refl _ _ | apply Below.drew)) ?_
      simp only [List.take_succ_cons, List.take_zero, List.drop_succ_cons, List.drop_zero]
      first | refine wpH_skip (by rfl) ?_ | (refine wpH_text (v := ?_) (by rfl) (fun W k1 => ?_) ?_; rotate_left; (obtain ⟨hc1, hf1⟩ := bcell k1;  go_simp; refine comes_v ?_; exact k1))
      (try simp only [Act.put, List.setIfInBounds_toArray, List.set_cons_zero, List.set_cons_succ])
      first | refine wpH_skip (by rfl) ?_ | (refine wpH_text (v := ?_) (by rfl) (fun W k1 => ?_) ?_; rotate_left; (obtain ⟨hc1, hf1⟩ := bcell k1;  go_simp; refine comes_v ?_; exact k1))
      (try simp only [Act.put, List.setIfInBounds_toArray, List.set_cons_zero, List.set_cons_succ])
      first | refine wpH_skip (by rfl) ?_ | (refine wpH_text (v := ?_) (by rfl) (fun W k1 => ?_) ?_; rotate_left; (obtain ⟨hc1, hf1⟩ := bcell k1;  go_simp; refine comes_v ?_; exact k1))
      (try simp only [Act.put, List.setIfInBounds_toArray, List.set_cons_zero, List.set_cons_succ])
      first | refine wpH_skip (by rfl) ?_ | (refine wpH_text (v := ?_) (by rfl) (fun W k1 => ?_) ?_; rotate_left; (obtain ⟨hc1, hf1⟩ := bcell k1;  go_simp; refine comes_v ?_; exact k1))
      (try simp only [Act.put, List.setIfInBounds_toArray, List.set_cons_zero, List.set_cons_succ])
      first | refine wpH_skip (by rfl) ?_ | (refine wpH_text (v := ?_) (by rfl) (fun W k1 => ?_) ?_; rotate_left; (obtain ⟨hc1, hf1⟩ := bcell k1;  go_simp; refine comes_v ?_; exact k1))
      (try simp only [Act.put, List.setIfInBounds_toArray, List.set_cons_zero, List.set_cons_succ])
      first | refine wpH_skip (by rfl) ?_ | (refine wpH_text (v := ?_) (by rfl) (fun W k1 => ?_) ?_; rotate_left; (obtain ⟨hc1, hf1⟩ := bcell k1;  go_simp; refine comes_v ?_; exact k1))
      (try simp only [Act.put, List.setIfInBounds_toArray, List.set_cons_zero, List.set_cons_succ])
      first | refine wpH_skip (by rfl) ?_ | (refine wpH_text (v := ?_) (by rfl) (fun W k1 => ?_) ?_; rotate_left; (obtain ⟨hc1, hf1⟩ := bcell k1;  go_simp; refine comes_v ?_; exact k1))
      (try simp only [Act.put, List.setIfInBounds_toArray, List.set_cons_zero, List.set_cons_succ])
      first | refine wpH_skip (by rfl) ?_ | (refine wpH_text (v := ?_) (by rfl) (fun W k1 => ?_) ?_; rotate_left; (obtain ⟨hc1, hf1⟩ := bcell k1;  go_simp; refine comes_v ?_; exact k1))
      (try simp only [Act.put, List.setIfInBounds_toArray, List.set_cons_zero, List.set_cons_succ])
      first | refine wpH_skip (by rfl) ?_ | (refine wpH_text (v := .bool true) (by rfl) (fun W k1 => ?_) ?_; (obtain ⟨hc1, hf1⟩ := bcell k1;  go_simp; exact comes_c ( KE.out _) (fun wn hbn => k1.trans (hbn.mono k1.size))))
      (try simp only [Act.put, List.setIfInBounds_toArray, List.set_cons_zero, List.set_cons_succ])
      refine wpH_nil ?_
      intro W k1; obtain ⟨hc1, hf1⟩ := bcell k1
      have B2 := hB.trans (k1.mono hB.size)
      clear hc1 hf1 k1 q0 q1 q2 q3 r0 r1 r2 r3
      go_wp2_with fail
      go_roundg (n - (j + 1))
      case measure => have := HGK.out; omega
      case rel => exact ⟨j + 1, by omega, rfl, by go_num, B2⟩
    · have hjn : n = j := by omega
      subst hjn
      go_wp2_with fail
      go_ret
      exact ⟨rfl, hB⟩
end Go.Proofs.Ytacabmbajadbgaa
