/- joined: PzD PzE Nbp T Ba Be Bf0 Bb Bc Bf -/
import Derived.Test.YtmejlgjgneiinaaZBandOfSolutions2
import Derived.Laws.MakeOwn
import Derived.WideShapes
import Derived.Laws.OwnMore
import Derived.BigRegion
import Derived.Laws.AppendOwnNone
import Derived.Deep.CutBlock
import Derived.Deep.DeepCutAuto
/- contracts: all pegs that fit, the program -/
namespace Go.Proofs.Ytmejlgjgneiinaa
open Go.ChangeShapes Go.WideShapes Go.ChangeAt Go.RowKit Go.Joins
set_option linter.unusedVariables false
set_option linter.unusedSimpArgs false
set_option maxRecDepth 4000
theorem row_made0 {w W : World} (hb : Below w.heap.size w W) (f : Nat → Int × Int) (n : Nat) (hn : n ≤ 1000) :
    Row (W.alloc (.cells (madeCells #[.int .i64 0, .int .i64 0] (n * 2)) 45)) w.heap.size (.slice (some ⟨W.heap.size, 0, none⟩) 0 n) f 0 :=
  World.ownsRow_made (base := w.heap.size) (e := 45) (size := 2) W _ n hb.size (by unfold maxLen; omega) (size_madeCells _ _)
set_option maxHeartbeats 2000000 in
theorem boardPegs13_any (nw nh : Nat) (w : World) (h1 : nw ≤ 13) (h2 : nh ≤ 13) :
    Calls Try.prog 41 #[.agg #[.int .i64 nw, .int .i64 nh]] w (RetP w (firsts (bX nh) (nw * nh))) := by
  obtain ⟨i0, hi0, hz0, hz1, hz2⟩ := info_parts peg_info
  have HI := Lib.hid (And.intro hi0 (And.intro hz0 (And.intro hz1 hz2)))
  have h3 : nw * nh ≤ 169 := Nat.le_trans (Nat.mul_le_mul h1 h2) (Nat.le_refl _)
  have hmk := fun W => run_make (P := Try.prog) W 26 45 i0 _ Try.underlying26 hi0 hz0 .i64 .i64 (0 : Int) ((nw : Int) * (nh : Int)) (by omega) (by rw [← Int.natCast_mul]; omega) (by rw [hz2, ← Int.natCast_mul]; omega) (by rw [← Int.natCast_mul]; omega)
  have h4 : ((nw : Int) * (nh : Int)).toNat = nw * nh := by rw [← Int.natCast_mul]; omega
  have h5 : 0 ≤ (nw : Int) * (nh : Int) ∧ (nw : Int) * (nh : Int) ≤ 169 := by rw [← Int.natCast_mul]; omega
  obtain ⟨h6, h7⟩ := h5
  simp only [Int.toNat_zero, h4, hz1] at hmk
  clear hi0 hz0 hz1 hz2 h4
  have HX : Hid (∀ i j, j < nh → bX nh (i * nh + j) = ((i : Int), (j : Int))) := Lib.hid (fun i j h => bX_row i h)
  have HM : Hid (∀ i j, i < nw → j ≤ nh → i * nh + j ≤ 169) := Lib.hid (fun i j hi hj => by
    have := Nat.mul_le_mul (show i + 1 ≤ 13 by omega) h2
    rw [Nat.add_mul] at this
    omega)
  have HS : Hid (∀ i, i * nh + nh = (i + 1) * nh) := Lib.hid (fun i => by rw [Nat.add_mul, Nat.one_mul])
  have HN : Hid (∀ v W W0, Below w.heap.size w W0 → w.heap.size ≤ W0.heap.size → Row W W0.heap.size v (bX nh) (nw * nh) → Below W0.heap.size W0 W → RetP w (firsts (bX nh) (nw * nh)) (.returned v) W) := Lib.hid (fun v W W0 h0 hz h hb => by
    obtain ⟨A, c, rfl, q1, q2, q3⟩ := row_out h
    refine ⟨A, c, by rw [firsts_len], by rw [firsts_len]; exact q1, q2, h0.trans (hb.mono hz), ?_⟩
    rw [firsts_len]
    exact rw_more (rw_same q3 fun i hi => (firsts_pt (bX nh) _ i hi).symm) hz (Nat.le_refl _))
  generalize bX nh = f at *
  go_enter Try.func41, Try.ntmps41
  go_wp2_with fail
  obtain ⟨W0, hW0⟩ : ∃ W0, W0 = (w.alloc (.cells #[.int .i64 ((nw : Int)), .int .i64 ((nh : Int))] 67)) := ⟨_, rfl⟩
  rw [← hW0]
  have yW00_0 : W0.cell? ⟨w.heap.size, 0, none⟩ = some (.int .i64 ((nw : Int))) := by rw [hW0]; go_simp
  have yW00_1 : W0.cell? ⟨w.heap.size, 1, none⟩ = some (.int .i64 ((nh : Int))) := by rw [hW0]; go_simp
  have fW00 : ∀ o, W0.frozen? ⟨w.heap.size, o, none⟩ = false := by intro o; rw [hW0]; (repeat rw [frozen?_alloc_cells]); simp [World.frozen?]
  have zW00 : w.heap.size < W0.heap.size := by rw [hW0]; simp <;> omega
  have BW0 : Below w.heap.size w W0 := by rw [hW0]; exact (Below.alloc (Below.refl _ _) (by simp <;> omega) _)
  have eW0 : Hid (W0.heap.size = w.heap.size + 1) := Lib.hid (by rw [hW0]; simp)
  clear hW0
  have HR0 : Hid (Row (W0.alloc (.cells (madeCells #[.int .i64 0, .int .i64 0] (nw * nh * 2)) 45)) W0.heap.size (.slice (some ⟨w.heap.size + 1, 0, none⟩) 0 (nw * nh)) f 0) := Lib.hid (by
    rw [show w.heap.size + 1 = W0.heap.size from eW0.out.symm]
    exact row_made0 (w := W0) (W := W0) (Below.refl _ _) f (nw * nh) (by omega))
  have hB0 := Below.alloc (Below.refl W0.heap.size W0) (Nat.le_refl _) (.cells (madeCells #[.int .i64 0, .int .i64 0] (nw * nh * 2)) 45)
  clear hmk
  go_loopg [3, 14] nw (fun g s x wr => ∃ (i : Nat) (v : Value), v = s ∧ i ≤ nw ∧ g = nw - i ∧ x = .int .i64 i ∧ Below W0.heap.size W0 wr ∧ Hid (Row wr W0.heap.size v f (i * nh)))
  case atStart => exact ⟨0, _, rfl, Nat.zero_le _, rfl, rfl, hB0, Lib.hid (by rw [Nat.zero_mul]; exact HR0.out)⟩
  case round =>
    clear hB0 HR0
    obtain ⟨i, v, rfl, hi, hg, rfl, hB, hr⟩ := hrel
    rename World => wo
    have HGK := Lib.hid hg
    clear hg
    have c0 := ((bcell hB).1 _ _ zW00).trans yW00_0
    have c1 := ((bcell hB).1 _ _ zW00).trans yW00_1
    by_cases hlt : i < nw
    · go_wp2_with fail
      go_loopg [3, 19] nh (fun g s y wr => ∃ (j : Nat) (v : Value), v = s ∧ j ≤ nh ∧ g = nh - j ∧ y = .int .i64 j ∧ Below W0.heap.size W0 wr ∧ Hid (Row wr W0.heap.size v f (i * nh + j)))
      case atStart => exact ⟨0, _, rfl, Nat.zero_le _, rfl, rfl, hB, hr⟩
      case round =>
        clear hB hr c0 c1
        rename Value => v0
        obtain ⟨j, v, rfl, hj, hg, rfl, hB, hr⟩ := hrel
        rename World => wi
        have HGJ := Lib.hid hg
        clear hg
        have c0 := ((bcell hB).1 _ _ zW00).trans yW00_0
        have c1 := ((bcell hB).1 _ _ zW00).trans yW00_1
        by_cases hlj : j < nh
        · have hzB := hB.size
          have hm := HM.out i j hlt hj
          have HXX := Lib.hid (HX.out i j hlj)
          have RA := Lib.hid (row_alloc hr.out (.cells #[.int .i64 (i : Int), .int .i64 (j : Int)] 45))
          have BA := Lib.hid (Below.alloc hB hzB (.cells #[.int .i64 (i : Int), .int .i64 (j : Int)] 45))
          clear hr
          generalize hK : i * nh + j = k at *
          have HK := Lib.hid hK
          clear hK
          go_wp2_with (at_builtin; refine wpList_append_own _ rfl (.tmp 22) (.tmp 26) 26 rfl W0.heap.size 45 i0 (.agg #[.int .i64 0, .int .i64 0]) 2 16 Try.underlying26 HI.out.1 HI.out.2.1 HI.out.2.2.1 HI.out.2.2.2 rfl (by decide) _ k (flat (firsts f k)) rfl RA.out ⟨wi.heap.size, 0, none⟩ 1 1 [.int .i64 (i : Int), .int .i64 (j : Int)] rfl rfl (two_cells (by go_simp) (by go_simp)) (two_one _ _) (by unfold maxLen; omega) (by omega) (by simp; omega) ?_)
          intro v' w1 hown hgr _
          have RB := row_push (f := f) BA.out RA.out (by rw [HXX.out]; exact hown) hgr
          have R1 := Lib.hid RB.1
          have B1 := RB.2
          clear RB hown hgr BA RA
          go_wp2_with fail
          go_roundg (nh - (j + 1))
          case measure => have := HGJ.out; omega
          case rel => exact ⟨j + 1, _, rfl, by omega, rfl, by go_num, B1, Lib.hid (by rw [← Nat.add_assoc, HK.out]; exact R1.out)⟩
        · obtain rfl : j = nh := by omega
          have hr2 := Lib.hid (show Row wi W0.heap.size v f ((i + 1) * j) from by rw [← HS.out]; exact hr.out)
          clear hr
          go_wp2_with fail
          go_roundg (nw - (i + 1))
          case measure => have := HGK.out; omega
          case rel => exact ⟨i + 1, _, rfl, by omega, rfl, by go_num, hB, hr2⟩
    · obtain rfl : i = nw := by omega
      go_wp2_with fail
      go_ret
      exact HN.out _ _ W0 BW0 (by have := eW0.out; omega) hr.out hB
set_option maxHeartbeats 2000000 in
theorem solutions_any (ns : Nat) (A : Option Addr) (c n : Nat) (f : Nat → Int) (w : World) (hp : puzB (ns : Int) n f = true) (hR : RdI w w.heap.size A (n * 4) f) :
    Calls Try.prog 30 #[.agg #[.int .i64 (ns : Int), .slice A n c]] w (RetP w (solK f n (ns + 1) ((ns + 1) * (ns + 1)))) := by
  obtain ⟨s1, s2, hn, hcl⟩ := puzB_t hp
  obtain ⟨i0, hi0, hz0, hz1, hz2⟩ := info_parts peg_info
  have HI := Lib.hid (And.intro hi0 (And.intro hz0 (And.intro hz1 hz2)))
  clear hi0 hz0 hz1 hz2
  have KS := Lib.hid (fun W => sideBoard_any (ns : Int) W s1 s2)
  have KP := Lib.hid (fun W => boardPegs13_any (ns + 1) (ns + 1) W (by omega) (by omega))
  have KF := Lib.hid (fun W (hb : Below w.heap.size w W) (p1 p2 : Int) (g1 : 0 ≤ p1 ∧ p1 ≤ (ns : Int)) (g2 : 0 ≤ p2 ∧ p2 ≤ (ns : Int)) => puzFits_any (ns : Int) A c n f p1 p2 W hp g1 g2 (rdi_below hR hb (Nat.le_refl _)))
  have HXB : Hid (∀ k, k < (ns + 1) * (ns + 1) → (0 ≤ (bX (ns + 1) k).1 ∧ (bX (ns + 1) k).1 ≤ (ns : Int)) ∧ (0 ≤ (bX (ns + 1) k).2 ∧ (bX (ns + 1) k).2 ≤ (ns : Int))) := Lib.hid (fun k hk => by
    unfold bX
    have a : k / (ns + 1) < ns + 1 := Nat.div_lt_of_lt_mul hk
    have b : k % (ns + 1) < ns + 1 := Nat.mod_lt k (show 0 < ns + 1 by omega)
    simp only
    generalize k / (ns + 1) = x at *
    generalize k % (ns + 1) = y at *
    omega)
  have HYes := Lib.hid (fun k (h : allF f (bX (ns + 1) k).1 (bX (ns + 1) k).2 n = true) => solK_yes (f := f) (n := n) (m := ns + 1) h)
  have HNo := Lib.hid (fun k (h : allF f (bX (ns + 1) k).1 (bX (ns + 1) k).2 n = false) => solK_no (f := f) (n := n) (m := ns + 1) h)
  have H0 : Hid (solK f n (ns + 1) 0 = []) := Lib.hid rfl
  have hM : (ns + 1) * (ns + 1) ≤ 169 := Nat.le_trans (Nat.mul_le_mul (show ns + 1 ≤ 13 by omega) (show ns + 1 ≤ 13 by omega)) (Nat.le_refl _)
  have HL : Hid (∀ k, k ≤ (ns + 1) * (ns + 1) → (solK f n (ns + 1) k).length ≤ 400) := Lib.hid (fun k hk => by have := solK_len f n (ns + 1) k; omega)
  have HN : Hid (∀ v W W2, Below w.heap.size w W2 → RowL W W2.heap.size v (solK f n (ns + 1) ((ns + 1) * (ns + 1))) → Below W2.heap.size W2 W → RetP w (solK f n (ns + 1) ((ns + 1) * (ns + 1))) (.returned v) W) := Lib.hid (fun v W W2 h0 h hb => by
    obtain ⟨A9, c9, e9, g1, g2, g3, g4⟩ := retP_rowL h hb
    exact ⟨A9, c9, e9, g1, g2, h0.trans (g3.mono h0.size), rw_more g4 h0.size (Nat.le_refl _)⟩)
  have HG : Hid (∀ k, k < (ns + 1) * (ns + 1) → pt (firsts (bX (ns + 1)) ((ns + 1) * (ns + 1))) k = bX (ns + 1) k) := Lib.hid (fun k hk => firsts_pt _ _ _ hk)
  have P0 := Lib.hid (pbx_new w (ns : Int) A n c 31)
  have cs : ((ns : Int) + 1) = ((ns + 1 : Nat) : Int) := by omega
  rw [cs] at KS
  clear hp hR hcl s1 s2 cs
  generalize (ns + 1) * (ns + 1) = M at *
  go_enter Try.func30, Try.ntmps30
  go_wp2_with fail
  obtain ⟨W0, hW0⟩ : ∃ W0, W0 = w.alloc (.cells #[.int .i64 (ns : Int), .slice A n c] 31) := ⟨_, rfl⟩
  have B0 : Below w.heap.size w W0 := by rw [hW0]; exact Below.alloc (Below.refl _ _) (Nat.le_refl _) _
  have PB := P0.out
  rw [← hW0] at PB ⊢
  clear hW0 P0
  refine (KS.out _).mono ?_; rintro e w1 ⟨rfl, hb1⟩
  have B1 := B0.trans (hb1.mono B0.size)
  have P1 := pbx_below PB hb1
  clear hb1 PB B0 KS
  go_wp2_with fail
  refine (KP.out _).mono ?_; rintro e w2 ⟨A2, c2, rfl, q1, q2, hb2, q3⟩
  rw [firsts_len] at q1 q3
  have B2 := B1.trans (hb2.mono B1.size)
  have P2 := Lib.hid (pbx_below P1 hb2)
  have HQ := Lib.hid q3
  have hl : (firsts (bX (ns + 1)) M).length = M := firsts_len _ _
  clear hb2 P1 B1 q3 q1 q2 KP
  go_wp2_with fail
  go_loopg [3, 11] M (fun g o x wr => ∃ (k : Nat) (v : Value), v = o ∧ k ≤ M ∧ g = M - k ∧ x = .int .i64 (k : Int) ∧ Below w2.heap.size w2 wr ∧ Hid (RowL wr w2.heap.size v (solK f n (ns + 1) k)))
  case atStart => exact ⟨0, _, rfl, Nat.zero_le _, rfl, rfl, Below.refl _ _, Lib.hid (by rw [H0.out]; exact rowL_nil _ _)⟩
  case round =>
    obtain ⟨k, v, rfl, hk, hg, rfl, hB, hr⟩ := hrel
    rename World => wo
    have HGK := Lib.hid hg
    clear hg
    have BB := B2.trans (hB.mono B2.size)
    by_cases hlt : k < M
    · obtain ⟨b, off, rfl, hb1, hb2, hcell⟩ := HQ.out (by omega)
      have hx := (hcell k hlt).1
      rw [HG.out k hlt] at hx
      obtain ⟨x0, x1⟩ := hx
      have x0' := ((bcell hB).1 _ _ hb2).trans x0
      have x1' := ((bcell hB).1 _ _ hb2).trans x1
      have hbo : b < wo.heap.size := Nat.lt_of_lt_of_le hb2 hB.size
      have p0 := ((bcell hB).1 _ _ P2.out.z).trans P2.out.c0
      have p1 := ((bcell hB).1 _ _ P2.out.z).trans P2.out.c1
      have pz := Nat.lt_of_lt_of_le P2.out.z hB.size
      have hzo := hB.size
      obtain ⟨g1, g2⟩ := HXB.out k hlt
      have K1 := Lib.hid (fun W hb => KF.out W hb (bX (ns + 1) k).1 (bX (ns + 1) k).2 g1 g2)
      have HY := Lib.hid (HYes.out k)
      have HO := Lib.hid (HNo.out k)
      have hm := HL.out k hk
      clear hcell x0 x1 g1 g2
      generalize hbx : bX (ns + 1) k = bx at *
      obtain ⟨bx1, bx2⟩ := bx
      simp only at x0' x1' K1 HY HO
      clear hbx
      generalize solK f n (ns + 1) k = m at *
      go_wp2_with fail
      obtain ⟨W1, hW1⟩ : ∃ W1, W1 = (wo.alloc (.cells #[.int .i64 bx1, .int .i64 bx2] 45)) := ⟨_, rfl⟩
      rw [← hW1]
      have yW10_0 : W1.cell? ⟨wo.heap.size, 0, none⟩ = some (.int .i64 bx1) := by rw [hW1]; go_simp
      have yW10_1 : W1.cell? ⟨wo.heap.size, 1, none⟩ = some (.int .i64 bx2) := by rw [hW1]; go_simp
      have fW10 : ∀ o, W1.frozen? ⟨wo.heap.size, o, none⟩ = false := by intro o; rw [hW1]; (repeat rw [frozen?_alloc_cells]); simp [World.frozen?]
      have zW10 : wo.heap.size < W1.heap.size := by rw [hW1]; simp <;> omega
      have BW1 : Below wo.heap.size wo W1 := by rw [hW1]; exact (Below.alloc (Below.refl _ _) (by simp <;> omega) _)
      have eW1 : Hid (W1.heap.size = wo.heap.size + 1) := Lib.hid (by rw [hW1]; simp)
      clear hW1
      have RA := Lib.hid (rowL_below hr.out BW1 (Nat.le_refl _))
      have BA := hB.trans (BW1.mono hzo)
      have BAA := BB.trans (BW1.mono BB.size)
      have u0 := (BW1.cell (p := ⟨w.heap.size, 0, none⟩) pz).trans p0
      have u1 := (BW1.cell (p := ⟨w.heap.size, 1, none⟩) pz).trans p1
      refine (K1.out _ BAA).mono ?_; rintro e w4 ⟨rfl, hb4⟩
      have RB := Lib.hid (rowL_below RA.out hb4 (Nat.le_refl _))
      have B4 := BA.trans (hb4.mono BA.size)
      have v0 := ((bcell hb4).1 _ _ zW10).trans yW10_0
      have v1 := ((bcell hb4).1 _ _ zW10).trans yW10_1
      have zv := Nat.lt_of_lt_of_le zW10 hb4.size
      have hz4 := B4.size
      clear hb4 RA BA BAA hr hB BB fW10 eW1 BW1 yW10_0 yW10_1 zW10 x0' x1' p0 p1 u0 u1 K1
      cases ha : allF f bx1 bx2 n
      · have hN2 := Lib.hid (HO.out ha)
        clear ha HY HO v0 v1
        go_wp2_with fail
        go_roundg (M - (k + 1))
        case measure => have := HGK.out; omega
        case rel => exact ⟨k + 1, v, rfl, by omega, rfl, by go_num, B4, Lib.hid (by rw [hN2.out]; exact RB.out)⟩
      · have hN2 := Lib.hid (HY.out ha)
        clear ha HY HO
        go_wp2_with (at_builtin; go_loud (refine wpList_append_own _ rfl (.tmp 18) (.tmp 20) 26 rfl w2.heap.size 45 i0 (.agg #[.int .i64 0, .int .i64 0]) 2 16 Try.underlying26 HI.out.1 HI.out.2.1 HI.out.2.2.1 HI.out.2.2.2 rfl (by decide) _ m.length (flat m) rfl (rowL_alloc RB.out _) ⟨w4.heap.size, 0, none⟩ 1 1 [.int .i64 bx1, .int .i64 bx2] rfl rfl (two_cells (by go_simp) (by go_simp)) (two_one _ _) (by unfold maxLen; omega) (by omega) (by simp; omega) ?_))
        intro v' w5 hown hgr _
        have RC := rowL_push (Below.alloc B4 hz4 _) (rowL_alloc RB.out _) hown hgr
        have R2 := Lib.hid RC.1
        have B5 := RC.2
        clear RC hown hgr B4 RB
        go_wp2_with fail
        go_roundg (M - (k + 1))
        case measure => have := HGK.out; omega
        case rel => exact ⟨k + 1, _, rfl, by omega, rfl, by go_num, B5, Lib.hid (by rw [hN2.out]; exact R2.out)⟩
    · obtain rfl : k = M := by omega
      go_wp2_with fail
      go_ret
      exact HN.out _ _ _ B2 hr.out hB
end Go.Proofs.Ytmejlgjgneiinaa
/- contracts: Solutions, CountSolutions, IsSolved, on both sides -/
namespace Go.Proofs.Ytmejlgjgneiinaa
open Go.ChangeShapes Go.WideShapes Go.ChangeAt Go.RowKit Go.Joins
set_option linter.unusedVariables false
set_option linter.unusedSimpArgs false
set_option maxRecDepth 4000
/-- the solutions of a puzzle -/
noncomputable def solP (s : Int) (n : Nat) (f : Nat → Int) : List (Int × Int) := if puzB s n f = true then solK f n (s.toNat + 1) ((s.toNat + 1) * (s.toNat + 1)) else []
theorem solP_t {ns n : Nat} {f : Nat → Int} (h : puzB (ns : Int) n f = true) : solP (ns : Int) n f = solK f n (ns + 1) ((ns + 1) * (ns + 1)) := by unfold solP; rw [if_pos h]; rfl
theorem solP_f {s : Int} {n : Nat} {f : Nat → Int} (h : puzB s n f = false) : solP s n f = [] := by unfold solP; rw [h]; rfl
theorem nat_of {s : Int} {n : Nat} {f : Nat → Int} (h : puzB s n f = true) : ∃ ns : Nat, s = (ns : Int) := ⟨s.toNat, by have := (puzB_t h).1; omega⟩
theorem solP_len (s : Int) (n : Nat) (f : Nat → Int) : (solP s n f).length ≤ 1048576 := by
  cases h : puzB s n f
  · rw [solP_f h]; simp
  · obtain ⟨ns, rfl⟩ := nat_of h
    have h12 := puzB_t h
    rw [solP_t h]
    have h1 := solK_len f n (ns + 1) ((ns + 1) * (ns + 1))
    have h2 : (ns + 1) * (ns + 1) ≤ 169 := Nat.le_trans (Nat.mul_le_mul (show ns + 1 ≤ 13 by omega) (show ns + 1 ≤ 13 by omega)) (Nat.le_refl _)
    omega
set_option maxHeartbeats 1000000 in
theorem implSolutions_any (s : Int) (A : Option Addr) (c n : Nat) (f : Nat → Int) (w : World) (hm : n ≤ 1048576) (hR : RdI w w.heap.size A (n * 4) f) :
    Calls Try.prog 18 #[.agg #[.int .i64 s, .slice A n c]] w (RetL w (solP s n f) (puzB s n f)) := by
  have K := Lib.hid (fun W (hb : Below w.heap.size w W) => implIsPuzzle_any s A c n f W (rdi_below hR hb (Nat.le_refl _)))
  have HB := Lib.hid (Below.alloc (Below.refl w.heap.size w) (Nat.le_refl _) (.cells #[.int .i64 s, .slice A n c] 31))
  have P0 := Lib.hid (pbx_new w s A n c 31)
  cases hp : puzB s n f
  · rw [solP_f hp]
    rw [hp] at K
    clear hp hR
    go_enter Try.func18, Try.ntmps18
    go_wp2_with fail
    refine (K.out _ HB.out).mono ?_; rintro e w1 ⟨rfl, hb1⟩
    go_wp2_with fail
    go_ret2
    exact retL_nil (HB.out.trans (hb1.mono HB.out.size))
  · obtain ⟨ns, rfl⟩ := nat_of hp
    rw [solP_t hp]
    have K2 := Lib.hid (fun W (hb : Below w.heap.size w W) => solutions_any ns A c n f W hp (rdi_below hR hb (Nat.le_refl _)))
    rw [hp] at K
    clear hp hR
    generalize solK f n (ns + 1) ((ns + 1) * (ns + 1)) = m at *
    go_enter Try.func18, Try.ntmps18
    go_wp2_with fail
    refine (K.out _ HB.out).mono ?_; rintro e w1 ⟨rfl, hb1⟩
    have P1 := pbx_below P0.out hb1
    have B1 := HB.out.trans (hb1.mono HB.out.size)
    have p0 := P1.c0
    have p1 := P1.c1
    have pz := P1.z
    clear hb1 P1
    go_wp2_with fail
    refine (K2.out _ B1).mono ?_; rintro e w2 ⟨A2, c2, rfl, q1, q2, hb2, q3⟩
    go_wp2_with fail
    go_ret2
    exact retL_of_P B1 q1 q2 hb2 q3
end Go.Proofs.Ytmejlgjgneiinaa
/- lists of points as cells that are appended: plain parts -/
namespace Go.Proofs.Ytmejlgjgneiinaa
open Go.ChangeShapes Go.WideShapes Go.ChangeAt Go.RowKit Go.Joins
set_option linter.unusedVariables false
set_option linter.unusedSimpArgs false
set_option maxRecDepth 4000
theorem wpOp_left {P : Program} {ops : Array Oper} {i : Nat} {o : Oper} {a : Act} {K : Act → World → Prop} {Q : Exit → Act → World → Prop} {w : World} (hi : ops[i]? = some o) (hw : Region.wanted o (yielded ops a.tmps) = true)
    (h : o.wp P a w K Q) : wpOp P ops Q i K a w := by
  unfold wpOp
  simp only [hi, hw, if_true]
  exact Or.inl h
theorem wpOp_val {P : Program} {ops : Array Oper} {i : Nat} {o : Oper} {a : Act} {K : Act → World → Prop} {Q : Exit → Act → World → Prop} {w w' : World} {v : Value} (hi : ops[i]? = some o) (hw : Region.wanted o (yielded ops a.tmps) = true)
    (h1 : (execOp a.eval o).run P w = .ok (.value v) w') (h2 : K (a.put o.dst v) w') : wpOp P ops Q i K a w :=
  wpOp_left hi hw (by unfold Oper.wp; rw [h1]; exact h2)
theorem flat_len (l : List (Int × Int)) : (flat l).length = l.length * 2 := by
  induction l with
  | nil => rfl
  | cons p l ih =>
    show ([Value.int .i64 p.1, .int .i64 p.2] ++ flat l).length = _
    rw [List.length_append, ih, List.length_cons]
    simp
    omega
theorem flat_app (l m : List (Int × Int)) : flat (l ++ m) = flat l ++ flat m := by unfold flat; rw [List.flatMap_append]
theorem flat_one (l : List (Int × Int)) : ∀ u ∈ flat l, u.oneCell' = true := by
  intro u hu
  unfold flat at hu
  rw [List.mem_flatMap] at hu
  obtain ⟨p, _, hp⟩ := hu
  simp at hp
  rcases hp with rfl | rfl <;> rfl
theorem flat_cells {w : World} {b off : Nat} {l : List (Int × Int)} (h : ∀ i, i < l.length → w.cell? ⟨b, off + i * 2, none⟩ = some (.int .i64 (pt l i).1) ∧ w.cell? ⟨b, off + i * 2 + 1, none⟩ = some (.int .i64 (pt l i).2)) :
    ∀ j u, (flat l)[j]? = some u → w.cell? ((⟨b, off, none⟩ : Addr).add j) = some u := by
  intro j u hj
  rw [add_plain]
  have hlt : j < (flat l).length := (List.getElem?_eq_some_iff.1 hj).1
  rw [flat_len] at hlt
  have hi : j / 2 < l.length := by omega
  obtain ⟨f1, f2⟩ := flat_get l (j / 2) hi
  obtain ⟨h1, h2⟩ := h (j / 2) hi
  rcases Nat.mod_two_eq_zero_or_one j with h0 | h0
  · have e : j = j / 2 * 2 := by omega
    rw [e] at hj ⊢
    rw [f1] at hj
    injection hj with hj
    rw [← hj]; exact h1
  · have e : j = j / 2 * 2 + 1 := by omega
    rw [e] at hj ⊢
    rw [f2] at hj
    injection hj with hj
    rw [← hj, ← Nat.add_assoc]; exact h2
end Go.Proofs.Ytmejlgjgneiinaa
/- contracts: the model's IsPolygon; arePegs -/
namespace Go.Proofs.Ytmejlgjgneiinaa
open Go.ChangeShapes Go.WideShapes Go.ChangeAt Go.RowKit Go.Joins
set_option linter.unusedVariables false
set_option linter.unusedSimpArgs false
set_option maxRecDepth 4000
/-- all of them are pegs -/
def pegsB (l : List (Int × Int)) : Bool := l.all isPg
theorem pegsB_iff (l : List (Int × Int)) : pegsB l = true ↔ ∀ i, i < l.length → isPg (vx l i) = true := by
  unfold pegsB
  rw [List.all_eq_true]
  constructor
  · intro h i hi
    exact h _ (List.mem_of_getElem? (vx_get hi))
  · intro h p hp
    obtain ⟨i, hi, rfl⟩ := List.mem_iff_getElem.1 hp
    have := h i hi
    have e := vx_get hi
    rw [List.getElem?_eq_getElem hi] at e
    injection e with e
    rw [e]; exact this
end Go.Proofs.Ytmejlgjgneiinaa
/- contracts: lists of pegs that are different, on both sides -/
namespace Go.Proofs.Ytmejlgjgneiinaa
open Go.ChangeShapes Go.WideShapes Go.ChangeAt Go.RowKit Go.Joins
set_option linter.unusedVariables false
set_option linter.unusedSimpArgs false
set_option maxRecDepth 4000
/-- 1 to 30 different pegs -/
structure Dif (l : List (Int × Int)) : Prop where
  few : 1 ≤ l.length ∧ l.length ≤ 30
  fine : Fine l l.length
noncomputable def difB (l : List (Int × Int)) : Bool := @decide (Dif l) (Classical.propDecidable _)
theorem difB_true {l : List (Int × Int)} (h : Dif l) : difB l = true := by unfold difB; exact @decide_eq_true _ (Classical.propDecidable _) h
theorem difB_false {l : List (Int × Int)} (h : ¬ Dif l) : difB l = false := by unfold difB; exact @decide_eq_false _ (Classical.propDecidable _) h
theorem dif_of {l : List (Int × Int)} (h : difB l = true) : Dif l := by unfold difB at h; exact @of_decide_eq_true _ (Classical.propDecidable _) h
end Go.Proofs.Ytmejlgjgneiinaa
/- plain: points put in order, one after the other -/
namespace Go.Proofs.Ytmejlgjgneiinaa
open Go.ChangeShapes Go.WideShapes Go.ChangeAt Go.RowKit Go.Joins
set_option linter.unusedVariables false
set_option linter.unusedSimpArgs false
set_option maxRecDepth 4000
/-- the first point of two in order -/
def lxB (p q : Int × Int) : Bool := decide (p.1 < q.1) || (decide (p.1 = q.1) && decide (p.2 < q.2))
def insAt (s : List (Int × Int)) (p : Int × Int) : Nat := (s.takeWhile fun q => lxB q p).length
def ins (s : List (Int × Int)) (p : Int × Int) : List (Int × Int) := s.take (insAt s p) ++ [p] ++ s.drop (insAt s p)
def srt (l : List (Int × Int)) : List (Int × Int) := l.foldl ins []
theorem insAt_le (s : List (Int × Int)) (p : Int × Int) : insAt s p ≤ s.length := by
  unfold insAt
  exact (List.takeWhile_sublist _).length_le
theorem insAt_eq : ∀ (s : List (Int × Int)) (p : Int × Int) (k : Nat), (∀ j, j < k → lxB (pt s j) p = true) → k ≤ s.length → (k = s.length ∨ lxB (pt s k) p = false) → insAt s p = k
  | [], p, k, _, h2, _ => by simp at h2; subst h2; rfl
  | q :: s, p, 0, _, _, h3 => by
    rcases h3 with h3 | h3
    · simp at h3
    · have e : lxB q p = false := h3
      unfold insAt
      rw [List.takeWhile_cons, e]; rfl
  | q :: s, p, k + 1, h1, h2, h3 => by
    have e : lxB q p = true := h1 0 (by omega)
    have ih := insAt_eq s p k (fun j hj => h1 (j + 1) (by omega)) (by simpa using h2) (by
      rcases h3 with h3 | h3
      · left; simpa using h3
      · right; exact h3)
    unfold insAt at *
    rw [List.takeWhile_cons, e]
    simp only [if_true, List.length_cons]
    rw [ih]
theorem ins_len (s : List (Int × Int)) (p : Int × Int) : (ins s p).length = s.length + 1 := by
  unfold ins
  have := insAt_le s p
  simp
  omega
theorem foldl_ins_len (l : List (Int × Int)) : ∀ (s : List (Int × Int)), (l.foldl ins s).length = s.length + l.length := by
  induction l with
  | nil => intro s; simp
  | cons p l ih => intro s; rw [List.foldl_cons, ih, ins_len]; simp; omega
theorem srt_len (l : List (Int × Int)) : (srt l).length = l.length := by unfold srt; rw [foldl_ins_len]; simp
theorem srt_step {l : List (Int × Int)} {k : Nat} (h : k < l.length) : srt (l.take (k + 1)) = ins (srt (l.take k)) (vx l k) := by
  unfold srt
  rw [List.take_add_one, vx_get h, List.foldl_append]
  rfl
theorem ins_mem {s : List (Int × Int)} {p x : Int × Int} : x ∈ ins s p ↔ x ∈ s ∨ x = p := by
  unfold ins
  rw [List.mem_append, List.mem_append, List.mem_singleton]
  have e := List.take_append_drop (insAt s p) s
  constructor
  · rintro ((h | h) | h)
    · exact Or.inl (List.mem_of_mem_take h)
    · exact Or.inr h
    · exact Or.inl (List.mem_of_mem_drop h)
  · rintro (h | h)
    · rw [← e, List.mem_append] at h
      rcases h with h | h
      · exact Or.inl (Or.inl h)
      · exact Or.inr h
    · exact Or.inl (Or.inr h)
theorem foldl_ins_mem (l : List (Int × Int)) : ∀ (s : List (Int × Int)) (x : Int × Int), x ∈ l.foldl ins s ↔ x ∈ s ∨ x ∈ l := by
  induction l with
  | nil => intro s x; simp
  | cons p l ih =>
    intro s x
    rw [List.foldl_cons, ih, ins_mem, List.mem_cons]
    constructor
    · rintro ((h | h) | h)
      · exact Or.inl h
      · exact Or.inr (Or.inl h)
      · exact Or.inr (Or.inr h)
    · rintro (h | h | h)
      · exact Or.inl (Or.inl h)
      · exact Or.inl (Or.inr h)
      · exact Or.inr h
theorem srt_mem {l : List (Int × Int)} {x : Int × Int} : x ∈ srt l ↔ x ∈ l := by unfold srt; rw [foldl_ins_mem]; simp
def lxP (p q : Int × Int) : Prop := p.1 < q.1 ∨ (p.1 = q.1 ∧ p.2 < q.2)
theorem lxB_iff {p q : Int × Int} : lxB p q = true ↔ lxP p q := by unfold lxB lxP; simp
theorem ins_sorted {s : List (Int × Int)} {p : Int × Int} (hs : s.Pairwise lxP) (hp : p ∉ s) : (ins s p).Pairwise lxP := by
  unfold ins insAt
  induction s with
  | nil => simp
  | cons q s ih =>
    rw [List.takeWhile_cons]
    have h := List.pairwise_cons.1 hs
    by_cases hq : lxB q p = true
    · rw [if_pos hq]
      have ih := ih h.2 (fun hh => hp (List.mem_cons_of_mem _ hh))
      simp only [List.length_cons, List.take_succ_cons, List.drop_succ_cons, List.cons_append]
      refine List.pairwise_cons.2 ⟨fun x hx => ?_, ih⟩
      have hx' : x ∈ ins s p := by unfold ins insAt; exact hx
      rw [ins_mem] at hx'
      rcases hx' with hx' | hx'
      · exact h.1 x hx'
      · subst hx'; exact lxB_iff.1 hq
    · rw [if_neg hq]
      simp only [List.length_nil, List.take_zero, List.drop_zero, List.nil_append]
      have hpq : lxP p q := by
        have h1 : ¬ lxP q p := fun hh => hq (lxB_iff.2 hh)
        have h2 : p ≠ q := fun e => hp (by rw [e]; simp)
        unfold lxP at *
        by_cases e1 : p.1 = q.1
        · by_cases e2 : p.2 = q.2
          · exact absurd (Prod.ext e1 e2) h2
          · omega
        · omega
      show List.Pairwise lxP (p :: q :: s)
      refine List.pairwise_cons.2 ⟨fun x hx => ?_, hs⟩
      rw [List.mem_cons] at hx
      rcases hx with hx | hx
      · subst hx; exact hpq
      · have := h.1 x hx
        unfold lxP at *; omega
theorem srt_sorted {l : List (Int × Int)} (h : l.Nodup) : (srt l).Pairwise lxP := by
  suffices ∀ (m s : List (Int × Int)), s.Pairwise lxP → m.Nodup → (∀ x ∈ m, x ∉ s) → (m.foldl ins s).Pairwise lxP from this l [] List.Pairwise.nil h (by simp)
  intro m
  induction m with
  | nil => intro s hs _ _; exact hs
  | cons p m ih =>
    intro s hs hm hd
    rw [List.foldl_cons]
    have hm' := List.nodup_cons.1 hm
    refine ih _ (ins_sorted hs (hd p (by simp))) hm'.2 (fun x hx h => ?_)
    rw [ins_mem] at h
    rcases h with h | h
    · exact hd x (List.mem_cons_of_mem _ hx) h
    · subst h; exact hm'.1 hx
theorem dif_nodup {l : List (Int × Int)} (h : Dif l) : l.Nodup := by
  rw [List.nodup_iff_pairwise_ne, List.pairwise_iff_getElem]
  intro i j hi hj hij e
  have := (h.fine j hj).2 i hij
  apply this
  have e1 := vx_get hi
  have e2 := vx_get hj
  rw [List.getElem?_eq_getElem hi] at e1
  rw [List.getElem?_eq_getElem hj] at e2
  injection e1 with e1
  injection e2 with e2
  rw [← e1, ← e2, e]
end Go.Proofs.Ytmejlgjgneiinaa
/- rows that are read while others grow -/
namespace Go.Proofs.Ytmejlgjgneiinaa
open Go.ChangeShapes Go.WideShapes Go.ChangeAt Go.RowKit Go.Joins
set_option linter.unusedVariables false
set_option linter.unusedSimpArgs false
set_option maxRecDepth 4000
theorem ownB {w w' : World} {base B : Nat} {e : TypeId} {size : Nat} {v : Value} {n : Nat} {xs : List Value} (h : w.ownsRow base e size v n xs) (hb : Below B w w') (hB : w.heap.size ≤ B) : w'.ownsRow base e size v n xs := by
  have hlt := World.ownsRow.lt h
  obtain ⟨h1, h2⟩ := h
  rcases h2 with h2 | ⟨g, cap, cur, hv, hg, hh, r⟩
  · exact ⟨h1, .inl h2⟩
  · have hl := hlt g (by rw [hv]; rfl)
    exact ⟨h1, .inr ⟨g, cap, cur, hv, hg, (hb.block g (by omega)).trans hh, r⟩⟩
theorem own_base {w : World} {base base' : Nat} {e : TypeId} {size : Nat} {v : Value} {n : Nat} {xs : List Value} (h : w.ownsRow base e size v n xs) (hB : base' ≤ base) : w.ownsRow base' e size v n xs := by
  obtain ⟨h1, h2⟩ := h
  rcases h2 with h2 | ⟨g, cap, cur, hv, hg, r⟩
  · exact ⟨h1, .inl h2⟩
  · exact ⟨h1, .inr ⟨g, cap, cur, hv, Nat.le_trans hB hg, r⟩⟩
/-- a row without its last point -/
theorem own_pop {w : World} {base g n cap : Nat} {L : List (Int × Int)} {b : Int × Int} (h : w.ownsRow base 45 2 (.slice (some ⟨g, 0, none⟩) (n + 1) cap) (n + 1) (flat (L ++ [b]))) (hl : L.length = n) :
    w.ownsRow base 45 2 (.slice (some ⟨g, 0, none⟩) n cap) n (flat L) := by
  refine ⟨by rw [flat_len, hl], .inr ?_⟩
  rcases h.2 with ⟨hv, _⟩ | ⟨g', cap', cur, hv, hg, hh, hc, hm, hs, ht⟩
  · simp at hv
  · simp only [Value.slice.injEq, Option.some.injEq, Addr.mk.injEq, and_true, true_and] at hv
    obtain ⟨rfl, rfl⟩ := hv
    refine ⟨g, cap, cur, rfl, hg, hh, by omega, hm, hs, ?_⟩
    have e : (cur.toList.take ((n + 1) * 2)).take (n * 2) = flat L := by
      rw [ht, flat_app, List.take_append_of_le_length (by rw [flat_len]; omega), List.take_of_length_le (by rw [flat_len]; omega)]
    rw [← e, List.take_take, Nat.min_eq_left (by omega)]
/-- the value of a row -/
theorem own_val {w : World} {base : Nat} {e : TypeId} {size : Nat} {v : Value} {n : Nat} {xs : List Value} (h : w.ownsRow base e size v n xs) :
    (v = .slice none 0 0 ∧ n = 0) ∨ ∃ g cap, v = .slice (some ⟨g, 0, none⟩) n cap ∧ n ≤ cap ∧ cap ≤ maxLen ∧ base ≤ g ∧ g < w.heap.size := by
  have hlt := World.ownsRow.lt h
  rcases h.2 with h2 | ⟨g, cap, cur, hv, hg, hh, hc, hm, _⟩
  · exact .inl h2
  · exact .inr ⟨g, cap, hv, hc, hm, hg, (hlt g (by rw [hv]; rfl)).2⟩
theorem own_pt {w : World} {base g n cap : Nat} {s : List (Int × Int)} (h : w.ownsRow base 45 2 (.slice (some ⟨g, 0, none⟩) n cap) n (flat s)) (hs : s.length = n) (i : Nat) (hi : i < n) :
    w.cell? ⟨g, i * 2, none⟩ = some (.int .i64 (pt s i).1) ∧ w.cell? ⟨g, i * 2 + 1, none⟩ = some (.int .i64 (pt s i).2) := by
  have hf := flat_get s i (by omega)
  exact ⟨(World.ownsRow.cellAt h (i * 2) (by omega)).trans hf.1, (World.ownsRow.cellAt h (i * 2 + 1) (by omega)).trans hf.2⟩
theorem take_own {w : World} {base g n cap : Nat} {s : List (Int × Int)} (h : w.ownsRow base 45 2 (.slice (some ⟨g, 0, none⟩) n cap) n (flat s)) (j : Nat) :
    ∀ i u, (flat (s.take j))[i]? = some u → w.cell? ((⟨g, 0, none⟩ : Addr).add i) = some u := by
  intro i u hi
  refine World.ownsRow.cells h (g := g) rfl i u ?_
  rw [← List.take_append_drop j s, flat_app, List.getElem?_append_left ((List.getElem?_eq_some_iff.1 hi).1)]
  exact hi
theorem drop_own {w : World} {base g n cap : Nat} {s : List (Int × Int)} (h : w.ownsRow base 45 2 (.slice (some ⟨g, 0, none⟩) n cap) n (flat s)) (j : Nat) (hj : j ≤ s.length) :
    ∀ i u, (flat (s.drop j))[i]? = some u → w.cell? ((⟨g, j * 2, none⟩ : Addr).add i) = some u := by
  intro i u hi
  have := World.ownsRow.cells h (g := g) rfl (j * 2 + i) u (by
    rw [← List.take_append_drop j s, flat_app, List.getElem?_append_right (by rw [flat_len, List.length_take]; omega), flat_len, List.length_take, Nat.min_eq_left hj, Nat.add_sub_cancel_left]
    exact hi)
  rw [add_plain] at this ⊢
  rw [Nat.zero_add] at this
  exact this
theorem append_none_run {P : Program} {w : World} {base : Nat} {t ty e : TypeId} {i : TypeInfo} {size : Nat} {v : Value} {n : Nat} {xs : List Value} (ht : P.underlying t = some (.slice e)) (hi : P.info? e = some i) (hown : w.ownsRow base e size v n xs) :
    (Builtin.append_ #[t, t] ty #[v, .slice none 0 0]).run P w = .ok v w := run_append_owned_none (P := P) (w := w) base t ty e i size ht hi v n xs hown
theorem wp_append_none {P : Program} {w : World} {o : Oper} {a : Act} {K : Act → World → Prop} {Q : Exit → Act → World → Prop} (s x : Operand) (t : TypeId)
    (ho : o.op = .call { callee := .builtin .append, args := #[s, x], argTypes := #[t, t] })
    (base : Nat) (e : TypeId) (i : TypeInfo) (size : Nat) (ht : P.underlying t = some (.slice e)) (hi : P.info? e = some i)
    (v : Value) (n : Nat) (xs : List Value) (hs : a.eval s = v) (hown : w.ownsRow base e size v n xs) (hx : a.eval x = .slice none 0 0)
    (h : K (a.put o.dst v) w) : o.wp P a w K Q := by
  have hrun := run_append_owned_none (P := P) (w := w) base t o.type e i size ht hi v n xs hown
  unfold Oper.wp
  simp [execOp, ho, resolve, invoke, builtin, hs, hx, hrun, Result.andThen]
  exact h
theorem ins_flat {s : List (Int × Int)} {p1 p2 : Int} {j : Nat} (h : j = insAt s (p1, p2)) : flat (ins s (p1, p2)) = ([] ++ flat (s.take j) ++ [.int .i64 p1, .int .i64 p2]) ++ flat (s.drop j) := by
  unfold ins
  rw [← h, flat_app, flat_app, List.nil_append]
  rfl
end Go.Proofs.Ytmejlgjgneiinaa
/- contracts: is a peg in a list; different pegs, the program's side -/
namespace Go.Proofs.Ytmejlgjgneiinaa
open Go.ChangeShapes Go.WideShapes Go.ChangeAt Go.RowKit Go.Joins
set_option linter.unusedVariables false
set_option linter.unusedSimpArgs false
set_option maxRecDepth 4000
theorem in_iff {l : List (Int × Int)} {p : Int × Int} : p ∈ l ↔ ∃ i, i < l.length ∧ vx l i = p := by
  constructor
  · intro h
    obtain ⟨i, hi, rfl⟩ := List.mem_iff_getElem.1 h
    have e := vx_get hi
    rw [List.getElem?_eq_getElem hi] at e
    injection e with e
    exact ⟨i, hi, e.symm⟩
  · rintro ⟨i, hi, rfl⟩
    exact List.mem_of_getElem? (vx_get hi)
end Go.Proofs.Ytmejlgjgneiinaa
/- contract: different pegs, the program's side -/
namespace Go.Proofs.Ytmejlgjgneiinaa
open Go.ChangeShapes Go.WideShapes Go.ChangeAt Go.RowKit Go.Joins
set_option linter.unusedVariables false
set_option linter.unusedSimpArgs false
set_option maxRecDepth 4000
theorem rd_take {w : World} {B : Nat} {A : Option Addr} {l : List (Int × Int)} (k : Nat) (h : Rd w B A l) : Rd w B A (l.take k) := by
  intro h0
  obtain ⟨b, off, e, hb, hc⟩ := h (by rw [List.length_take] at h0; omega)
  refine ⟨b, off, e, hb, fun i p hp => hc i p ?_⟩
  rw [List.getElem?_take] at hp
  split at hp
  · exact hp
  · simp at hp
theorem in_take {l : List (Int × Int)} {k : Nat} {p : Int × Int} (hk : k ≤ l.length) : p ∈ l.take k ↔ ∃ i, i < k ∧ vx l i = p := by
  rw [in_iff]
  have hv : ∀ i, i < k → vx (l.take k) i = vx l i := fun i hi => by
    have e1 := vx_get (l := l.take k) (i := i) (by rw [List.length_take]; omega)
    have e2 := vx_get (l := l) (i := i) (by omega)
    rw [List.getElem?_take, if_pos hi, e2] at e1
    injection e1 with e1
    exact e1.symm
  constructor
  · rintro ⟨i, hi, e⟩
    rw [List.length_take] at hi
    exact ⟨i, by omega, by rw [← hv i (by omega)]; exact e⟩
  · rintro ⟨i, hi, e⟩
    exact ⟨i, by rw [List.length_take]; omega, by rw [hv i hi]; exact e⟩
end Go.Proofs.Ytmejlgjgneiinaa
/- contract: points put in order, the model -/
namespace Go.Proofs.Ytmejlgjgneiinaa
open Go.ChangeShapes Go.WideShapes Go.ChangeAt Go.RowKit Go.Joins
set_option linter.unusedVariables false
set_option linter.unusedSimpArgs false
set_option maxRecDepth 4000
theorem pgLess_lx (a1 a2 b1 b2 : Int) (w : World) :
    Calls Try.prog 37 #[.agg #[.int .i64 a1, .int .i64 a2], .agg #[.int .i64 b1, .int .i64 b2]] w fun e w' => e = .returned (.bool (lxB (a1, a2) (b1, b2))) ∧ Below w.heap.size w w' := by
  by_cases h1 : a1 < b1
  · go_enter Try.func37, Try.ntmps37
    go_wp2_with fail
    go_ret
    exact ⟨ret_bool (by simp [lxB, h1]), (by repeat (first | exact Below.refl _ _ | assumption | apply Below.drew | refine Below.alloc ?_ (by simp <;> omega) _))⟩
  · by_cases h2 : a1 = b1
    · by_cases h3 : a2 < b2
      all_goals
        subst h2
        go_enter Try.func37, Try.ntmps37
        go_wp2_with fail
        go_ret
        exact ⟨ret_bool (by simp [lxB, h3]), (by repeat (first | exact Below.refl _ _ | assumption | apply Below.drew | refine Below.alloc ?_ (by simp <;> omega) _))⟩
    · go_enter Try.func37, Try.ntmps37
      go_wp2_with fail
      go_ret
      exact ⟨ret_bool (by simp [lxB, h1, h2]), (by repeat (first | exact Below.refl _ _ | assumption | apply Below.drew | refine Below.alloc ?_ (by simp <;> omega) _))⟩
set_option maxHeartbeats 8000000 in
theorem bdSorted_any (A : Option Addr) (c n : Nat) (l : List (Int × Int)) (w : World) (hln : l.length = n) (hn : n ≤ 1048576) (hR : Rd w w.heap.size A l) :
    Calls Try.prog 26 #[.slice A n c] w fun e w' => (∃ v, e = .returned v ∧ w'.ownsRow w.heap.size 45 2 v n (flat (srt l))) ∧ Below w.heap.size w w' := by
  obtain ⟨i0, hi0, hz0, hz1, hz2⟩ := info_parts peg_info
  have HI := Lib.hid (And.intro hi0 (And.intro hz0 (And.intro hz1 hz2)))
  have HN := Lib.hid hln
  have HC : Hid (∀ W, Below w.heap.size w W → ∀ i, i < n → ∃ b off, A = some ⟨b, off, none⟩ ∧ b < w.heap.size ∧ W.cell? ⟨b, off + i * 2, none⟩ = some (.int .i64 (vx l i).1) ∧ W.cell? ⟨b, off + i * 2 + 1, none⟩ = some (.int .i64 (vx l i).2)) := Lib.hid (fun W hW i hi => by
    obtain ⟨b, off, e, hb, hc⟩ := hR (by omega)
    obtain ⟨h1, h2⟩ := hc i _ (vx_get (by omega))
    exact ⟨b, off, e, hb, (hW.cell (p := ⟨b, off + i * 2, none⟩) hb).trans h1, (hW.cell (p := ⟨b, off + i * 2 + 1, none⟩) hb).trans h2⟩)
  clear hR hln hi0 hz0 hz1 hz2
  go_enter Try.func26, Try.ntmps26
  go_wp2_with fail
  go_loopg [3, 10] n (fun g s i wr => ∃ (k : Nat) (v : Value), s = v ∧ k ≤ n ∧ g = n - k ∧ i = .int .i64 k ∧ Below w.heap.size w wr ∧ Hid (wr.ownsRow w.heap.size 45 2 v k (flat (srt (l.take k)))))
  case atStart => exact ⟨0, _, rfl, Nat.zero_le _, rfl, rfl, Below.refl _ _, Lib.hid (World.ownsRow_nil w w.heap.size _ _)⟩
  case round =>
    obtain ⟨k, v, rfl, hk, hg, rfl, hB, hO⟩ := hrel
    rename World => wo
    have HGK := Lib.hid hg
    clear hg
    by_cases hlt : k < n
    · have HSTEP : Hid (srt (l.take (k + 1)) = ins (srt (l.take k)) (vx l k)) := Lib.hid (srt_step (by have := HN.out; omega))
      have HLEN : Hid ((srt (l.take k)).length = k) := Lib.hid (by rw [srt_len, List.length_take]; have := HN.out; omega)
      obtain ⟨b, off, hA, hb, hq1, hq2⟩ := HC.out wo hB k hlt
      subst hA
      obtain ⟨p1, p2, hpe⟩ : ∃ p1 p2, vx l k = (p1, p2) := ⟨_, _, rfl⟩
      rw [hpe] at hq1 hq2 HSTEP
      obtain ⟨s, hs⟩ : ∃ s, s = srt (l.take k) := ⟨_, rfl⟩
      rw [← hs] at HSTEP HLEN hO
      clear hs hpe
      rcases own_val hO.out with ⟨hv, hk0⟩ | ⟨g, cap, hv, hkc, hcm, hgl, hgw⟩
      · subst hv
        subst hk0
        simp only [Nat.zero_mul, Nat.add_zero] at hq1 hq2
        have hsn : s = [] := List.eq_nil_of_length_eq_zero HLEN.out
        go_upto_block 2 with fail
        obtain ⟨Wp, hWp⟩ : ∃ Wp, Wp = (wo.alloc (.cells #[.int .i64 p1, .int .i64 p2] 45)) := ⟨_, rfl⟩
        rw [← hWp]
        have yWp0_0 : Wp.cell? ⟨wo.heap.size, 0, none⟩ = some (.int .i64 p1) := by rw [hWp]; go_simp
        have yWp0_1 : Wp.cell? ⟨wo.heap.size, 1, none⟩ = some (.int .i64 p2) := by rw [hWp]; go_simp
        have fWp0 : ∀ o, Wp.frozen? ⟨wo.heap.size, o, none⟩ = false := by intro o; rw [hWp]; (repeat rw [frozen?_alloc_cells]); simp [World.frozen?]
        have zWp0 : wo.heap.size < Wp.heap.size := by rw [hWp]; simp <;> omega
        have BWp : Below wo.heap.size wo Wp := by rw [hWp]; exact (Below.alloc (Below.refl _ _) (by simp <;> omega) _)
        have eWp : Hid (Wp.heap.size = wo.heap.size + 1) := Lib.hid (by rw [hWp]; simp)
        clear hWp
        go_cut [6] (fun q wx => q = .int .i64 0 ∧ Below Wp.heap.size Wp wx)
        case first =>
          go_wp2_with fail
          go_loopg [6] 0 (fun g2 q wr => g2 = 0 ∧ q = .int .i64 0 ∧ Below Wp.heap.size Wp wr)
          case atStart => exact ⟨rfl, rfl, Below.refl _ _⟩
          case round =>
            obtain ⟨hg2, rfl, hBi⟩ := hrel
            go_wp2_with fail
            refine wp_region_B (fun W => Below Wp.heap.size Wp W) (by kernel_rfl) (by first | exact hBi | exact hBi.drew) ?_
            first | refine wpB_skip 0 rfl (by kernel_rfl) (by kernel_rfl) (by kernel_rfl) (by rfl) ?_ | (refine wpB_text 0 (v := ?_) rfl (by kernel_rfl) (by kernel_rfl) (by kernel_rfl) (by rfl) (fun W hW => ?_) ?_; rotate_left; (have k1 := hW; obtain ⟨hc1, hf1⟩ := bcell k1; go_simp; refine comes_v ?_; exact k1))
            (try simp only [Act.put, List.setIfInBounds_toArray, List.set_cons_zero, List.set_cons_succ])
            first | refine wpB_skip 1 rfl (by kernel_rfl) (by kernel_rfl) (by kernel_rfl) (by rfl) ?_ | (refine wpB_text 1 (v := ?_) rfl (by kernel_rfl) (by kernel_rfl) (by kernel_rfl) (by rfl) (fun W hW => ?_) ?_; rotate_left; (have k1 := hW; obtain ⟨hc1, hf1⟩ := bcell k1; go_simp; refine comes_v ?_; exact k1))
            (try simp only [Act.put, List.setIfInBounds_toArray, List.set_cons_zero, List.set_cons_succ])
            first | refine wpB_skip 2 rfl (by kernel_rfl) (by kernel_rfl) (by kernel_rfl) (by rfl) ?_ | (refine wpB_text 2 (v := ?_) rfl (by kernel_rfl) (by kernel_rfl) (by kernel_rfl) (by rfl) (fun W hW => ?_) ?_; rotate_left; (have k1 := hW; obtain ⟨hc1, hf1⟩ := bcell k1; go_simp; refine comes_v ?_; exact k1))
            (try simp only [Act.put, List.setIfInBounds_toArray, List.set_cons_zero, List.set_cons_succ])
            first | refine wpB_skip 3 rfl (by kernel_rfl) (by kernel_rfl) (by kernel_rfl) (by rfl) ?_ | (refine wpB_text 3 (v := ?_) rfl (by kernel_rfl) (by kernel_rfl) (by kernel_rfl) (by rfl) (fun W hW => ?_) ?_; rotate_left; (have k1 := hW; obtain ⟨hc1, hf1⟩ := bcell k1; go_simp; refine comes_v ?_; exact k1))
            (try simp only [Act.put, List.setIfInBounds_toArray, List.set_cons_zero, List.set_cons_succ])
            first | refine wpB_skip 4 rfl (by kernel_rfl) (by kernel_rfl) (by kernel_rfl) (by rfl) ?_ | (refine wpB_text 4 (v := ?_) rfl (by kernel_rfl) (by kernel_rfl) (by kernel_rfl) (by rfl) (fun W hW => ?_) ?_; rotate_left; (have k1 := hW; obtain ⟨hc1, hf1⟩ := bcell k1; go_simp; refine comes_v ?_; exact k1))
            (try simp only [Act.put, List.setIfInBounds_toArray, List.set_cons_zero, List.set_cons_succ])
            first | refine wpB_skip 5 rfl (by kernel_rfl) (by kernel_rfl) (by kernel_rfl) (by rfl) ?_ | (refine wpB_text 5 (v := ?_) rfl (by kernel_rfl) (by kernel_rfl) (by kernel_rfl) (by rfl) (fun W hW => ?_) ?_; rotate_left; (have k1 := hW; obtain ⟨hc1, hf1⟩ := bcell k1; go_simp; refine comes_v ?_; exact k1))
            (try simp only [Act.put, List.setIfInBounds_toArray, List.set_cons_zero, List.set_cons_succ])
            first | refine wpB_skip 6 rfl (by kernel_rfl) (by kernel_rfl) (by kernel_rfl) (by rfl) ?_ | (refine wpB_text 6 (v := ?_) rfl (by kernel_rfl) (by kernel_rfl) (by kernel_rfl) (by rfl) (fun W hW => ?_) ?_; rotate_left; (have k1 := hW; obtain ⟨hc1, hf1⟩ := bcell k1; go_simp; refine comes_v ?_; exact k1))
            (try simp only [Act.put, List.setIfInBounds_toArray, List.set_cons_zero, List.set_cons_succ])
            first | refine wpB_skip 7 rfl (by kernel_rfl) (by kernel_rfl) (by kernel_rfl) (by rfl) ?_ | (refine wpB_text 7 (v := ?_) rfl (by kernel_rfl) (by kernel_rfl) (by kernel_rfl) (by rfl) (fun W hW => ?_) ?_; rotate_left; (have k1 := hW; obtain ⟨hc1, hf1⟩ := bcell k1; go_simp; refine comes_v ?_; exact k1))
            (try simp only [Act.put, List.setIfInBounds_toArray, List.set_cons_zero, List.set_cons_succ])
            first | refine wpB_skip 8 rfl (by kernel_rfl) (by kernel_rfl) (by kernel_rfl) (by rfl) ?_ | (refine wpB_text 8 (v := ?_) rfl (by kernel_rfl) (by kernel_rfl) (by kernel_rfl) (by rfl) (fun W hW => ?_) ?_; rotate_left; (have k1 := hW; obtain ⟨hc1, hf1⟩ := bcell k1; go_simp; refine comes_v ?_; exact k1))
            (try simp only [Act.put, List.setIfInBounds_toArray, List.set_cons_zero, List.set_cons_succ])
            first | refine wpB_skip 9 rfl (by kernel_rfl) (by kernel_rfl) (by kernel_rfl) (by rfl) ?_ | (refine wpB_text 9 (v := ?_) rfl (by kernel_rfl) (by kernel_rfl) (by kernel_rfl) (by rfl) (fun W hW => ?_) ?_; rotate_left; (have k1 := hW; obtain ⟨hc1, hf1⟩ := bcell k1; go_simp; refine comes_v ?_; exact k1))
            (try simp only [Act.put, List.setIfInBounds_toArray, List.set_cons_zero, List.set_cons_succ])
            first | refine wpB_skip 10 rfl (by kernel_rfl) (by kernel_rfl) (by kernel_rfl) (by rfl) ?_ | (refine wpB_text 10 (v := ?_) rfl (by kernel_rfl) (by kernel_rfl) (by kernel_rfl) (by rfl) (fun W hW => ?_) ?_; rotate_left; (have k1 := hW; obtain ⟨hc1, hf1⟩ := bcell k1; go_simp; refine comes_v ?_; exact k1))
            (try simp only [Act.put, List.setIfInBounds_toArray, List.set_cons_zero, List.set_cons_succ])
            first | refine wpB_skip 11 rfl (by kernel_rfl) (by kernel_rfl) (by kernel_rfl) (by rfl) ?_ | (refine wpB_text 11 (v := ?_) rfl (by kernel_rfl) (by kernel_rfl) (by kernel_rfl) (by rfl) (fun W hW => ?_) ?_; rotate_left; (have k1 := hW; obtain ⟨hc1, hf1⟩ := bcell k1; go_simp; refine comes_v ?_; exact k1))
            (try simp only [Act.put, List.setIfInBounds_toArray, List.set_cons_zero, List.set_cons_succ])
            refine wpB_done (by kernel_rfl) ?_ _
            intro W hW; have k1 := hW
            go_wp2_with fail
            go_meet
            case rel => exact ⟨rfl, k1⟩
        case rest =>
          obtain ⟨rfl, BC⟩ := hcut
          rename World => wy
          have hp5 : wo.heap.size < wy.heap.size := Nat.lt_of_lt_of_le zWp0 BC.size
          have x0 := ((bcell BC).1 _ 0 zWp0).trans yWp0_0
          have x1 := ((bcell BC).1 _ 1 zWp0).trans yWp0_1
          have BY := hB.trans ((BWp.mono hB.size).trans (BC.mono (Nat.le_trans hB.size BWp.size)))
          have hwx := BY.size
          have hj0 : flat (s.take 0) = [] := rfl
          obtain ⟨j, hj⟩ : ∃ j, j = 0 := ⟨_, rfl⟩
          go_upto_region 8 with fail
          go_cut [7] (fun q wx => ∃ v, v = q ∧ Hid (wx.ownsRow wy.heap.size 45 2 v (0 + 0 + 1) ([] ++ flat (s.take 0) ++ [.int .i64 p1, .int .i64 p2])) ∧ Below wy.heap.size wy wx)
          case first =>
            refine wp_region_any (by kernel_rfl) ?_
            change wpAny _ _ _ _ _ _ _ (World.drew _)
            have BB : Below wy.heap.size wy wy.drew := (Below.refl _ _).drew
            generalize wy.drew = W0 at BB ⊢
            refine wpAny_take (i := 1) (v := .slice none 0 0) rfl (by kernel_rfl) (by kernel_rfl) (by kernel_rfl) (fun _ _ _ h => h) (Or.inl ⟨by rfl, fun W => by first | rfl | (go_simp; try (intro h; omega))⟩) ?_
            (try simp only [List.getElem_toArray, List.getElem_cons_zero, List.getElem_cons_succ, Act.put, List.setIfInBounds_toArray, List.set_cons_zero, List.set_cons_succ])
            refine wpAny_take (i := 2) (v := .int .i64 0) rfl (by kernel_rfl) (by kernel_rfl) (by kernel_rfl) (fun _ _ _ h => h) (Or.inl ⟨by rfl, fun W => by first | rfl | (go_simp; try (intro h; omega))⟩) ?_
            (try simp only [List.getElem_toArray, List.getElem_cons_zero, List.getElem_cons_succ, Act.put, List.setIfInBounds_toArray, List.set_cons_zero, List.set_cons_succ])
            refine wpAny_take (i := 3) (v := .slice none 0 0) rfl (by kernel_rfl) (by kernel_rfl) (by kernel_rfl) (fun _ _ _ h => h) (Or.inl ⟨by rfl, fun W => by first | rfl | (go_simp; try (intro h; omega))⟩) ?_
            (try simp only [List.getElem_toArray, List.getElem_cons_zero, List.getElem_cons_succ, Act.put, List.setIfInBounds_toArray, List.set_cons_zero, List.set_cons_succ])
            refine wpAny_all (rs := [0, 5]) (by kernel_rfl) (by simp) (fun i hi => ?_)
            rcases (by simpa using hi : i = 0 ∨ i = 5) with rfl | rfl
            · refine wpOp_val (v := .slice (some ⟨W0.heap.size, 0, none⟩) 0 0) (w' := W0.alloc (.cells #[] 45)) rfl (by rfl) (by go_simp) ?_
              have own28 : (W0.alloc (.cells #[] 45)).ownsRow wy.heap.size 45 2 (.slice (some ⟨W0.heap.size, 0, none⟩) 0 0) 0 [] := World.ownsRow_lit W0 #[] 0 BB.size (by decide) rfl
              have hn28 : wy.heap.size ≤ W0.heap.size := BB.size
              have BB := Below.alloc BB BB.size (.cells #[] 45)
              have zn : W0.heap.size < (W0.alloc (.cells #[] 45)).heap.size := by simp
              (try simp only [List.getElem_toArray, List.getElem_cons_zero, List.getElem_cons_succ, Act.put, List.setIfInBounds_toArray, List.set_cons_zero, List.set_cons_succ])
              generalize W0.alloc (.cells #[] 45) = W1 at *
              generalize W0.heap.size = b28 at own28 hn28 zn ⊢
              refine wpAny_all (rs := [4, 5]) (by kernel_rfl) (by simp) (fun i hi => ?_)
              rcases (by simpa using hi : i = 4 ∨ i = 5) with rfl | rfl
              · refine wpOp_left rfl (by rfl) (wp_append_none (.tmp 28) (.tmp 31) 26 rfl wy.heap.size 45 i0 2 Try.underlying26 HI.out.1 _ 0 [] rfl own28 rfl ?_)
                obtain ⟨v32, hv32⟩ : ∃ v, v = Value.slice (some ⟨b28, 0, none⟩) 0 0 := ⟨_, rfl⟩
                rw [← hv32]
                rw [← hv32] at own28
                have own32 : W1.ownsRow wy.heap.size 45 2 v32 (0 + 0) ([] ++ flat (s.take 0)) := own28
                (try simp only [List.getElem_toArray, List.getElem_cons_zero, List.getElem_cons_succ, Act.put, List.setIfInBounds_toArray, List.set_cons_zero, List.set_cons_succ])
                refine wpAny_all (rs := [5]) (by kernel_rfl) (by simp) (fun i hi => ?_)
                obtain rfl : i = 5 := by simpa using hi
                refine wpOp_val (v := .agg #[.int .i64 p1, .int .i64 p2]) (w' := W1) rfl (by rfl) (by first | (have e0 := (bcell BB).1 _ 0 hp5; have e1 := (bcell BB).1 _ 1 hp5; rw [x0] at e0; rw [x1] at e1; go_simp) | go_simp) ?_
                (try simp only [List.getElem_toArray, List.getElem_cons_zero, List.getElem_cons_succ, Act.put, List.setIfInBounds_toArray, List.set_cons_zero, List.set_cons_succ])
                refine wpAny_all (rs := [6]) (by kernel_rfl) (by simp) (fun i hi => ?_)
                obtain rfl : i = 6 := by simpa using hi
                refine wpOp_val (v := .slice (some ⟨W1.heap.size, 0, none⟩) 1 1) (w' := W1.alloc (.cells #[.int .i64 p1, .int .i64 p2] 45)) rfl (by rfl) (by go_simp) ?_
                have cp0 : (W1.alloc (.cells #[.int .i64 p1, .int .i64 p2] 45)).cell? ⟨W1.heap.size, 0, none⟩ = some (.int .i64 p1) := by go_simp
                have cp1 : (W1.alloc (.cells #[.int .i64 p1, .int .i64 p2] 45)).cell? ⟨W1.heap.size, 1, none⟩ = some (.int .i64 p2) := by go_simp
                have zp : W1.heap.size < (W1.alloc (.cells #[.int .i64 p1, .int .i64 p2] 45)).heap.size := by simp
                have own32 := own32.alloc (.cells #[.int .i64 p1, .int .i64 p2] 45)
                have BB := Below.alloc BB BB.size (.cells #[.int .i64 p1, .int .i64 p2] 45)
                (try simp only [List.getElem_toArray, List.getElem_cons_zero, List.getElem_cons_succ, Act.put, List.setIfInBounds_toArray, List.set_cons_zero, List.set_cons_succ])
                generalize W1.alloc (.cells #[.int .i64 p1, .int .i64 p2] 45) = W4 at *
                generalize W1.heap.size = b34 at cp0 cp1 zp ⊢
                refine wpAny_all (rs := [7]) (by kernel_rfl) (by simp) (fun i hi => ?_)
                obtain rfl : i = 7 := by simpa using hi
                refine wpOp_left rfl (by rfl) (wp_append_own _ (.tmp 32) (.tmp 34) 26 rfl wy.heap.size 45 i0 (.agg #[.int .i64 0, .int .i64 0]) 2 16 Try.underlying26 HI.out.1 HI.out.2.1 HI.out.2.2.1 HI.out.2.2.2 rfl (by decide) v32 (0 + 0) ([] ++ flat (s.take 0)) rfl own32 ⟨b34, 0, none⟩ 1 1 [.int .i64 p1, .int .i64 p2] rfl rfl (two_cells cp0 cp1) (two_one _ _) (by unfold maxLen; omega) (by omega) BB.size ?_)
                intro v35 w8 own35 hgr8 _
                have BE := BB.grown hgr8 BB.size (fun g hg => (World.ownsRow.lt own32 g hg).1)
                (try simp only [List.getElem_toArray, List.getElem_cons_zero, List.getElem_cons_succ, Act.put, List.setIfInBounds_toArray, List.set_cons_zero, List.set_cons_succ])
                refine wpAny_all (rs := [8]) (by kernel_rfl) (by simp) (fun i hi => ?_)
                obtain rfl : i = 8 := by simpa using hi
                refine wpOp_val (v := v35) (w' := w8) rfl (by rfl) (by first | rfl | go_simp) ?_
                (try simp only [List.getElem_toArray, List.getElem_cons_zero, List.getElem_cons_succ, Act.put, List.setIfInBounds_toArray, List.set_cons_zero, List.set_cons_succ])
                refine wpAny_done (by kernel_rfl) ?_ _
                go_wp2_with fail
                go_meet
                case rel => exact ⟨v35, rfl, Lib.hid own35, BE⟩
              · refine wpOp_val (v := .agg #[.int .i64 p1, .int .i64 p2]) (w' := W1) rfl (by rfl) (by first | (have e0 := (bcell BB).1 _ 0 hp5; have e1 := (bcell BB).1 _ 1 hp5; rw [x0] at e0; rw [x1] at e1; go_simp) | go_simp) ?_
                (try simp only [List.getElem_toArray, List.getElem_cons_zero, List.getElem_cons_succ, Act.put, List.setIfInBounds_toArray, List.set_cons_zero, List.set_cons_succ])
                refine wpAny_all (rs := [4, 6]) (by kernel_rfl) (by simp) (fun i hi => ?_)
                rcases (by simpa using hi : i = 4 ∨ i = 6) with rfl | rfl
                · refine wpOp_left rfl (by rfl) (wp_append_none (.tmp 28) (.tmp 31) 26 rfl wy.heap.size 45 i0 2 Try.underlying26 HI.out.1 _ 0 [] rfl own28 rfl ?_)
                  obtain ⟨v32, hv32⟩ : ∃ v, v = Value.slice (some ⟨b28, 0, none⟩) 0 0 := ⟨_, rfl⟩
                  rw [← hv32]
                  rw [← hv32] at own28
                  have own32 : W1.ownsRow wy.heap.size 45 2 v32 (0 + 0) ([] ++ flat (s.take 0)) := own28
                  (try simp only [List.getElem_toArray, List.getElem_cons_zero, List.getElem_cons_succ, Act.put, List.setIfInBounds_toArray, List.set_cons_zero, List.set_cons_succ])
                  refine wpAny_all (rs := [6]) (by kernel_rfl) (by simp) (fun i hi => ?_)
                  obtain rfl : i = 6 := by simpa using hi
                  refine wpOp_val (v := .slice (some ⟨W1.heap.size, 0, none⟩) 1 1) (w' := W1.alloc (.cells #[.int .i64 p1, .int .i64 p2] 45)) rfl (by rfl) (by go_simp) ?_
                  have cp0 : (W1.alloc (.cells #[.int .i64 p1, .int .i64 p2] 45)).cell? ⟨W1.heap.size, 0, none⟩ = some (.int .i64 p1) := by go_simp
                  have cp1 : (W1.alloc (.cells #[.int .i64 p1, .int .i64 p2] 45)).cell? ⟨W1.heap.size, 1, none⟩ = some (.int .i64 p2) := by go_simp
                  have zp : W1.heap.size < (W1.alloc (.cells #[.int .i64 p1, .int .i64 p2] 45)).heap.size := by simp
                  have own32 := own32.alloc (.cells #[.int .i64 p1, .int .i64 p2] 45)
                  have BB := Below.alloc BB BB.size (.cells #[.int .i64 p1, .int .i64 p2] 45)
                  (try simp only [List.getElem_toArray, List.getElem_cons_zero, List.getElem_cons_succ, Act.put, List.setIfInBounds_toArray, List.set_cons_zero, List.set_cons_succ])
                  generalize W1.alloc (.cells #[.int .i64 p1, .int .i64 p2] 45) = W4 at *
                  generalize W1.heap.size = b34 at cp0 cp1 zp ⊢
                  refine wpAny_all (rs := [7]) (by kernel_rfl) (by simp) (fun i hi => ?_)
                  obtain rfl : i = 7 := by simpa using hi
                  refine wpOp_left rfl (by rfl) (wp_append_own _ (.tmp 32) (.tmp 34) 26 rfl wy.heap.size 45 i0 (.agg #[.int .i64 0, .int .i64 0]) 2 16 Try.underlying26 HI.out.1 HI.out.2.1 HI.out.2.2.1 HI.out.2.2.2 rfl (by decide) v32 (0 + 0) ([] ++ flat (s.take 0)) rfl own32 ⟨b34, 0, none⟩ 1 1 [.int .i64 p1, .int .i64 p2] rfl rfl (two_cells cp0 cp1) (two_one _ _) (by unfold maxLen; omega) (by omega) BB.size ?_)
                  intro v35 w8 own35 hgr8 _
                  have BE := BB.grown hgr8 BB.size (fun g hg => (World.ownsRow.lt own32 g hg).1)
                  (try simp only [List.getElem_toArray, List.getElem_cons_zero, List.getElem_cons_succ, Act.put, List.setIfInBounds_toArray, List.set_cons_zero, List.set_cons_succ])
                  refine wpAny_all (rs := [8]) (by kernel_rfl) (by simp) (fun i hi => ?_)
                  obtain rfl : i = 8 := by simpa using hi
                  refine wpOp_val (v := v35) (w' := w8) rfl (by rfl) (by first | rfl | go_simp) ?_
                  (try simp only [List.getElem_toArray, List.getElem_cons_zero, List.getElem_cons_succ, Act.put, List.setIfInBounds_toArray, List.set_cons_zero, List.set_cons_succ])
                  refine wpAny_done (by kernel_rfl) ?_ _
                  go_wp2_with fail
                  go_meet
                  case rel => exact ⟨v35, rfl, Lib.hid own35, BE⟩
                · refine wpOp_val (v := .slice (some ⟨W1.heap.size, 0, none⟩) 1 1) (w' := W1.alloc (.cells #[.int .i64 p1, .int .i64 p2] 45)) rfl (by rfl) (by go_simp) ?_
                  have cp0 : (W1.alloc (.cells #[.int .i64 p1, .int .i64 p2] 45)).cell? ⟨W1.heap.size, 0, none⟩ = some (.int .i64 p1) := by go_simp
                  have cp1 : (W1.alloc (.cells #[.int .i64 p1, .int .i64 p2] 45)).cell? ⟨W1.heap.size, 1, none⟩ = some (.int .i64 p2) := by go_simp
                  have zp : W1.heap.size < (W1.alloc (.cells #[.int .i64 p1, .int .i64 p2] 45)).heap.size := by simp
                  have own28 := own28.alloc (.cells #[.int .i64 p1, .int .i64 p2] 45)
                  have hne : W1.heap.size ≠ b28 := Nat.ne_of_gt zn
                  have zn := Nat.lt_trans zn zp
                  have BB := Below.alloc BB BB.size (.cells #[.int .i64 p1, .int .i64 p2] 45)
                  (try simp only [List.getElem_toArray, List.getElem_cons_zero, List.getElem_cons_succ, Act.put, List.setIfInBounds_toArray, List.set_cons_zero, List.set_cons_succ])
                  generalize W1.alloc (.cells #[.int .i64 p1, .int .i64 p2] 45) = W3 at *
                  generalize W1.heap.size = b34 at cp0 cp1 zp hne ⊢
                  refine wpAny_all (rs := [4]) (by kernel_rfl) (by simp) (fun i hi => ?_)
                  obtain rfl : i = 4 := by simpa using hi
                  refine wpOp_left rfl (by rfl) (wp_append_none (.tmp 28) (.tmp 31) 26 rfl wy.heap.size 45 i0 2 Try.underlying26 HI.out.1 _ 0 [] rfl own28 rfl ?_)
                  obtain ⟨v32, hv32⟩ : ∃ v, v = Value.slice (some ⟨b28, 0, none⟩) 0 0 := ⟨_, rfl⟩
                  rw [← hv32]
                  rw [← hv32] at own28
                  have own32 : W3.ownsRow wy.heap.size 45 2 v32 (0 + 0) ([] ++ flat (s.take 0)) := own28
                  (try simp only [List.getElem_toArray, List.getElem_cons_zero, List.getElem_cons_succ, Act.put, List.setIfInBounds_toArray, List.set_cons_zero, List.set_cons_succ])
                  refine wpAny_all (rs := [7]) (by kernel_rfl) (by simp) (fun i hi => ?_)
                  obtain rfl : i = 7 := by simpa using hi
                  refine wpOp_left rfl (by rfl) (wp_append_own _ (.tmp 32) (.tmp 34) 26 rfl wy.heap.size 45 i0 (.agg #[.int .i64 0, .int .i64 0]) 2 16 Try.underlying26 HI.out.1 HI.out.2.1 HI.out.2.2.1 HI.out.2.2.2 rfl (by decide) v32 (0 + 0) ([] ++ flat (s.take 0)) rfl own32 ⟨b34, 0, none⟩ 1 1 [.int .i64 p1, .int .i64 p2] rfl rfl (two_cells cp0 cp1) (two_one _ _) (by unfold maxLen; omega) (by omega) BB.size ?_)
                  intro v35 w8 own35 hgr8 _
                  have BE := BB.grown hgr8 BB.size (fun g hg => (World.ownsRow.lt own32 g hg).1)
                  (try simp only [List.getElem_toArray, List.getElem_cons_zero, List.getElem_cons_succ, Act.put, List.setIfInBounds_toArray, List.set_cons_zero, List.set_cons_succ])
                  refine wpAny_all (rs := [8]) (by kernel_rfl) (by simp) (fun i hi => ?_)
                  obtain rfl : i = 8 := by simpa using hi
                  refine wpOp_val (v := v35) (w' := w8) rfl (by rfl) (by first | rfl | go_simp) ?_
                  (try simp only [List.getElem_toArray, List.getElem_cons_zero, List.getElem_cons_succ, Act.put, List.setIfInBounds_toArray, List.set_cons_zero, List.set_cons_succ])
                  refine wpAny_done (by kernel_rfl) ?_ _
                  go_wp2_with fail
                  go_meet
                  case rel => exact ⟨v35, rfl, Lib.hid own35, BE⟩
            · refine wpOp_val (v := .agg #[.int .i64 p1, .int .i64 p2]) (w' := W0) rfl (by rfl) (by first | (have e0 := (bcell BB).1 _ 0 hp5; have e1 := (bcell BB).1 _ 1 hp5; rw [x0] at e0; rw [x1] at e1; go_simp) | go_simp) ?_
              (try simp only [List.getElem_toArray, List.getElem_cons_zero, List.getElem_cons_succ, Act.put, List.setIfInBounds_toArray, List.set_cons_zero, List.set_cons_succ])
              refine wpAny_all (rs := [0, 6]) (by kernel_rfl) (by simp) (fun i hi => ?_)
              rcases (by simpa using hi : i = 0 ∨ i = 6) with rfl | rfl
              · refine wpOp_val (v := .slice (some ⟨W0.heap.size, 0, none⟩) 0 0) (w' := W0.alloc (.cells #[] 45)) rfl (by rfl) (by go_simp) ?_
                have own28 : (W0.alloc (.cells #[] 45)).ownsRow wy.heap.size 45 2 (.slice (some ⟨W0.heap.size, 0, none⟩) 0 0) 0 [] := World.ownsRow_lit W0 #[] 0 BB.size (by decide) rfl
                have hn28 : wy.heap.size ≤ W0.heap.size := BB.size
                have BB := Below.alloc BB BB.size (.cells #[] 45)
                have zn : W0.heap.size < (W0.alloc (.cells #[] 45)).heap.size := by simp
                (try simp only [List.getElem_toArray, List.getElem_cons_zero, List.getElem_cons_succ, Act.put, List.setIfInBounds_toArray, List.set_cons_zero, List.set_cons_succ])
                generalize W0.alloc (.cells #[] 45) = W2 at *
                generalize W0.heap.size = b28 at own28 hn28 zn ⊢
                refine wpAny_all (rs := [4, 6]) (by kernel_rfl) (by simp) (fun i hi => ?_)
                rcases (by simpa using hi : i = 4 ∨ i = 6) with rfl | rfl
                · refine wpOp_left rfl (by rfl) (wp_append_none (.tmp 28) (.tmp 31) 26 rfl wy.heap.size 45 i0 2 Try.underlying26 HI.out.1 _ 0 [] rfl own28 rfl ?_)
                  obtain ⟨v32, hv32⟩ : ∃ v, v = Value.slice (some ⟨b28, 0, none⟩) 0 0 := ⟨_, rfl⟩
                  rw [← hv32]
                  rw [← hv32] at own28
                  have own32 : W2.ownsRow wy.heap.size 45 2 v32 (0 + 0) ([] ++ flat (s.take 0)) := own28
                  (try simp only [List.getElem_toArray, List.getElem_cons_zero, List.getElem_cons_succ, Act.put, List.setIfInBounds_toArray, List.set_cons_zero, List.set_cons_succ])
                  refine wpAny_all (rs := [6]) (by kernel_rfl) (by simp) (fun i hi => ?_)
                  obtain rfl : i = 6 := by simpa using hi
                  refine wpOp_val (v := .slice (some ⟨W2.heap.size, 0, none⟩) 1 1) (w' := W2.alloc (.cells #[.int .i64 p1, .int .i64 p2] 45)) rfl (by rfl) (by go_simp) ?_
                  have cp0 : (W2.alloc (.cells #[.int .i64 p1, .int .i64 p2] 45)).cell? ⟨W2.heap.size, 0, none⟩ = some (.int .i64 p1) := by go_simp
                  have cp1 : (W2.alloc (.cells #[.int .i64 p1, .int .i64 p2] 45)).cell? ⟨W2.heap.size, 1, none⟩ = some (.int .i64 p2) := by go_simp
                  have zp : W2.heap.size < (W2.alloc (.cells #[.int .i64 p1, .int .i64 p2] 45)).heap.size := by simp
                  have own32 := own32.alloc (.cells #[.int .i64 p1, .int .i64 p2] 45)
                  have BB := Below.alloc BB BB.size (.cells #[.int .i64 p1, .int .i64 p2] 45)
                  (try simp only [List.getElem_toArray, List.getElem_cons_zero, List.getElem_cons_succ, Act.put, List.setIfInBounds_toArray, List.set_cons_zero, List.set_cons_succ])
                  generalize W2.alloc (.cells #[.int .i64 p1, .int .i64 p2] 45) = W4 at *
                  generalize W2.heap.size = b34 at cp0 cp1 zp ⊢
                  refine wpAny_all (rs := [7]) (by kernel_rfl) (by simp) (fun i hi => ?_)
                  obtain rfl : i = 7 := by simpa using hi
                  refine wpOp_left rfl (by rfl) (wp_append_own _ (.tmp 32) (.tmp 34) 26 rfl wy.heap.size 45 i0 (.agg #[.int .i64 0, .int .i64 0]) 2 16 Try.underlying26 HI.out.1 HI.out.2.1 HI.out.2.2.1 HI.out.2.2.2 rfl (by decide) v32 (0 + 0) ([] ++ flat (s.take 0)) rfl own32 ⟨b34, 0, none⟩ 1 1 [.int .i64 p1, .int .i64 p2] rfl rfl (two_cells cp0 cp1) (two_one _ _) (by unfold maxLen; omega) (by omega) BB.size ?_)
                  intro v35 w8 own35 hgr8 _
                  have BE := BB.grown hgr8 BB.size (fun g hg => (World.ownsRow.lt own32 g hg).1)
                  (try simp only [List.getElem_toArray, List.getElem_cons_zero, List.getElem_cons_succ, Act.put, List.setIfInBounds_toArray, List.set_cons_zero, List.set_cons_succ])
                  refine wpAny_all (rs := [8]) (by kernel_rfl) (by simp) (fun i hi => ?_)
                  obtain rfl : i = 8 := by simpa using hi
                  refine wpOp_val (v := v35) (w' := w8) rfl (by rfl) (by first | rfl | go_simp) ?_
                  (try simp only [List.getElem_toArray, List.getElem_cons_zero, List.getElem_cons_succ, Act.put, List.setIfInBounds_toArray, List.set_cons_zero, List.set_cons_succ])
                  refine wpAny_done (by kernel_rfl) ?_ _
                  go_wp2_with fail
                  go_meet
                  case rel => exact ⟨v35, rfl, Lib.hid own35, BE⟩
                · refine wpOp_val (v := .slice (some ⟨W2.heap.size, 0, none⟩) 1 1) (w' := W2.alloc (.cells #[.int .i64 p1, .int .i64 p2] 45)) rfl (by rfl) (by go_simp) ?_
                  have cp0 : (W2.alloc (.cells #[.int .i64 p1, .int .i64 p2] 45)).cell? ⟨W2.heap.size, 0, none⟩ = some (.int .i64 p1) := by go_simp
                  have cp1 : (W2.alloc (.cells #[.int .i64 p1, .int .i64 p2] 45)).cell? ⟨W2.heap.size, 1, none⟩ = some (.int .i64 p2) := by go_simp
                  have zp : W2.heap.size < (W2.alloc (.cells #[.int .i64 p1, .int .i64 p2] 45)).heap.size := by simp
                  have own28 := own28.alloc (.cells #[.int .i64 p1, .int .i64 p2] 45)
                  have hne : W2.heap.size ≠ b28 := Nat.ne_of_gt zn
                  have zn := Nat.lt_trans zn zp
                  have BB := Below.alloc BB BB.size (.cells #[.int .i64 p1, .int .i64 p2] 45)
                  (try simp only [List.getElem_toArray, List.getElem_cons_zero, List.getElem_cons_succ, Act.put, List.setIfInBounds_toArray, List.set_cons_zero, List.set_cons_succ])
                  generalize W2.alloc (.cells #[.int .i64 p1, .int .i64 p2] 45) = W3 at *
                  generalize W2.heap.size = b34 at cp0 cp1 zp hne ⊢
                  refine wpAny_all (rs := [4]) (by kernel_rfl) (by simp) (fun i hi => ?_)
                  obtain rfl : i = 4 := by simpa using hi
                  refine wpOp_left rfl (by rfl) (wp_append_none (.tmp 28) (.tmp 31) 26 rfl wy.heap.size 45 i0 2 Try.underlying26 HI.out.1 _ 0 [] rfl own28 rfl ?_)
                  obtain ⟨v32, hv32⟩ : ∃ v, v = Value.slice (some ⟨b28, 0, none⟩) 0 0 := ⟨_, rfl⟩
                  rw [← hv32]
                  rw [← hv32] at own28
                  have own32 : W3.ownsRow wy.heap.size 45 2 v32 (0 + 0) ([] ++ flat (s.take 0)) := own28
                  (try simp only [List.getElem_toArray, List.getElem_cons_zero, List.getElem_cons_succ, Act.put, List.setIfInBounds_toArray, List.set_cons_zero, List.set_cons_succ])
                  refine wpAny_all (rs := [7]) (by kernel_rfl) (by simp) (fun i hi => ?_)
                  obtain rfl : i = 7 := by simpa using hi
                  refine wpOp_left rfl (by rfl) (wp_append_own _ (.tmp 32) (.tmp 34) 26 rfl wy.heap.size 45 i0 (.agg #[.int .i64 0, .int .i64 0]) 2 16 Try.underlying26 HI.out.1 HI.out.2.1 HI.out.2.2.1 HI.out.2.2.2 rfl (by decide) v32 (0 + 0) ([] ++ flat (s.take 0)) rfl own32 ⟨b34, 0, none⟩ 1 1 [.int .i64 p1, .int .i64 p2] rfl rfl (two_cells cp0 cp1) (two_one _ _) (by unfold maxLen; omega) (by omega) BB.size ?_)
                  intro v35 w8 own35 hgr8 _
                  have BE := BB.grown hgr8 BB.size (fun g hg => (World.ownsRow.lt own32 g hg).1)
                  (try simp only [List.getElem_toArray, List.getElem_cons_zero, List.getElem_cons_succ, Act.put, List.setIfInBounds_toArray, List.set_cons_zero, List.set_cons_succ])
                  refine wpAny_all (rs := [8]) (by kernel_rfl) (by simp) (fun i hi => ?_)
                  obtain rfl : i = 8 := by simpa using hi
                  refine wpOp_val (v := v35) (w' := w8) rfl (by rfl) (by first | rfl | go_simp) ?_
                  (try simp only [List.getElem_toArray, List.getElem_cons_zero, List.getElem_cons_succ, Act.put, List.setIfInBounds_toArray, List.set_cons_zero, List.set_cons_succ])
                  refine wpAny_done (by kernel_rfl) ?_ _
                  go_wp2_with fail
                  go_meet
                  case rel => exact ⟨v35, rfl, Lib.hid own35, BE⟩
              · refine wpOp_val (v := .slice (some ⟨W0.heap.size, 0, none⟩) 1 1) (w' := W0.alloc (.cells #[.int .i64 p1, .int .i64 p2] 45)) rfl (by rfl) (by go_simp) ?_
                have cp0 : (W0.alloc (.cells #[.int .i64 p1, .int .i64 p2] 45)).cell? ⟨W0.heap.size, 0, none⟩ = some (.int .i64 p1) := by go_simp
                have cp1 : (W0.alloc (.cells #[.int .i64 p1, .int .i64 p2] 45)).cell? ⟨W0.heap.size, 1, none⟩ = some (.int .i64 p2) := by go_simp
                have zp : W0.heap.size < (W0.alloc (.cells #[.int .i64 p1, .int .i64 p2] 45)).heap.size := by simp
                have BB := Below.alloc BB BB.size (.cells #[.int .i64 p1, .int .i64 p2] 45)
                (try simp only [List.getElem_toArray, List.getElem_cons_zero, List.getElem_cons_succ, Act.put, List.setIfInBounds_toArray, List.set_cons_zero, List.set_cons_succ])
                generalize W0.alloc (.cells #[.int .i64 p1, .int .i64 p2] 45) = W2 at *
                generalize W0.heap.size = b34 at cp0 cp1 zp ⊢
                refine wpAny_all (rs := [0]) (by kernel_rfl) (by simp) (fun i hi => ?_)
                obtain rfl : i = 0 := by simpa using hi
                refine wpOp_val (v := .slice (some ⟨W2.heap.size, 0, none⟩) 0 0) (w' := W2.alloc (.cells #[] 45)) rfl (by rfl) (by go_simp) ?_
                have own28 : (W2.alloc (.cells #[] 45)).ownsRow wy.heap.size 45 2 (.slice (some ⟨W2.heap.size, 0, none⟩) 0 0) 0 [] := World.ownsRow_lit W2 #[] 0 BB.size (by decide) rfl
                have hn28 : wy.heap.size ≤ W2.heap.size := BB.size
                have cp0 := (World.cell?_alloc_lt W2 (.cells #[] 45) ⟨b34, 0, none⟩ zp).trans cp0
                have cp1 := (World.cell?_alloc_lt W2 (.cells #[] 45) ⟨b34, 1, none⟩ zp).trans cp1
                have hne : b34 ≠ W2.heap.size := Nat.ne_of_lt zp
                have BB := Below.alloc BB BB.size (.cells #[] 45)
                have zn : W2.heap.size < (W2.alloc (.cells #[] 45)).heap.size := by simp
                have zp := Nat.lt_trans zp zn
                (try simp only [List.getElem_toArray, List.getElem_cons_zero, List.getElem_cons_succ, Act.put, List.setIfInBounds_toArray, List.set_cons_zero, List.set_cons_succ])
                generalize W2.alloc (.cells #[] 45) = W3 at *
                generalize W2.heap.size = b28 at own28 hn28 zn hne ⊢
                refine wpAny_all (rs := [4]) (by kernel_rfl) (by simp) (fun i hi => ?_)
                obtain rfl : i = 4 := by simpa using hi
                refine wpOp_left rfl (by rfl) (wp_append_none (.tmp 28) (.tmp 31) 26 rfl wy.heap.size 45 i0 2 Try.underlying26 HI.out.1 _ 0 [] rfl own28 rfl ?_)
                obtain ⟨v32, hv32⟩ : ∃ v, v = Value.slice (some ⟨b28, 0, none⟩) 0 0 := ⟨_, rfl⟩
                rw [← hv32]
                rw [← hv32] at own28
                have own32 : W3.ownsRow wy.heap.size 45 2 v32 (0 + 0) ([] ++ flat (s.take 0)) := own28
                (try simp only [List.getElem_toArray, List.getElem_cons_zero, List.getElem_cons_succ, Act.put, List.setIfInBounds_toArray, List.set_cons_zero, List.set_cons_succ])
                refine wpAny_all (rs := [7]) (by kernel_rfl) (by simp) (fun i hi => ?_)
                obtain rfl : i = 7 := by simpa using hi
                refine wpOp_left rfl (by rfl) (wp_append_own _ (.tmp 32) (.tmp 34) 26 rfl wy.heap.size 45 i0 (.agg #[.int .i64 0, .int .i64 0]) 2 16 Try.underlying26 HI.out.1 HI.out.2.1 HI.out.2.2.1 HI.out.2.2.2 rfl (by decide) v32 (0 + 0) ([] ++ flat (s.take 0)) rfl own32 ⟨b34, 0, none⟩ 1 1 [.int .i64 p1, .int .i64 p2] rfl rfl (two_cells cp0 cp1) (two_one _ _) (by unfold maxLen; omega) (by omega) BB.size ?_)
                intro v35 w8 own35 hgr8 _
                have BE := BB.grown hgr8 BB.size (fun g hg => (World.ownsRow.lt own32 g hg).1)
                (try simp only [List.getElem_toArray, List.getElem_cons_zero, List.getElem_cons_succ, Act.put, List.setIfInBounds_toArray, List.set_cons_zero, List.set_cons_succ])
                refine wpAny_all (rs := [8]) (by kernel_rfl) (by simp) (fun i hi => ?_)
                obtain rfl : i = 8 := by simpa using hi
                refine wpOp_val (v := v35) (w' := w8) rfl (by rfl) (by first | rfl | go_simp) ?_
                (try simp only [List.getElem_toArray, List.getElem_cons_zero, List.getElem_cons_succ, Act.put, List.setIfInBounds_toArray, List.set_cons_zero, List.set_cons_succ])
                refine wpAny_done (by kernel_rfl) ?_ _
                go_wp2_with fail
                go_meet
                case rel => exact ⟨v35, rfl, Lib.hid own35, BE⟩

          case rest =>
            obtain ⟨v7, rfl, hO7, BE⟩ := hcut
            rename World => wz
            have HE := Lib.hid (show wz.ownsRow w.heap.size 45 2 v7 (0 + 1) (flat (srt (l.take (0 + 1)))) from by
              rw [HSTEP.out, hsn]
              have := own_base hO7.out hwx
              rw [hsn] at this
              exact this)
            have B9 := BY.trans (BE.mono hwx)
            clear hO7 BE BY hO
            go_wp2_with (at_builtin; refine wpList_append_own_none rfl (.tmp 36) (.tmp 39) 26 rfl w.heap.size 45 i0 2 Try.underlying26 HI.out.1 v7 _ _ rfl HE.out rfl ?_)
            go_roundg (n - (0 + 1))
            case measure => have := HGK.out; omega
            case rel => exact ⟨0 + 1, v7, rfl, by omega, rfl, by go_num, B9, HE⟩
      · subst hv
        have HS : Hid (∀ W, Below wo.heap.size wo W → W.ownsRow w.heap.size 45 2 (.slice (some ⟨g, 0, none⟩) k cap) k (flat s)) := Lib.hid (fun W hW => ownB hO.out hW (Nat.le_refl _))
        have hcm2 : cap ≤ 9223372036854775807 := by unfold maxLen at hcm; omega
        go_upto_block 2 with fail
        obtain ⟨Wp, hWp⟩ : ∃ Wp, Wp = (wo.alloc (.cells #[.int .i64 p1, .int .i64 p2] 45)) := ⟨_, rfl⟩
        rw [← hWp]
        have yWp0_0 : Wp.cell? ⟨wo.heap.size, 0, none⟩ = some (.int .i64 p1) := by rw [hWp]; go_simp
        have yWp0_1 : Wp.cell? ⟨wo.heap.size, 1, none⟩ = some (.int .i64 p2) := by rw [hWp]; go_simp
        have fWp0 : ∀ o, Wp.frozen? ⟨wo.heap.size, o, none⟩ = false := by intro o; rw [hWp]; (repeat rw [frozen?_alloc_cells]); simp [World.frozen?]
        have zWp0 : wo.heap.size < Wp.heap.size := by rw [hWp]; simp <;> omega
        have BWp : Below wo.heap.size wo Wp := by rw [hWp]; exact (Below.alloc (Below.refl _ _) (by simp <;> omega) _)
        have eWp : Hid (Wp.heap.size = wo.heap.size + 1) := Lib.hid (by rw [hWp]; simp)
        clear hWp
        go_cut [6] (fun q wx => ∃ j : Nat, q = .int .i64 j ∧ Hid (j = insAt s (p1, p2)) ∧ Below Wp.heap.size Wp wx)
        case first =>
          go_wp2_with fail
          go_loopg [6] k (fun g2 q wr => ∃ j : Nat, j ≤ k ∧ g2 = k - j ∧ q = .int .i64 j ∧ Below Wp.heap.size Wp wr ∧ Hid (∀ i, i < j → lxB (pt s i) (p1, p2) = true))
          case atStart => exact ⟨0, Nat.zero_le _, rfl, rfl, Below.refl _ _, Lib.hid (fun i h => absurd h (Nat.not_lt_zero _))⟩
          case round =>
            obtain ⟨j, hjk, hg2, rfl, hBi, hF⟩ := hrel
            rename World => wi
            have HGJ := Lib.hid hg2
            clear hg2
            by_cases hj : j < k
            · have BW := BWp.trans (hBi.mono BWp.size)
              obtain ⟨xs0, xs1⟩ := own_pt (HS.out wi BW) HLEN.out j hj
              have zp := Nat.lt_of_lt_of_le zWp0 hBi.size
              have zg := Nat.lt_of_lt_of_le hgw BW.size
              have y0 := ((bcell hBi).1 _ 0 zWp0).trans yWp0_0
              have y1 := ((bcell hBi).1 _ 1 zWp0).trans yWp0_1
              obtain ⟨q1, q2, hqe⟩ : ∃ q1 q2, pt s j = (q1, q2) := ⟨_, _, rfl⟩
              rw [hqe] at xs0 xs1
              have HQ := Lib.hid hqe
              have KL := Lib.hid (fun W => pgLess_lx q1 q2 p1 p2 W)
              clear hqe
              by_cases hlx : lxB (q1, q2) (p1, p2) = true
              · rw [hlx] at KL
                have hF2 : Hid (∀ i, i < j + 1 → lxB (pt s i) (p1, p2) = true) := Lib.hid (fun i hi => by
                  by_cases hij : i = j
                  · subst hij; rw [HQ.out]; exact hlx
                  · exact hF.out i (by omega))
                clear hlx
                go_wp2_with fail
                refine wp_region_B (fun W => Below wi.heap.size wi W) (by kernel_rfl) (by repeat (first | exact Below.refl _ _ | apply Below.drew)) ?_
                first | refine wpB_skip 0 rfl (by kernel_rfl) (by kernel_rfl) (by kernel_rfl) (by rfl) ?_ | (refine wpB_text 0 (v := ?_) rfl (by kernel_rfl) (by kernel_rfl) (by kernel_rfl) (by rfl) (fun W hW => ?_) ?_; rotate_left; (have k1 := hW; obtain ⟨hc1, hf1⟩ := bcell k1; go_simp; refine comes_v ?_; exact k1))
                (try simp only [Act.put, List.setIfInBounds_toArray, List.set_cons_zero, List.set_cons_succ])
                first | refine wpB_skip 1 rfl (by kernel_rfl) (by kernel_rfl) (by kernel_rfl) (by rfl) ?_ | (refine wpB_text 1 (v := ?_) rfl (by kernel_rfl) (by kernel_rfl) (by kernel_rfl) (by rfl) (fun W hW => ?_) ?_; rotate_left; (have k1 := hW; obtain ⟨hc1, hf1⟩ := bcell k1; go_simp; refine comes_v ?_; exact k1))
                (try simp only [Act.put, List.setIfInBounds_toArray, List.set_cons_zero, List.set_cons_succ])
                first | refine wpB_skip 2 rfl (by kernel_rfl) (by kernel_rfl) (by kernel_rfl) (by rfl) ?_ | (refine wpB_text 2 (v := ?_) rfl (by kernel_rfl) (by kernel_rfl) (by kernel_rfl) (by rfl) (fun W hW => ?_) ?_; rotate_left; (have k1 := hW; obtain ⟨hc1, hf1⟩ := bcell k1; go_simp; refine comes_v ?_; exact k1))
                (try simp only [Act.put, List.setIfInBounds_toArray, List.set_cons_zero, List.set_cons_succ])
                first | refine wpB_skip 3 rfl (by kernel_rfl) (by kernel_rfl) (by kernel_rfl) (by rfl) ?_ | (refine wpB_text 3 (v := ?_) rfl (by kernel_rfl) (by kernel_rfl) (by kernel_rfl) (by rfl) (fun W hW => ?_) ?_; rotate_left; (have k1 := hW; obtain ⟨hc1, hf1⟩ := bcell k1; go_simp; refine comes_v ?_; exact k1))
                (try simp only [Act.put, List.setIfInBounds_toArray, List.set_cons_zero, List.set_cons_succ])
                first | refine wpB_skip 4 rfl (by kernel_rfl) (by kernel_rfl) (by kernel_rfl) (by rfl) ?_ | (refine wpB_text 4 (v := ?_) rfl (by kernel_rfl) (by kernel_rfl) (by kernel_rfl) (by rfl) (fun W hW => ?_) ?_; rotate_left; (have k1 := hW; obtain ⟨hc1, hf1⟩ := bcell k1; go_simp; refine comes_v ?_; exact k1))
                (try simp only [Act.put, List.setIfInBounds_toArray, List.set_cons_zero, List.set_cons_succ])
                first | refine wpB_skip 5 rfl (by kernel_rfl) (by kernel_rfl) (by kernel_rfl) (by rfl) ?_ | (refine wpB_text 5 (v := ?_) rfl (by kernel_rfl) (by kernel_rfl) (by kernel_rfl) (by rfl) (fun W hW => ?_) ?_; rotate_left; (have k1 := hW; obtain ⟨hc1, hf1⟩ := bcell k1; go_simp; refine comes_v ?_; exact k1))
                (try simp only [Act.put, List.setIfInBounds_toArray, List.set_cons_zero, List.set_cons_succ])
                first | refine wpB_skip 6 rfl (by kernel_rfl) (by kernel_rfl) (by kernel_rfl) (by rfl) ?_ | (refine wpB_text 6 (v := ?_) rfl (by kernel_rfl) (by kernel_rfl) (by kernel_rfl) (by rfl) (fun W hW => ?_) ?_; rotate_left; (have k1 := hW; obtain ⟨hc1, hf1⟩ := bcell k1; go_simp; refine comes_v ?_; exact k1))
                (try simp only [Act.put, List.setIfInBounds_toArray, List.set_cons_zero, List.set_cons_succ])
                first | refine wpB_skip 7 rfl (by kernel_rfl) (by kernel_rfl) (by kernel_rfl) (by rfl) ?_ | (refine wpB_text 7 (v := ?_) rfl (by kernel_rfl) (by kernel_rfl) (by kernel_rfl) (by rfl) (fun W hW => ?_) ?_; rotate_left; (have k1 := hW; obtain ⟨hc1, hf1⟩ := bcell k1; go_simp; refine comes_v ?_; exact k1))
                (try simp only [Act.put, List.setIfInBounds_toArray, List.set_cons_zero, List.set_cons_succ])
                first | refine wpB_skip 8 rfl (by kernel_rfl) (by kernel_rfl) (by kernel_rfl) (by rfl) ?_ | (refine wpB_text 8 (v := ?_) rfl (by kernel_rfl) (by kernel_rfl) (by kernel_rfl) (by rfl) (fun W hW => ?_) ?_; rotate_left; (have k1 := hW; obtain ⟨hc1, hf1⟩ := bcell k1; go_simp; refine comes_v ?_; exact k1))
                (try simp only [Act.put, List.setIfInBounds_toArray, List.set_cons_zero, List.set_cons_succ])
                first | refine wpB_skip 9 rfl (by kernel_rfl) (by kernel_rfl) (by kernel_rfl) (by rfl) ?_ | (refine wpB_text 9 (v := ?_) rfl (by kernel_rfl) (by kernel_rfl) (by kernel_rfl) (by rfl) (fun W hW => ?_) ?_; rotate_left; (have k1 := hW; obtain ⟨hc1, hf1⟩ := bcell k1; go_simp; refine comes_v ?_; exact k1))
                (try simp only [Act.put, List.setIfInBounds_toArray, List.set_cons_zero, List.set_cons_succ])
                first | refine wpB_skip 10 rfl (by kernel_rfl) (by kernel_rfl) (by kernel_rfl) (by rfl) ?_ | (refine wpB_text 10 (v := .bool true) rfl (by kernel_rfl) (by kernel_rfl) (by kernel_rfl) (by rfl) (fun W hW => ?_) ?_; (have k1 := hW; obtain ⟨hc1, hf1⟩ := bcell k1; go_simp; exact comes_c ( KL.out _) (fun wn hbn => bt_keep k1 hbn)))
                (try simp only [Act.put, List.setIfInBounds_toArray, List.set_cons_zero, List.set_cons_succ])
                first | refine wpB_skip 11 rfl (by kernel_rfl) (by kernel_rfl) (by kernel_rfl) (by rfl) ?_ | (refine wpB_text 11 (v := ?_) rfl (by kernel_rfl) (by kernel_rfl) (by kernel_rfl) (by rfl) (fun W hW => ?_) ?_; rotate_left; (have k1 := hW; obtain ⟨hc1, hf1⟩ := bcell k1; go_simp; refine comes_v ?_; exact k1))
                (try simp only [Act.put, List.setIfInBounds_toArray, List.set_cons_zero, List.set_cons_succ])
                refine wpB_done (by kernel_rfl) ?_ _
                intro W hW; have k1 := hW
                go_wp2_with fail
                go_roundg (k - (j + 1))
                case measure => have := HGJ.out; omega
                case rel => exact ⟨j + 1, by omega, rfl, by go_num, hBi.trans (k1.mono hBi.size), hF2⟩
              · have hlf : lxB (q1, q2) (p1, p2) = false := by simpa using hlx
                rw [hlf] at KL
                have hJ : Hid (j = insAt s (p1, p2)) := Lib.hid (insAt_eq s (p1, p2) j hF.out (by rw [HLEN.out]; omega) (Or.inr (by rw [HQ.out]; exact hlf))).symm
                clear hlx hlf
                go_wp2_with fail
                refine wp_region_B (fun W => Below wi.heap.size wi W) (by kernel_rfl) (by repeat (first | exact Below.refl _ _ | apply Below.drew)) ?_
                first | refine wpB_skip 0 rfl (by kernel_rfl) (by kernel_rfl) (by kernel_rfl) (by rfl) ?_ | (refine wpB_text 0 (v := ?_) rfl (by kernel_rfl) (by kernel_rfl) (by kernel_rfl) (by rfl) (fun W hW => ?_) ?_; rotate_left; (have k1 := hW; obtain ⟨hc1, hf1⟩ := bcell k1; go_simp; refine comes_v ?_; exact k1))
                (try simp only [Act.put, List.setIfInBounds_toArray, List.set_cons_zero, List.set_cons_succ])
                first | refine wpB_skip 1 rfl (by kernel_rfl) (by kernel_rfl) (by kernel_rfl) (by rfl) ?_ | (refine wpB_text 1 (v := ?_) rfl (by kernel_rfl) (by kernel_rfl) (by kernel_rfl) (by rfl) (fun W hW => ?_) ?_; rotate_left; (have k1 := hW; obtain ⟨hc1, hf1⟩ := bcell k1; go_simp; refine comes_v ?_; exact k1))
                (try simp only [Act.put, List.setIfInBounds_toArray, List.set_cons_zero, List.set_cons_succ])
                first | refine wpB_skip 2 rfl (by kernel_rfl) (by kernel_rfl) (by kernel_rfl) (by rfl) ?_ | (refine wpB_text 2 (v := ?_) rfl (by kernel_rfl) (by kernel_rfl) (by kernel_rfl) (by rfl) (fun W hW => ?_) ?_; rotate_left; (have k1 := hW; obtain ⟨hc1, hf1⟩ := bcell k1; go_simp; refine comes_v ?_; exact k1))
                (try simp only [Act.put, List.setIfInBounds_toArray, List.set_cons_zero, List.set_cons_succ])
                first | refine wpB_skip 3 rfl (by kernel_rfl) (by kernel_rfl) (by kernel_rfl) (by rfl) ?_ | (refine wpB_text 3 (v := ?_) rfl (by kernel_rfl) (by kernel_rfl) (by kernel_rfl) (by rfl) (fun W hW => ?_) ?_; rotate_left; (have k1 := hW; obtain ⟨hc1, hf1⟩ := bcell k1; go_simp; refine comes_v ?_; exact k1))
                (try simp only [Act.put, List.setIfInBounds_toArray, List.set_cons_zero, List.set_cons_succ])
                first | refine wpB_skip 4 rfl (by kernel_rfl) (by kernel_rfl) (by kernel_rfl) (by rfl) ?_ | (refine wpB_text 4 (v := ?_) rfl (by kernel_rfl) (by kernel_rfl) (by kernel_rfl) (by rfl) (fun W hW => ?_) ?_; rotate_left; (have k1 := hW; obtain ⟨hc1, hf1⟩ := bcell k1; go_simp; refine comes_v ?_; exact k1))
                (try simp only [Act.put, List.setIfInBounds_toArray, List.set_cons_zero, List.set_cons_succ])
                first | refine wpB_skip 5 rfl (by kernel_rfl) (by kernel_rfl) (by kernel_rfl) (by rfl) ?_ | (refine wpB_text 5 (v := ?_) rfl (by kernel_rfl) (by kernel_rfl) (by kernel_rfl) (by rfl) (fun W hW => ?_) ?_; rotate_left; (have k1 := hW; obtain ⟨hc1, hf1⟩ := bcell k1; go_simp; refine comes_v ?_; exact k1))
                (try simp only [Act.put, List.setIfInBounds_toArray, List.set_cons_zero, List.set_cons_succ])
                first | refine wpB_skip 6 rfl (by kernel_rfl) (by kernel_rfl) (by kernel_rfl) (by rfl) ?_ | (refine wpB_text 6 (v := ?_) rfl (by kernel_rfl) (by kernel_rfl) (by kernel_rfl) (by rfl) (fun W hW => ?_) ?_; rotate_left; (have k1 := hW; obtain ⟨hc1, hf1⟩ := bcell k1; go_simp; refine comes_v ?_; exact k1))
                (try simp only [Act.put, List.setIfInBounds_toArray, List.set_cons_zero, List.set_cons_succ])
                first | refine wpB_skip 7 rfl (by kernel_rfl) (by kernel_rfl) (by kernel_rfl) (by rfl) ?_ | (refine wpB_text 7 (v := ?_) rfl (by kernel_rfl) (by kernel_rfl) (by kernel_rfl) (by rfl) (fun W hW => ?_) ?_; rotate_left; (have k1 := hW; obtain ⟨hc1, hf1⟩ := bcell k1; go_simp; refine comes_v ?_; exact k1))
                (try simp only [Act.put, List.setIfInBounds_toArray, List.set_cons_zero, List.set_cons_succ])
                first | refine wpB_skip 8 rfl (by kernel_rfl) (by kernel_rfl) (by kernel_rfl) (by rfl) ?_ | (refine wpB_text 8 (v := ?_) rfl (by kernel_rfl) (by kernel_rfl) (by kernel_rfl) (by rfl) (fun W hW => ?_) ?_; rotate_left; (have k1 := hW; obtain ⟨hc1, hf1⟩ := bcell k1; go_simp; refine comes_v ?_; exact k1))
                (try simp only [Act.put, List.setIfInBounds_toArray, List.set_cons_zero, List.set_cons_succ])
                first | refine wpB_skip 9 rfl (by kernel_rfl) (by kernel_rfl) (by kernel_rfl) (by rfl) ?_ | (refine wpB_text 9 (v := ?_) rfl (by kernel_rfl) (by kernel_rfl) (by kernel_rfl) (by rfl) (fun W hW => ?_) ?_; rotate_left; (have k1 := hW; obtain ⟨hc1, hf1⟩ := bcell k1; go_simp; refine comes_v ?_; exact k1))
                (try simp only [Act.put, List.setIfInBounds_toArray, List.set_cons_zero, List.set_cons_succ])
                first | refine wpB_skip 10 rfl (by kernel_rfl) (by kernel_rfl) (by kernel_rfl) (by rfl) ?_ | (refine wpB_text 10 (v := .bool false) rfl (by kernel_rfl) (by kernel_rfl) (by kernel_rfl) (by rfl) (fun W hW => ?_) ?_; (have k1 := hW; obtain ⟨hc1, hf1⟩ := bcell k1; go_simp; exact comes_c ( KL.out _) (fun wn hbn => bt_keep k1 hbn)))
                (try simp only [Act.put, List.setIfInBounds_toArray, List.set_cons_zero, List.set_cons_succ])
                first | refine wpB_skip 11 rfl (by kernel_rfl) (by kernel_rfl) (by kernel_rfl) (by rfl) ?_ | (refine wpB_text 11 (v := ?_) rfl (by kernel_rfl) (by kernel_rfl) (by kernel_rfl) (by rfl) (fun W hW => ?_) ?_; rotate_left; (have k1 := hW; obtain ⟨hc1, hf1⟩ := bcell k1; go_simp; refine comes_v ?_; exact k1))
                (try simp only [Act.put, List.setIfInBounds_toArray, List.set_cons_zero, List.set_cons_succ])
                refine wpB_done (by kernel_rfl) ?_ _
                intro W hW; have k1 := hW
                go_wp2_with fail
                go_meet
                case rel => exact ⟨j, rfl, hJ, hBi.trans (k1.mono hBi.size)⟩
            · have hjk2 : j = k := by omega
              subst hjk2
              have hJ : Hid (j = insAt s (p1, p2)) := Lib.hid (insAt_eq s (p1, p2) j hF.out (by rw [HLEN.out]; omega) (Or.inl HLEN.out.symm)).symm
              go_wp2_with fail
              refine wp_region_B (fun W => Below wi.heap.size wi W) (by kernel_rfl) (by repeat (first | exact Below.refl _ _ | apply Below.drew)) ?_
              first | refine wpB_skip 0 rfl (by kernel_rfl) (by kernel_rfl) (by kernel_rfl) (by rfl) ?_ | (refine wpB_text 0 (v := ?_) rfl (by kernel_rfl) (by kernel_rfl) (by kernel_rfl) (by rfl) (fun W hW => ?_) ?_; rotate_left; (have k1 := hW; obtain ⟨hc1, hf1⟩ := bcell k1; go_simp; refine comes_v ?_; exact k1))
              (try simp only [Act.put, List.setIfInBounds_toArray, List.set_cons_zero, List.set_cons_succ])
              first | refine wpB_skip 1 rfl (by kernel_rfl) (by kernel_rfl) (by kernel_rfl) (by rfl) ?_ | (refine wpB_text 1 (v := ?_) rfl (by kernel_rfl) (by kernel_rfl) (by kernel_rfl) (by rfl) (fun W hW => ?_) ?_; rotate_left; (have k1 := hW; obtain ⟨hc1, hf1⟩ := bcell k1; go_simp; refine comes_v ?_; exact k1))
              (try simp only [Act.put, List.setIfInBounds_toArray, List.set_cons_zero, List.set_cons_succ])
              first | refine wpB_skip 2 rfl (by kernel_rfl) (by kernel_rfl) (by kernel_rfl) (by rfl) ?_ | (refine wpB_text 2 (v := ?_) rfl (by kernel_rfl) (by kernel_rfl) (by kernel_rfl) (by rfl) (fun W hW => ?_) ?_; rotate_left; (have k1 := hW; obtain ⟨hc1, hf1⟩ := bcell k1; go_simp; refine comes_v ?_; exact k1))
              (try simp only [Act.put, List.setIfInBounds_toArray, List.set_cons_zero, List.set_cons_succ])
              first | refine wpB_skip 3 rfl (by kernel_rfl) (by kernel_rfl) (by kernel_rfl) (by rfl) ?_ | (refine wpB_text 3 (v := ?_) rfl (by kernel_rfl) (by kernel_rfl) (by kernel_rfl) (by rfl) (fun W hW => ?_) ?_; rotate_left; (have k1 := hW; obtain ⟨hc1, hf1⟩ := bcell k1; go_simp; refine comes_v ?_; exact k1))
              (try simp only [Act.put, List.setIfInBounds_toArray, List.set_cons_zero, List.set_cons_succ])
              first | refine wpB_skip 4 rfl (by kernel_rfl) (by kernel_rfl) (by kernel_rfl) (by rfl) ?_ | (refine wpB_text 4 (v := ?_) rfl (by kernel_rfl) (by kernel_rfl) (by kernel_rfl) (by rfl) (fun W hW => ?_) ?_; rotate_left; (have k1 := hW; obtain ⟨hc1, hf1⟩ := bcell k1; go_simp; refine comes_v ?_; exact k1))
              (try simp only [Act.put, List.setIfInBounds_toArray, List.set_cons_zero, List.set_cons_succ])
              first | refine wpB_skip 5 rfl (by kernel_rfl) (by kernel_rfl) (by kernel_rfl) (by rfl) ?_ | (refine wpB_text 5 (v := ?_) rfl (by kernel_rfl) (by kernel_rfl) (by kernel_rfl) (by rfl) (fun W hW => ?_) ?_; rotate_left; (have k1 := hW; obtain ⟨hc1, hf1⟩ := bcell k1; go_simp; refine comes_v ?_; exact k1))
              (try simp only [Act.put, List.setIfInBounds_toArray, List.set_cons_zero, List.set_cons_succ])
              first | refine wpB_skip 6 rfl (by kernel_rfl) (by kernel_rfl) (by kernel_rfl) (by rfl) ?_ | (refine wpB_text 6 (v := ?_) rfl (by kernel_rfl) (by kernel_rfl) (by kernel_rfl) (by rfl) (fun W hW => ?_) ?_; rotate_left; (have k1 := hW; obtain ⟨hc1, hf1⟩ := bcell k1; go_simp; refine comes_v ?_; exact k1))
              (try simp only [Act.put, List.setIfInBounds_toArray, List.set_cons_zero, List.set_cons_succ])
              first | refine wpB_skip 7 rfl (by kernel_rfl) (by kernel_rfl) (by kernel_rfl) (by rfl) ?_ | (refine wpB_text 7 (v := ?_) rfl (by kernel_rfl) (by kernel_rfl) (by kernel_rfl) (by rfl) (fun W hW => ?_) ?_; rotate_left; (have k1 := hW; obtain ⟨hc1, hf1⟩ := bcell k1; go_simp; refine comes_v ?_; exact k1))
              (try simp only [Act.put, List.setIfInBounds_toArray, List.set_cons_zero, List.set_cons_succ])
              first | refine wpB_skip 8 rfl (by kernel_rfl) (by kernel_rfl) (by kernel_rfl) (by rfl) ?_ | (refine wpB_text 8 (v := ?_) rfl (by kernel_rfl) (by kernel_rfl) (by kernel_rfl) (by rfl) (fun W hW => ?_) ?_; rotate_left; (have k1 := hW; obtain ⟨hc1, hf1⟩ := bcell k1; go_simp; refine comes_v ?_; exact k1))
              (try simp only [Act.put, List.setIfInBounds_toArray, List.set_cons_zero, List.set_cons_succ])
              first | refine wpB_skip 9 rfl (by kernel_rfl) (by kernel_rfl) (by kernel_rfl) (by rfl) ?_ | (refine wpB_text 9 (v := ?_) rfl (by kernel_rfl) (by kernel_rfl) (by kernel_rfl) (by rfl) (fun W hW => ?_) ?_; rotate_left; (have k1 := hW; obtain ⟨hc1, hf1⟩ := bcell k1; go_simp; refine comes_v ?_; exact k1))
              (try simp only [Act.put, List.setIfInBounds_toArray, List.set_cons_zero, List.set_cons_succ])
              first | refine wpB_skip 10 rfl (by kernel_rfl) (by kernel_rfl) (by kernel_rfl) (by rfl) ?_ | (refine wpB_text 10 (v := ?_) rfl (by kernel_rfl) (by kernel_rfl) (by kernel_rfl) (by rfl) (fun W hW => ?_) ?_; rotate_left; (have k1 := hW; obtain ⟨hc1, hf1⟩ := bcell k1; go_simp; refine comes_v ?_; exact k1))
              (try simp only [Act.put, List.setIfInBounds_toArray, List.set_cons_zero, List.set_cons_succ])
              first | refine wpB_skip 11 rfl (by kernel_rfl) (by kernel_rfl) (by kernel_rfl) (by rfl) ?_ | (refine wpB_text 11 (v := ?_) rfl (by kernel_rfl) (by kernel_rfl) (by kernel_rfl) (by rfl) (fun W hW => ?_) ?_; rotate_left; (have k1 := hW; obtain ⟨hc1, hf1⟩ := bcell k1; go_simp; refine comes_v ?_; exact k1))
              (try simp only [Act.put, List.setIfInBounds_toArray, List.set_cons_zero, List.set_cons_succ])
              refine wpB_done (by kernel_rfl) ?_ _
              intro W hW; have k1 := hW
              go_wp2_with fail
              go_meet
              case rel => exact ⟨j, rfl, hJ, hBi.trans (k1.mono hBi.size)⟩
        case rest =>
          obtain ⟨j, rfl, hJ, BC⟩ := hcut
          rename World => wy
          have hjk : j ≤ k := by
            have := insAt_le s (p1, p2)
            rw [← hJ.out, HLEN.out] at this
            exact this
          have hp5 : wo.heap.size < wy.heap.size := Nat.lt_of_lt_of_le zWp0 BC.size
          have x0 := ((bcell BC).1 _ 0 zWp0).trans yWp0_0
          have x1 := ((bcell BC).1 _ 1 zWp0).trans yWp0_1
          have BWY := BWp.trans (BC.mono BWp.size)
          have BY := hB.trans (BWY.mono hB.size)
          have hwx := BY.size
          have hzo := BWY.size
          have HV : Hid (∀ W, Below wy.heap.size wy W → ∀ i u, (flat (s.take j))[i]? = some u → W.cell? ((⟨g, 0, none⟩ : Addr).add i) = some u) := Lib.hid (fun W hW => take_own (HS.out W (BWY.trans (hW.mono hzo))) j)
          have HL := HLEN.out
          clear yWp0_0 yWp0_1 fWp0 zWp0 BC BWp hq1 hq2
          go_upto_region 8 with fail
          go_cut [7] (fun q wx => ∃ v, v = q ∧ Hid (wx.ownsRow wy.heap.size 45 2 v (0 + j + 1) ([] ++ flat (s.take j) ++ [.int .i64 p1, .int .i64 p2])) ∧ Below wy.heap.size wy wx)
          case first =>
            refine wp_region_any (by kernel_rfl) ?_
            change wpAny _ _ _ _ _ _ _ (World.drew _)
            have BB : Below wy.heap.size wy wy.drew := (Below.refl _ _).drew
            generalize wy.drew = W0 at BB ⊢
            refine wpAny_take (i := 1) (v := .slice (some ⟨g, 0, none⟩) k cap) rfl (by kernel_rfl) (by kernel_rfl) (by kernel_rfl) (fun _ _ _ h => h) (Or.inl ⟨by rfl, fun W => by first | rfl | (go_simp; try (intro h; omega))⟩) ?_
            (try simp only [List.getElem_toArray, List.getElem_cons_zero, List.getElem_cons_succ, Act.put, List.setIfInBounds_toArray, List.set_cons_zero, List.set_cons_succ])
            refine wpAny_take (i := 2) (v := .int .i64 j) rfl (by kernel_rfl) (by kernel_rfl) (by kernel_rfl) (fun _ _ _ h => h) (Or.inl ⟨by rfl, fun W => by first | rfl | (go_simp; try (intro h; omega))⟩) ?_
            (try simp only [List.getElem_toArray, List.getElem_cons_zero, List.getElem_cons_succ, Act.put, List.setIfInBounds_toArray, List.set_cons_zero, List.set_cons_succ])
            refine wpAny_take (i := 3) (v := .slice (some ⟨g, 0, none⟩) j cap) rfl (by kernel_rfl) (by kernel_rfl) (by kernel_rfl) (fun _ _ _ h => h) (Or.inl ⟨by rfl, fun W => by first | rfl | (go_simp; try (intro h; omega))⟩) ?_
            (try simp only [List.getElem_toArray, List.getElem_cons_zero, List.getElem_cons_succ, Act.put, List.setIfInBounds_toArray, List.set_cons_zero, List.set_cons_succ])
            refine wpAny_all (rs := [0, 5]) (by kernel_rfl) (by simp) (fun i hi => ?_)
            rcases (by simpa using hi : i = 0 ∨ i = 5) with rfl | rfl
            · refine wpOp_val (v := .slice (some ⟨W0.heap.size, 0, none⟩) 0 0) (w' := W0.alloc (.cells #[] 45)) rfl (by rfl) (by go_simp) ?_
              have own28 : (W0.alloc (.cells #[] 45)).ownsRow wy.heap.size 45 2 (.slice (some ⟨W0.heap.size, 0, none⟩) 0 0) 0 [] := World.ownsRow_lit W0 #[] 0 BB.size (by decide) rfl
              have hn28 : wy.heap.size ≤ W0.heap.size := BB.size
              have BB := Below.alloc BB BB.size (.cells #[] 45)
              have zn : W0.heap.size < (W0.alloc (.cells #[] 45)).heap.size := by simp
              (try simp only [List.getElem_toArray, List.getElem_cons_zero, List.getElem_cons_succ, Act.put, List.setIfInBounds_toArray, List.set_cons_zero, List.set_cons_succ])
              generalize W0.alloc (.cells #[] 45) = W1 at *
              generalize W0.heap.size = b28 at own28 hn28 zn ⊢
              refine wpAny_all (rs := [4, 5]) (by kernel_rfl) (by simp) (fun i hi => ?_)
              rcases (by simpa using hi : i = 4 ∨ i = 5) with rfl | rfl
              · refine wpOp_left rfl (by rfl) (wp_append_own _ (.tmp 28) (.tmp 31) 26 rfl wy.heap.size 45 i0 (.agg #[.int .i64 0, .int .i64 0]) 2 16 Try.underlying26 HI.out.1 HI.out.2.1 HI.out.2.2.1 HI.out.2.2.2 rfl (by decide) (.slice (some ⟨b28, 0, none⟩) 0 0) 0 [] rfl own28 ⟨g, 0, none⟩ j cap (flat (s.take j)) rfl (by rw [flat_len, List.length_take]; omega) (HV.out _ BB) (flat_one _) (by unfold maxLen; omega) (by omega) BB.size ?_)
                intro v32 W2 own32 hgr4 _
                have BB := BB.grown hgr4 BB.size (fun g hg => (World.ownsRow.lt own28 g hg).1)
                clear hgr4
                (try simp only [List.getElem_toArray, List.getElem_cons_zero, List.getElem_cons_succ, Act.put, List.setIfInBounds_toArray, List.set_cons_zero, List.set_cons_succ])
                refine wpAny_all (rs := [5]) (by kernel_rfl) (by simp) (fun i hi => ?_)
                obtain rfl : i = 5 := by simpa using hi
                refine wpOp_val (v := .agg #[.int .i64 p1, .int .i64 p2]) (w' := W2) rfl (by rfl) (by first | (have e0 := (bcell BB).1 _ 0 hp5; have e1 := (bcell BB).1 _ 1 hp5; rw [x0] at e0; rw [x1] at e1; go_simp) | go_simp) ?_
                (try simp only [List.getElem_toArray, List.getElem_cons_zero, List.getElem_cons_succ, Act.put, List.setIfInBounds_toArray, List.set_cons_zero, List.set_cons_succ])
                refine wpAny_all (rs := [6]) (by kernel_rfl) (by simp) (fun i hi => ?_)
                obtain rfl : i = 6 := by simpa using hi
                refine wpOp_val (v := .slice (some ⟨W2.heap.size, 0, none⟩) 1 1) (w' := W2.alloc (.cells #[.int .i64 p1, .int .i64 p2] 45)) rfl (by rfl) (by go_simp) ?_
                have cp0 : (W2.alloc (.cells #[.int .i64 p1, .int .i64 p2] 45)).cell? ⟨W2.heap.size, 0, none⟩ = some (.int .i64 p1) := by go_simp
                have cp1 : (W2.alloc (.cells #[.int .i64 p1, .int .i64 p2] 45)).cell? ⟨W2.heap.size, 1, none⟩ = some (.int .i64 p2) := by go_simp
                have zp : W2.heap.size < (W2.alloc (.cells #[.int .i64 p1, .int .i64 p2] 45)).heap.size := by simp
                have own32 := own32.alloc (.cells #[.int .i64 p1, .int .i64 p2] 45)
                have BB := Below.alloc BB BB.size (.cells #[.int .i64 p1, .int .i64 p2] 45)
                (try simp only [List.getElem_toArray, List.getElem_cons_zero, List.getElem_cons_succ, Act.put, List.setIfInBounds_toArray, List.set_cons_zero, List.set_cons_succ])
                generalize W2.alloc (.cells #[.int .i64 p1, .int .i64 p2] 45) = W4 at *
                generalize W2.heap.size = b34 at cp0 cp1 zp ⊢
                refine wpAny_all (rs := [7]) (by kernel_rfl) (by simp) (fun i hi => ?_)
                obtain rfl : i = 7 := by simpa using hi
                refine wpOp_left rfl (by rfl) (wp_append_own _ (.tmp 32) (.tmp 34) 26 rfl wy.heap.size 45 i0 (.agg #[.int .i64 0, .int .i64 0]) 2 16 Try.underlying26 HI.out.1 HI.out.2.1 HI.out.2.2.1 HI.out.2.2.2 rfl (by decide) v32 (0 + j) ([] ++ flat (s.take j)) rfl own32 ⟨b34, 0, none⟩ 1 1 [.int .i64 p1, .int .i64 p2] rfl rfl (two_cells cp0 cp1) (two_one _ _) (by unfold maxLen; omega) (by omega) BB.size ?_)
                intro v35 w8 own35 hgr8 _
                have BE := BB.grown hgr8 BB.size (fun g hg => (World.ownsRow.lt own32 g hg).1)
                (try simp only [List.getElem_toArray, List.getElem_cons_zero, List.getElem_cons_succ, Act.put, List.setIfInBounds_toArray, List.set_cons_zero, List.set_cons_succ])
                refine wpAny_all (rs := [8]) (by kernel_rfl) (by simp) (fun i hi => ?_)
                obtain rfl : i = 8 := by simpa using hi
                refine wpOp_val (v := v35) (w' := w8) rfl (by rfl) (by first | rfl | go_simp) ?_
                (try simp only [List.getElem_toArray, List.getElem_cons_zero, List.getElem_cons_succ, Act.put, List.setIfInBounds_toArray, List.set_cons_zero, List.set_cons_succ])
                refine wpAny_done (by kernel_rfl) ?_ _
                go_wp2_with fail
                go_meet
                case rel => exact ⟨v35, rfl, Lib.hid own35, BE⟩
              · refine wpOp_val (v := .agg #[.int .i64 p1, .int .i64 p2]) (w' := W1) rfl (by rfl) (by first | (have e0 := (bcell BB).1 _ 0 hp5; have e1 := (bcell BB).1 _ 1 hp5; rw [x0] at e0; rw [x1] at e1; go_simp) | go_simp) ?_
                (try simp only [List.getElem_toArray, List.getElem_cons_zero, List.getElem_cons_succ, Act.put, List.setIfInBounds_toArray, List.set_cons_zero, List.set_cons_succ])
                refine wpAny_all (rs := [4, 6]) (by kernel_rfl) (by simp) (fun i hi => ?_)
                rcases (by simpa using hi : i = 4 ∨ i = 6) with rfl | rfl
                · refine wpOp_left rfl (by rfl) (wp_append_own _ (.tmp 28) (.tmp 31) 26 rfl wy.heap.size 45 i0 (.agg #[.int .i64 0, .int .i64 0]) 2 16 Try.underlying26 HI.out.1 HI.out.2.1 HI.out.2.2.1 HI.out.2.2.2 rfl (by decide) (.slice (some ⟨b28, 0, none⟩) 0 0) 0 [] rfl own28 ⟨g, 0, none⟩ j cap (flat (s.take j)) rfl (by rw [flat_len, List.length_take]; omega) (HV.out _ BB) (flat_one _) (by unfold maxLen; omega) (by omega) BB.size ?_)
                  intro v32 W3 own32 hgr4 _
                  have BB := BB.grown hgr4 BB.size (fun g hg => (World.ownsRow.lt own28 g hg).1)
                  clear hgr4
                  (try simp only [List.getElem_toArray, List.getElem_cons_zero, List.getElem_cons_succ, Act.put, List.setIfInBounds_toArray, List.set_cons_zero, List.set_cons_succ])
                  refine wpAny_all (rs := [6]) (by kernel_rfl) (by simp) (fun i hi => ?_)
                  obtain rfl : i = 6 := by simpa using hi
                  refine wpOp_val (v := .slice (some ⟨W3.heap.size, 0, none⟩) 1 1) (w' := W3.alloc (.cells #[.int .i64 p1, .int .i64 p2] 45)) rfl (by rfl) (by go_simp) ?_
                  have cp0 : (W3.alloc (.cells #[.int .i64 p1, .int .i64 p2] 45)).cell? ⟨W3.heap.size, 0, none⟩ = some (.int .i64 p1) := by go_simp
                  have cp1 : (W3.alloc (.cells #[.int .i64 p1, .int .i64 p2] 45)).cell? ⟨W3.heap.size, 1, none⟩ = some (.int .i64 p2) := by go_simp
                  have zp : W3.heap.size < (W3.alloc (.cells #[.int .i64 p1, .int .i64 p2] 45)).heap.size := by simp
                  have own32 := own32.alloc (.cells #[.int .i64 p1, .int .i64 p2] 45)
                  have BB := Below.alloc BB BB.size (.cells #[.int .i64 p1, .int .i64 p2] 45)
                  (try simp only [List.getElem_toArray, List.getElem_cons_zero, List.getElem_cons_succ, Act.put, List.setIfInBounds_toArray, List.set_cons_zero, List.set_cons_succ])
                  generalize W3.alloc (.cells #[.int .i64 p1, .int .i64 p2] 45) = W4 at *
                  generalize W3.heap.size = b34 at cp0 cp1 zp ⊢
                  refine wpAny_all (rs := [7]) (by kernel_rfl) (by simp) (fun i hi => ?_)
                  obtain rfl : i = 7 := by simpa using hi
                  refine wpOp_left rfl (by rfl) (wp_append_own _ (.tmp 32) (.tmp 34) 26 rfl wy.heap.size 45 i0 (.agg #[.int .i64 0, .int .i64 0]) 2 16 Try.underlying26 HI.out.1 HI.out.2.1 HI.out.2.2.1 HI.out.2.2.2 rfl (by decide) v32 (0 + j) ([] ++ flat (s.take j)) rfl own32 ⟨b34, 0, none⟩ 1 1 [.int .i64 p1, .int .i64 p2] rfl rfl (two_cells cp0 cp1) (two_one _ _) (by unfold maxLen; omega) (by omega) BB.size ?_)
                  intro v35 w8 own35 hgr8 _
                  have BE := BB.grown hgr8 BB.size (fun g hg => (World.ownsRow.lt own32 g hg).1)
                  (try simp only [List.getElem_toArray, List.getElem_cons_zero, List.getElem_cons_succ, Act.put, List.setIfInBounds_toArray, List.set_cons_zero, List.set_cons_succ])
                  refine wpAny_all (rs := [8]) (by kernel_rfl) (by simp) (fun i hi => ?_)
                  obtain rfl : i = 8 := by simpa using hi
                  refine wpOp_val (v := v35) (w' := w8) rfl (by rfl) (by first | rfl | go_simp) ?_
                  (try simp only [List.getElem_toArray, List.getElem_cons_zero, List.getElem_cons_succ, Act.put, List.setIfInBounds_toArray, List.set_cons_zero, List.set_cons_succ])
                  refine wpAny_done (by kernel_rfl) ?_ _
                  go_wp2_with fail
                  go_meet
                  case rel => exact ⟨v35, rfl, Lib.hid own35, BE⟩
                · refine wpOp_val (v := .slice (some ⟨W1.heap.size, 0, none⟩) 1 1) (w' := W1.alloc (.cells #[.int .i64 p1, .int .i64 p2] 45)) rfl (by rfl) (by go_simp) ?_
                  have cp0 : (W1.alloc (.cells #[.int .i64 p1, .int .i64 p2] 45)).cell? ⟨W1.heap.size, 0, none⟩ = some (.int .i64 p1) := by go_simp
                  have cp1 : (W1.alloc (.cells #[.int .i64 p1, .int .i64 p2] 45)).cell? ⟨W1.heap.size, 1, none⟩ = some (.int .i64 p2) := by go_simp
                  have zp : W1.heap.size < (W1.alloc (.cells #[.int .i64 p1, .int .i64 p2] 45)).heap.size := by simp
                  have own28 := own28.alloc (.cells #[.int .i64 p1, .int .i64 p2] 45)
                  have hne : W1.heap.size ≠ b28 := Nat.ne_of_gt zn
                  have zn := Nat.lt_trans zn zp
                  have BB := Below.alloc BB BB.size (.cells #[.int .i64 p1, .int .i64 p2] 45)
                  (try simp only [List.getElem_toArray, List.getElem_cons_zero, List.getElem_cons_succ, Act.put, List.setIfInBounds_toArray, List.set_cons_zero, List.set_cons_succ])
                  generalize W1.alloc (.cells #[.int .i64 p1, .int .i64 p2] 45) = W3 at *
                  generalize W1.heap.size = b34 at cp0 cp1 zp hne ⊢
                  refine wpAny_all (rs := [4]) (by kernel_rfl) (by simp) (fun i hi => ?_)
                  obtain rfl : i = 4 := by simpa using hi
                  refine wpOp_left rfl (by rfl) (wp_append_own _ (.tmp 28) (.tmp 31) 26 rfl wy.heap.size 45 i0 (.agg #[.int .i64 0, .int .i64 0]) 2 16 Try.underlying26 HI.out.1 HI.out.2.1 HI.out.2.2.1 HI.out.2.2.2 rfl (by decide) (.slice (some ⟨b28, 0, none⟩) 0 0) 0 [] rfl own28 ⟨g, 0, none⟩ j cap (flat (s.take j)) rfl (by rw [flat_len, List.length_take]; omega) (HV.out _ BB) (flat_one _) (by unfold maxLen; omega) (by omega) BB.size ?_)
                  intro v32 W4 own32 hgr4 _
                  have BB := BB.grown hgr4 BB.size (fun g hg => (World.ownsRow.lt own28 g hg).1)
                  have cp0 := hgr4.cell cp0 (by simp [Value.ownBlock]; exact hne)
                  have cp1 := hgr4.cell cp1 (by simp [Value.ownBlock]; exact hne)
                  have zp := Nat.lt_of_lt_of_le zp hgr4.size
                  clear hgr4
                  (try simp only [List.getElem_toArray, List.getElem_cons_zero, List.getElem_cons_succ, Act.put, List.setIfInBounds_toArray, List.set_cons_zero, List.set_cons_succ])
                  refine wpAny_all (rs := [7]) (by kernel_rfl) (by simp) (fun i hi => ?_)
                  obtain rfl : i = 7 := by simpa using hi
                  refine wpOp_left rfl (by rfl) (wp_append_own _ (.tmp 32) (.tmp 34) 26 rfl wy.heap.size 45 i0 (.agg #[.int .i64 0, .int .i64 0]) 2 16 Try.underlying26 HI.out.1 HI.out.2.1 HI.out.2.2.1 HI.out.2.2.2 rfl (by decide) v32 (0 + j) ([] ++ flat (s.take j)) rfl own32 ⟨b34, 0, none⟩ 1 1 [.int .i64 p1, .int .i64 p2] rfl rfl (two_cells cp0 cp1) (two_one _ _) (by unfold maxLen; omega) (by omega) BB.size ?_)
                  intro v35 w8 own35 hgr8 _
                  have BE := BB.grown hgr8 BB.size (fun g hg => (World.ownsRow.lt own32 g hg).1)
                  (try simp only [List.getElem_toArray, List.getElem_cons_zero, List.getElem_cons_succ, Act.put, List.setIfInBounds_toArray, List.set_cons_zero, List.set_cons_succ])
                  refine wpAny_all (rs := [8]) (by kernel_rfl) (by simp) (fun i hi => ?_)
                  obtain rfl : i = 8 := by simpa using hi
                  refine wpOp_val (v := v35) (w' := w8) rfl (by rfl) (by first | rfl | go_simp) ?_
                  (try simp only [List.getElem_toArray, List.getElem_cons_zero, List.getElem_cons_succ, Act.put, List.setIfInBounds_toArray, List.set_cons_zero, List.set_cons_succ])
                  refine wpAny_done (by kernel_rfl) ?_ _
                  go_wp2_with fail
                  go_meet
                  case rel => exact ⟨v35, rfl, Lib.hid own35, BE⟩
            · refine wpOp_val (v := .agg #[.int .i64 p1, .int .i64 p2]) (w' := W0) rfl (by rfl) (by first | (have e0 := (bcell BB).1 _ 0 hp5; have e1 := (bcell BB).1 _ 1 hp5; rw [x0] at e0; rw [x1] at e1; go_simp) | go_simp) ?_
              (try simp only [List.getElem_toArray, List.getElem_cons_zero, List.getElem_cons_succ, Act.put, List.setIfInBounds_toArray, List.set_cons_zero, List.set_cons_succ])
              refine wpAny_all (rs := [0, 6]) (by kernel_rfl) (by simp) (fun i hi => ?_)
              rcases (by simpa using hi : i = 0 ∨ i = 6) with rfl | rfl
              · refine wpOp_val (v := .slice (some ⟨W0.heap.size, 0, none⟩) 0 0) (w' := W0.alloc (.cells #[] 45)) rfl (by rfl) (by go_simp) ?_
                have own28 : (W0.alloc (.cells #[] 45)).ownsRow wy.heap.size 45 2 (.slice (some ⟨W0.heap.size, 0, none⟩) 0 0) 0 [] := World.ownsRow_lit W0 #[] 0 BB.size (by decide) rfl
                have hn28 : wy.heap.size ≤ W0.heap.size := BB.size
                have BB := Below.alloc BB BB.size (.cells #[] 45)
                have zn : W0.heap.size < (W0.alloc (.cells #[] 45)).heap.size := by simp
                (try simp only [List.getElem_toArray, List.getElem_cons_zero, List.getElem_cons_succ, Act.put, List.setIfInBounds_toArray, List.set_cons_zero, List.set_cons_succ])
                generalize W0.alloc (.cells #[] 45) = W2 at *
                generalize W0.heap.size = b28 at own28 hn28 zn ⊢
                refine wpAny_all (rs := [4, 6]) (by kernel_rfl) (by simp) (fun i hi => ?_)
                rcases (by simpa using hi : i = 4 ∨ i = 6) with rfl | rfl
                · refine wpOp_left rfl (by rfl) (wp_append_own _ (.tmp 28) (.tmp 31) 26 rfl wy.heap.size 45 i0 (.agg #[.int .i64 0, .int .i64 0]) 2 16 Try.underlying26 HI.out.1 HI.out.2.1 HI.out.2.2.1 HI.out.2.2.2 rfl (by decide) (.slice (some ⟨b28, 0, none⟩) 0 0) 0 [] rfl own28 ⟨g, 0, none⟩ j cap (flat (s.take j)) rfl (by rw [flat_len, List.length_take]; omega) (HV.out _ BB) (flat_one _) (by unfold maxLen; omega) (by omega) BB.size ?_)
                  intro v32 W3 own32 hgr4 _
                  have BB := BB.grown hgr4 BB.size (fun g hg => (World.ownsRow.lt own28 g hg).1)
                  clear hgr4
                  (try simp only [List.getElem_toArray, List.getElem_cons_zero, List.getElem_cons_succ, Act.put, List.setIfInBounds_toArray, List.set_cons_zero, List.set_cons_succ])
                  refine wpAny_all (rs := [6]) (by kernel_rfl) (by simp) (fun i hi => ?_)
                  obtain rfl : i = 6 := by simpa using hi
                  refine wpOp_val (v := .slice (some ⟨W3.heap.size, 0, none⟩) 1 1) (w' := W3.alloc (.cells #[.int .i64 p1, .int .i64 p2] 45)) rfl (by rfl) (by go_simp) ?_
                  have cp0 : (W3.alloc (.cells #[.int .i64 p1, .int .i64 p2] 45)).cell? ⟨W3.heap.size, 0, none⟩ = some (.int .i64 p1) := by go_simp
                  have cp1 : (W3.alloc (.cells #[.int .i64 p1, .int .i64 p2] 45)).cell? ⟨W3.heap.size, 1, none⟩ = some (.int .i64 p2) := by go_simp
                  have zp : W3.heap.size < (W3.alloc (.cells #[.int .i64 p1, .int .i64 p2] 45)).heap.size := by simp
                  have own32 := own32.alloc (.cells #[.int .i64 p1, .int .i64 p2] 45)
                  have BB := Below.alloc BB BB.size (.cells #[.int .i64 p1, .int .i64 p2] 45)
                  (try simp only [List.getElem_toArray, List.getElem_cons_zero, List.getElem_cons_succ, Act.put, List.setIfInBounds_toArray, List.set_cons_zero, List.set_cons_succ])
                  generalize W3.alloc (.cells #[.int .i64 p1, .int .i64 p2] 45) = W4 at *
                  generalize W3.heap.size = b34 at cp0 cp1 zp ⊢
                  refine wpAny_all (rs := [7]) (by kernel_rfl) (by simp) (fun i hi => ?_)
                  obtain rfl : i = 7 := by simpa using hi
                  refine wpOp_left rfl (by rfl) (wp_append_own _ (.tmp 32) (.tmp 34) 26 rfl wy.heap.size 45 i0 (.agg #[.int .i64 0, .int .i64 0]) 2 16 Try.underlying26 HI.out.1 HI.out.2.1 HI.out.2.2.1 HI.out.2.2.2 rfl (by decide) v32 (0 + j) ([] ++ flat (s.take j)) rfl own32 ⟨b34, 0, none⟩ 1 1 [.int .i64 p1, .int .i64 p2] rfl rfl (two_cells cp0 cp1) (two_one _ _) (by unfold maxLen; omega) (by omega) BB.size ?_)
                  intro v35 w8 own35 hgr8 _
                  have BE := BB.grown hgr8 BB.size (fun g hg => (World.ownsRow.lt own32 g hg).1)
                  (try simp only [List.getElem_toArray, List.getElem_cons_zero, List.getElem_cons_succ, Act.put, List.setIfInBounds_toArray, List.set_cons_zero, List.set_cons_succ])
                  refine wpAny_all (rs := [8]) (by kernel_rfl) (by simp) (fun i hi => ?_)
                  obtain rfl : i = 8 := by simpa using hi
                  refine wpOp_val (v := v35) (w' := w8) rfl (by rfl) (by first | rfl | go_simp) ?_
                  (try simp only [List.getElem_toArray, List.getElem_cons_zero, List.getElem_cons_succ, Act.put, List.setIfInBounds_toArray, List.set_cons_zero, List.set_cons_succ])
                  refine wpAny_done (by kernel_rfl) ?_ _
                  go_wp2_with fail
                  go_meet
                  case rel => exact ⟨v35, rfl, Lib.hid own35, BE⟩
                · refine wpOp_val (v := .slice (some ⟨W2.heap.size, 0, none⟩) 1 1) (w' := W2.alloc (.cells #[.int .i64 p1, .int .i64 p2] 45)) rfl (by rfl) (by go_simp) ?_
                  have cp0 : (W2.alloc (.cells #[.int .i64 p1, .int .i64 p2] 45)).cell? ⟨W2.heap.size, 0, none⟩ = some (.int .i64 p1) := by go_simp
                  have cp1 : (W2.alloc (.cells #[.int .i64 p1, .int .i64 p2] 45)).cell? ⟨W2.heap.size, 1, none⟩ = some (.int .i64 p2) := by go_simp
                  have zp : W2.heap.size < (W2.alloc (.cells #[.int .i64 p1, .int .i64 p2] 45)).heap.size := by simp
                  have own28 := own28.alloc (.cells #[.int .i64 p1, .int .i64 p2] 45)
                  have hne : W2.heap.size ≠ b28 := Nat.ne_of_gt zn
                  have zn := Nat.lt_trans zn zp
                  have BB := Below.alloc BB BB.size (.cells #[.int .i64 p1, .int .i64 p2] 45)
                  (try simp only [List.getElem_toArray, List.getElem_cons_zero, List.getElem_cons_succ, Act.put, List.setIfInBounds_toArray, List.set_cons_zero, List.set_cons_succ])
                  generalize W2.alloc (.cells #[.int .i64 p1, .int .i64 p2] 45) = W3 at *
                  generalize W2.heap.size = b34 at cp0 cp1 zp hne ⊢
                  refine wpAny_all (rs := [4]) (by kernel_rfl) (by simp) (fun i hi => ?_)
                  obtain rfl : i = 4 := by simpa using hi
                  refine wpOp_left rfl (by rfl) (wp_append_own _ (.tmp 28) (.tmp 31) 26 rfl wy.heap.size 45 i0 (.agg #[.int .i64 0, .int .i64 0]) 2 16 Try.underlying26 HI.out.1 HI.out.2.1 HI.out.2.2.1 HI.out.2.2.2 rfl (by decide) (.slice (some ⟨b28, 0, none⟩) 0 0) 0 [] rfl own28 ⟨g, 0, none⟩ j cap (flat (s.take j)) rfl (by rw [flat_len, List.length_take]; omega) (HV.out _ BB) (flat_one _) (by unfold maxLen; omega) (by omega) BB.size ?_)
                  intro v32 W4 own32 hgr4 _
                  have BB := BB.grown hgr4 BB.size (fun g hg => (World.ownsRow.lt own28 g hg).1)
                  have cp0 := hgr4.cell cp0 (by simp [Value.ownBlock]; exact hne)
                  have cp1 := hgr4.cell cp1 (by simp [Value.ownBlock]; exact hne)
                  have zp := Nat.lt_of_lt_of_le zp hgr4.size
                  clear hgr4
                  (try simp only [List.getElem_toArray, List.getElem_cons_zero, List.getElem_cons_succ, Act.put, List.setIfInBounds_toArray, List.set_cons_zero, List.set_cons_succ])
                  refine wpAny_all (rs := [7]) (by kernel_rfl) (by simp) (fun i hi => ?_)
                  obtain rfl : i = 7 := by simpa using hi
                  refine wpOp_left rfl (by rfl) (wp_append_own _ (.tmp 32) (.tmp 34) 26 rfl wy.heap.size 45 i0 (.agg #[.int .i64 0, .int .i64 0]) 2 16 Try.underlying26 HI.out.1 HI.out.2.1 HI.out.2.2.1 HI.out.2.2.2 rfl (by decide) v32 (0 + j) ([] ++ flat (s.take j)) rfl own32 ⟨b34, 0, none⟩ 1 1 [.int .i64 p1, .int .i64 p2] rfl rfl (two_cells cp0 cp1) (two_one _ _) (by unfold maxLen; omega) (by omega) BB.size ?_)
                  intro v35 w8 own35 hgr8 _
                  have BE := BB.grown hgr8 BB.size (fun g hg => (World.ownsRow.lt own32 g hg).1)
                  (try simp only [List.getElem_toArray, List.getElem_cons_zero, List.getElem_cons_succ, Act.put, List.setIfInBounds_toArray, List.set_cons_zero, List.set_cons_succ])
                  refine wpAny_all (rs := [8]) (by kernel_rfl) (by simp) (fun i hi => ?_)
                  obtain rfl : i = 8 := by simpa using hi
                  refine wpOp_val (v := v35) (w' := w8) rfl (by rfl) (by first | rfl | go_simp) ?_
                  (try simp only [List.getElem_toArray, List.getElem_cons_zero, List.getElem_cons_succ, Act.put, List.setIfInBounds_toArray, List.set_cons_zero, List.set_cons_succ])
                  refine wpAny_done (by kernel_rfl) ?_ _
                  go_wp2_with fail
                  go_meet
                  case rel => exact ⟨v35, rfl, Lib.hid own35, BE⟩
              · refine wpOp_val (v := .slice (some ⟨W0.heap.size, 0, none⟩) 1 1) (w' := W0.alloc (.cells #[.int .i64 p1, .int .i64 p2] 45)) rfl (by rfl) (by go_simp) ?_
                have cp0 : (W0.alloc (.cells #[.int .i64 p1, .int .i64 p2] 45)).cell? ⟨W0.heap.size, 0, none⟩ = some (.int .i64 p1) := by go_simp
                have cp1 : (W0.alloc (.cells #[.int .i64 p1, .int .i64 p2] 45)).cell? ⟨W0.heap.size, 1, none⟩ = some (.int .i64 p2) := by go_simp
                have zp : W0.heap.size < (W0.alloc (.cells #[.int .i64 p1, .int .i64 p2] 45)).heap.size := by simp
                have BB := Below.alloc BB BB.size (.cells #[.int .i64 p1, .int .i64 p2] 45)
                (try simp only [List.getElem_toArray, List.getElem_cons_zero, List.getElem_cons_succ, Act.put, List.setIfInBounds_toArray, List.set_cons_zero, List.set_cons_succ])
                generalize W0.alloc (.cells #[.int .i64 p1, .int .i64 p2] 45) = W2 at *
                generalize W0.heap.size = b34 at cp0 cp1 zp ⊢
                refine wpAny_all (rs := [0]) (by kernel_rfl) (by simp) (fun i hi => ?_)
                obtain rfl : i = 0 := by simpa using hi
                refine wpOp_val (v := .slice (some ⟨W2.heap.size, 0, none⟩) 0 0) (w' := W2.alloc (.cells #[] 45)) rfl (by rfl) (by go_simp) ?_
                have own28 : (W2.alloc (.cells #[] 45)).ownsRow wy.heap.size 45 2 (.slice (some ⟨W2.heap.size, 0, none⟩) 0 0) 0 [] := World.ownsRow_lit W2 #[] 0 BB.size (by decide) rfl
                have hn28 : wy.heap.size ≤ W2.heap.size := BB.size
                have cp0 := (World.cell?_alloc_lt W2 (.cells #[] 45) ⟨b34, 0, none⟩ zp).trans cp0
                have cp1 := (World.cell?_alloc_lt W2 (.cells #[] 45) ⟨b34, 1, none⟩ zp).trans cp1
                have hne : b34 ≠ W2.heap.size := Nat.ne_of_lt zp
                have BB := Below.alloc BB BB.size (.cells #[] 45)
                have zn : W2.heap.size < (W2.alloc (.cells #[] 45)).heap.size := by simp
                have zp := Nat.lt_trans zp zn
                (try simp only [List.getElem_toArray, List.getElem_cons_zero, List.getElem_cons_succ, Act.put, List.setIfInBounds_toArray, List.set_cons_zero, List.set_cons_succ])
                generalize W2.alloc (.cells #[] 45) = W3 at *
                generalize W2.heap.size = b28 at own28 hn28 zn hne ⊢
                refine wpAny_all (rs := [4]) (by kernel_rfl) (by simp) (fun i hi => ?_)
                obtain rfl : i = 4 := by simpa using hi
                refine wpOp_left rfl (by rfl) (wp_append_own _ (.tmp 28) (.tmp 31) 26 rfl wy.heap.size 45 i0 (.agg #[.int .i64 0, .int .i64 0]) 2 16 Try.underlying26 HI.out.1 HI.out.2.1 HI.out.2.2.1 HI.out.2.2.2 rfl (by decide) (.slice (some ⟨b28, 0, none⟩) 0 0) 0 [] rfl own28 ⟨g, 0, none⟩ j cap (flat (s.take j)) rfl (by rw [flat_len, List.length_take]; omega) (HV.out _ BB) (flat_one _) (by unfold maxLen; omega) (by omega) BB.size ?_)
                intro v32 W4 own32 hgr4 _
                have BB := BB.grown hgr4 BB.size (fun g hg => (World.ownsRow.lt own28 g hg).1)
                have cp0 := hgr4.cell cp0 (by simp [Value.ownBlock]; exact hne)
                have cp1 := hgr4.cell cp1 (by simp [Value.ownBlock]; exact hne)
                have zp := Nat.lt_of_lt_of_le zp hgr4.size
                clear hgr4
                (try simp only [List.getElem_toArray, List.getElem_cons_zero, List.getElem_cons_succ, Act.put, List.setIfInBounds_toArray, List.set_cons_zero, List.set_cons_succ])
                refine wpAny_all (rs := [7]) (by kernel_rfl) (by simp) (fun i hi => ?_)
                obtain rfl : i = 7 := by simpa using hi
                refine wpOp_left rfl (by rfl) (wp_append_own _ (.tmp 32) (.tmp 34) 26 rfl wy.heap.size 45 i0 (.agg #[.int .i64 0, .int .i64 0]) 2 16 Try.underlying26 HI.out.1 HI.out.2.1 HI.out.2.2.1 HI.out.2.2.2 rfl (by decide) v32 (0 + j) ([] ++ flat (s.take j)) rfl own32 ⟨b34, 0, none⟩ 1 1 [.int .i64 p1, .int .i64 p2] rfl rfl (two_cells cp0 cp1) (two_one _ _) (by unfold maxLen; omega) (by omega) BB.size ?_)
                intro v35 w8 own35 hgr8 _
                have BE := BB.grown hgr8 BB.size (fun g hg => (World.ownsRow.lt own32 g hg).1)
                (try simp only [List.getElem_toArray, List.getElem_cons_zero, List.getElem_cons_succ, Act.put, List.setIfInBounds_toArray, List.set_cons_zero, List.set_cons_succ])
                refine wpAny_all (rs := [8]) (by kernel_rfl) (by simp) (fun i hi => ?_)
                obtain rfl : i = 8 := by simpa using hi
                refine wpOp_val (v := v35) (w' := w8) rfl (by rfl) (by first | rfl | go_simp) ?_
                (try simp only [List.getElem_toArray, List.getElem_cons_zero, List.getElem_cons_succ, Act.put, List.setIfInBounds_toArray, List.set_cons_zero, List.set_cons_succ])
                refine wpAny_done (by kernel_rfl) ?_ _
                go_wp2_with fail
                go_meet
                case rel => exact ⟨v35, rfl, Lib.hid own35, BE⟩

          case rest =>
            obtain ⟨v7, rfl, hO7, BE⟩ := hcut
            rename World => wz
            have HD := Lib.hid (drop_own (HS.out wz (BWY.trans (BE.mono hzo))) j (by omega))
            have HO := Lib.hid (own_base hO7.out hwx)
            have B9 := BY.trans (BE.mono hwx)
            have hz9 := B9.size
            clear hO7 BE BY hO HV
            have HE : Hid (∀ (W : World) (v : Value), W.ownsRow w.heap.size 45 2 v (0 + j + 1 + (k - j)) (([] ++ flat (s.take j) ++ [.int .i64 p1, .int .i64 p2]) ++ flat (s.drop j)) → W.ownsRow w.heap.size 45 2 v (k + 1) (flat (srt (l.take (k + 1))))) := Lib.hid (fun W v hh => by
              rw [HSTEP.out, ins_flat hJ.out, show k + 1 = 0 + j + 1 + (k - j) by omega]
              exact hh)
            have hn7 : 0 + j + 1 ≤ k + 1 := by omega
            have hyl : (flat (s.drop j)).length = (k - j) * 2 := by rw [flat_len, List.length_drop]; omega
            have hy1 : ∀ u ∈ flat (s.drop j), u.oneCell' = true := flat_one _
            have hy0 : j = k → flat (s.drop j) = [] := fun e => by rw [List.drop_of_length_le (by omega)]; rfl
            generalize [] ++ flat (s.take j) ++ [Value.int .i64 p1, .int .i64 p2] = xs at *
            generalize flat (s.drop j) = ys at *
            generalize 0 + j + 1 = n7 at *
            rcases Nat.lt_or_ge j k with hj | hj
            · have e1 : ¬ (cap : Int) = (j : Int) := by omega
              have e2 : ¬ cap = j := by omega
              go_wp2_with (at_builtin; refine wpList_append_own _ rfl (.tmp 36) (.tmp 39) 26 rfl w.heap.size 45 i0 (.agg #[.int .i64 0, .int .i64 0]) 2 16 Try.underlying26 HI.out.1 HI.out.2.1 HI.out.2.2.1 HI.out.2.2.2 rfl (by decide) v7 n7 xs rfl HO.out ⟨g, j * 2, none⟩ (k - j) (cap - j) ys rfl hyl HD.out hy1 (by unfold maxLen; omega) (by omega) hz9 ?_)
              intro v9 w9 own9 hgr9 _
              have HF9 := Lib.hid (HE.out _ _ own9)
              have BZ := B9.grown hgr9 hz9 (fun g hg => (World.ownsRow.lt HO.out g hg).1)
              clear own9 hgr9
              go_wp2_with fail
              go_roundg (n - (k + 1))
              case measure => have := HGK.out; omega
              case rel => exact ⟨k + 1, v9, rfl, by omega, rfl, by go_num, BZ, HF9⟩
            · have hjk2 : j = k := by omega
              subst hjk2
              have hdn := hy0 rfl
              subst hdn
              rw [Nat.sub_self] at HE
              by_cases hcj : cap = j
              · have e1 : (cap : Int) = (j : Int) := by omega
                go_wp2_with (at_builtin; refine wpList_append_own _ rfl (.tmp 36) (.tmp 39) 26 rfl w.heap.size 45 i0 (.agg #[.int .i64 0, .int .i64 0]) 2 16 Try.underlying26 HI.out.1 HI.out.2.1 HI.out.2.2.1 HI.out.2.2.2 rfl (by decide) v7 n7 xs rfl HO.out ⟨g, 0, none⟩ 0 _ [] rfl (by simp) (by intro i u hi; simp at hi) (by intro u hu; simp at hu) (by unfold maxLen; omega) (by omega) hz9 ?_)
                intro v9 w9 own9 hgr9 _
                have HF9 := Lib.hid (HE.out w9 v9 (by first | exact own9 | simpa using own9))
                have BZ := B9.grown hgr9 hz9 (fun g hg => (World.ownsRow.lt HO.out g hg).1)
                clear own9 hgr9
                go_wp2_with fail
                go_roundg (n - (j + 1))
                case measure => have := HGK.out; omega
                case rel => exact ⟨j + 1, v9, rfl, by omega, rfl, by go_num, BZ, HF9⟩
              · have e1 : ¬ (cap : Int) = (j : Int) := by omega
                go_wp2_with (at_builtin; refine wpList_append_own _ rfl (.tmp 36) (.tmp 39) 26 rfl w.heap.size 45 i0 (.agg #[.int .i64 0, .int .i64 0]) 2 16 Try.underlying26 HI.out.1 HI.out.2.1 HI.out.2.2.1 HI.out.2.2.2 rfl (by decide) v7 n7 xs rfl HO.out ⟨g, j * 2, none⟩ 0 _ [] rfl (by simp) (by intro i u hi; simp at hi) (by intro u hu; simp at hu) (by unfold maxLen; omega) (by omega) hz9 ?_)
                intro v9 w9 own9 hgr9 _
                have HF9 := Lib.hid (HE.out w9 v9 (by first | exact own9 | simpa using own9))
                have BZ := B9.grown hgr9 hz9 (fun g hg => (World.ownsRow.lt HO.out g hg).1)
                clear own9 hgr9
                go_wp2_with fail
                go_roundg (n - (j + 1))
                case measure => have := HGK.out; omega
                case rel => exact ⟨j + 1, v9, rfl, by omega, rfl, by go_num, BZ, HF9⟩
    · have hkn : n = k := by omega
      subst hkn
      have HL : Hid (l.take n = l) := Lib.hid (List.take_of_length_le (by have := HN.out; omega))
      go_wp2_with fail
      go_ret
      exact ⟨⟨_, rfl, by have := hO.out; rw [HL.out] at this; exact this⟩, hB⟩
end Go.Proofs.Ytmejlgjgneiinaa

