/- contracts: all pegs that fit, the program -/
import Derived.Test.YtacabmbajadbgaaPzB
import Derived.Laws.MakeOwn
namespace Go.Proofs.Ytacabmbajadbgaa
open Go.ChangeShapes Go.WideShapes Go.ChangeAt Go.RowKit Go.Joins
set_option linter.unusedVariables false
set_option linter.unusedSimpArgs false
set_option maxRecDepth 4000
theorem row_made0 {w W : World} (hb : Below w.heap.size w W) (f : Nat → Int × Int) (n : Nat) (hn : n ≤ 1000) :
    Row (W.alloc (.cells (madeCells #[.int .i64 0, .int .i64 0] (n * 2)) 53)) w.heap.size (.slice (some ⟨W.heap.size, 0, none⟩) 0 n) f 0 :=
  World.ownsRow_made (base := w.heap.size) (e := 53) (size := 2) W _ n hb.size (by unfold maxLen; omega) (size_madeCells _ _)
set_option maxHeartbeats 2000000 in
theorem boardPegs13_any (nw nh : Nat) (w : World) (h1 : nw ≤ 13) (h2 : nh ≤ 13) :
    Calls Try.prog 97 #[.agg #[.int .i64 nw, .int .i64 nh]] w (RetP w (firsts (bX nh) (nw * nh))) := by
  obtain ⟨i0, hi0, hz0, hz1, hz2⟩ := info_parts peg_info
  have HI := Lib.hid (And.intro hi0 (And.intro hz0 (And.intro hz1 hz2)))
  have h3 : nw * nh ≤ 169 := Nat.le_trans (Nat.mul_le_mul h1 h2) (Nat.le_refl _)
  have hmk := fun W => run_make (P := Try.prog) W 61 53 i0 _ Try.underlying61 hi0 hz0 .i64 .i64 (0 : Int) ((nw : Int) * (nh : Int)) (by omega) (by rw [← Int.natCast_mul]; omega) (by rw [hz2, ← Int.natCast_mul]; omega) (by rw [← Int.natCast_mul]; omega)
  have h4 : ((nw : Int) * (nh : Int)).toNat = nw * nh := by rw [← Int.natCast_mul]; omega
  have h5 : 0 ≤ (nw : Int) * (nh : Int) ∧ (nw : Int) * (nh : Int) ≤ 169 := by rw [← Int.natCast_mul]; omega
  obtain ⟨h6, h7⟩ := h5
  simp only [Int.toNat_zero, h4, hz1] at hmk
  clear hi0 hz0 hz1 hz2 h4
  have HX : Hid (∀ i j, j < nh → bX nh (i * nh + j) = ((i : Int), (j : Int))) := Lib.hid (fun i j h => bX_row i h)
  have HM : Hid (∀ i j, i < nw → j ≤ nh → i * nh + j ≤ 169) := Lib.hid (fun i j hi hj => by
    have := Nat.mul_le_mul (show i + 1 ≤ 13 by omega) h2
    rw [Nat.add_mul] at this
    omega)
  have HS : Hid (∀ i, i * nh + nh = (i + 1) * nh) := Lib.hid (fun i => by rw [Nat.add_mul, Nat.one_mul])
  have HN : Hid (∀ v W W0, Below w.heap.size w W0 → w.heap.size ≤ W0.heap.size → Row W W0.heap.size v (bX nh) (nw * nh) → Below W0.heap.size W0 W → RetP w (firsts (bX nh) (nw * nh)) (.returned v) W) := Lib.hid (fun v W W0 h0 hz h hb => by
    obtain ⟨A, c, rfl, q1, q2, q3⟩ := row_out h
    refine ⟨A, c, by rw [firsts_len], by rw [firsts_len]; exact q1, q2, h0.trans (hb.mono hz), ?_⟩
    rw [firsts_len]
    exact rw_more (rw_same q3 fun i hi => (firsts_pt (bX nh) _ i hi).symm) hz (Nat.le_refl _))
  generalize bX nh = f at *
  go_enter Try.func97, Try.ntmps97
  go_wp2_with fail
  obtain ⟨W0, hW0⟩ : ∃ W0, W0 = (w.alloc (.cells #[.int .i64 ((nw : Int)), .int .i64 ((nh : Int))] 88)) := ⟨_, rfl⟩
  rw [← hW0]
  have yW00_0 : W0.cell? ⟨w.heap.size, 0, none⟩ = some (.int .i64 ((nw : Int))) := by rw [hW0]; go_simp
  have yW00_1 : W0.cell? ⟨w.heap.size, 1, none⟩ = some (.int .i64 ((nh : Int))) := by rw [hW0]; go_simp
  have fW00 : ∀ o, W0.frozen? ⟨w.heap.size, o, none⟩ = false := by intro o; rw [hW0]; (repeat rw [frozen?_alloc_cells]); simp [World.frozen?]
  have zW00 : w.heap.size < W0.heap.size := by rw [hW0]; simp <;> omega
  have BW0 : Below w.heap.size w W0 := by rw [hW0]; exact (Below.alloc (Below.refl _ _) (by simp <;> omega) _)
  have eW0 : Hid (W0.heap.size = w.heap.size + 1) := Lib.hid (by rw [hW0]; simp)
  clear hW0
  have HR0 : Hid (Row (W0.alloc (.cells (madeCells #[.int .i64 0, .int .i64 0] (nw * nh * 2)) 53)) W0.heap.size (.slice (some ⟨w.heap.size + 1, 0, none⟩) 0 (nw * nh)) f 0) := Lib.hid (by
    rw [show w.heap.size + 1 = W0.heap.size from eW0.out.symm]
    exact row_made0 (w := W0) (W := W0) (Below.refl _ _) f (nw * nh) (by omega))
  have hB0 := Below.alloc (Below.refl W0.heap.size W0) (Nat.le_refl _) (.cells (madeCells #[.int .i64 0, .int .i64 0] (nw * nh * 2)) 53)
  clear hmk
  go_loopg [3, 14] nw (fun g s x wr => ∃ (i : Nat) (v : Value), v = s ∧ i ≤ nw ∧ g = nw - i ∧ x = .int .i64 i ∧ Below W0.heap.size W0 wr ∧ Hid (Row wr W0.heap.size v f (i * nh)))
  case atStart => exact ⟨0, _, rfl, Nat.zero_le _, rfl, rfl, hB0, Lib.hid (by rw [Nat.zero_mul]; exact HR0.out)⟩
  case round =>
    clear hB0 HR0
    obtain ⟨i, v, rfl, hi, hg, rfl, hB, hr⟩ := hrel
    rename World => wo
    have HGK := Lib.hid hg
    clear hg
    have c0 := ((bcell hB).1 _ _ zW00).trans yW00_0
    have c1 := ((bcell hB).1 _ _ zW00).trans yW00_1
    by_cases hlt : i < nw
    · go_wp2_with fail
      go_loopg [3, 19] nh (fun g s y wr => ∃ (j : Nat) (v : Value), v = s ∧ j ≤ nh ∧ g = nh - j ∧ y = .int .i64 j ∧ Below W0.heap.size W0 wr ∧ Hid (Row wr W0.heap.size v f (i * nh + j)))
      case atStart => exact ⟨0, _, rfl, Nat.zero_le _, rfl, rfl, hB, hr⟩
      case round =>
        clear hB hr c0 c1
        rename Value => v0
        obtain ⟨j, v, rfl, hj, hg, rfl, hB, hr⟩ := hrel
        rename World => wi
        have HGJ := Lib.hid hg
        clear hg
        have c0 := ((bcell hB).1 _ _ zW00).trans yW00_0
        have c1 := ((bcell hB).1 _ _ zW00).trans yW00_1
        by_cases hlj : j < nh
        · have hzB := hB.size
          have hm := HM.out i j hlt hj
          have HXX := Lib.hid (HX.out i j hlj)
          have RA := Lib.hid (row_alloc hr.out (.cells #[.int .i64 (i : Int), .int .i64 (j : Int)] 53))
          have BA := Lib.hid (Below.alloc hB hzB (.cells #[.int .i64 (i : Int), .int .i64 (j : Int)] 53))
          clear hr
          generalize hK : i * nh + j = k at *
          have HK := Lib.hid hK
          clear hK
          go_wp2_with (at_builtin; refine wpList_append_own _ rfl (.tmp 22) (.tmp 26) 61 rfl W0.heap.size 53 i0 (.agg #[.int .i64 0, .int .i64 0]) 2 16 Try.underlying61 HI.out.1 HI.out.2.1 HI.out.2.2.1 HI.out.2.2.2 rfl (by decide) _ k (flat (firsts f k)) rfl RA.out ⟨wi.heap.size, 0, none⟩ 1 1 [.int .i64 (i : Int), .int .i64 (j : Int)] rfl rfl (two_cells (by go_simp) (by go_simp)) (two_one _ _) (by unfold maxLen; omega) (by omega) (by simp; omega) ?_)
          intro v' w1 hown hgr _
          have RB := row_push (f := f) BA.out RA.out (by rw [HXX.out]; exact hown) hgr
          have R1 := Lib.hid RB.1
          have B1 := RB.2
          clear RB hown hgr BA RA
          go_wp2_with fail
          go_roundg (nh - (j + 1))
          case measure => have := HGJ.out; omega
          case rel => exact ⟨j + 1, _, rfl, by omega, rfl, by go_num, B1, Lib.hid (by rw [← Nat.add_assoc, HK.out]; exact R1.out)⟩
        · obtain rfl : j = nh := by omega
          have hr2 := Lib.hid (show Row wi W0.heap.size v f ((i + 1) * j) from by rw [← HS.out]; exact hr.out)
          clear hr
          go_wp2_with fail
          go_roundg (nw - (i + 1))
          case measure => have := HGK.out; omega
          case rel => exact ⟨i + 1, _, rfl, by omega, rfl, by go_num, hB, hr2⟩
    · obtain rfl : i = nw := by omega
      go_wp2_with fail
      go_ret
      exact HN.out _ _ W0 BW0 (by have := eW0.out; omega) hr.out hB
set_option maxHeartbeats 2000000 in
theorem solutions_any (ns : Nat) (A : Option Addr) (c n : Nat) (f : Nat → Int) (w : World) (hp : puzB (ns : Int) n f = true) (hR : RdI w w.heap.size A (n * 4) f) :
    Calls Try.prog 67 #[.agg #[.int .i64 (ns : Int), .slice A n c]] w (RetP w (solK f n (ns + 1) ((ns + 1) * (ns + 1)))) := by
  obtain ⟨s1, s2, hn, hcl⟩ := puzB_t hp
  obtain ⟨i0, hi0, hz0, hz1, hz2⟩ := info_parts peg_info
  have HI := Lib.hid (And.intro hi0 (And.intro hz0 (And.intro hz1 hz2)))
  clear hi0 hz0 hz1 hz2
  have KS := Lib.hid (fun W => sideBoard_any (ns : Int) W s1 s2)
  have KP := Lib.hid (fun W => boardPegs13_any (ns + 1) (ns + 1) W (by omega) (by omega))
  have KF := Lib.hid (fun W (hb : Below w.heap.size w W) (p1 p2 : Int) (g1 : 0 ≤ p1 ∧ p1 ≤ (ns : Int)) (g2 : 0 ≤ p2 ∧ p2 ≤ (ns : Int)) => puzFits_any (ns : Int) A c n f p1 p2 W hp g1 g2 (rdi_below hR hb (Nat.le_refl _)))
  have HXB : Hid (∀ k, k < (ns + 1) * (ns + 1) → (0 ≤ (bX (ns + 1) k).1 ∧ (bX (ns + 1) k).1 ≤ (ns : Int)) ∧ (0 ≤ (bX (ns + 1) k).2 ∧ (bX (ns + 1) k).2 ≤ (ns : Int))) := Lib.hid (fun k hk => by
    unfold bX
    have a : k / (ns + 1) < ns + 1 := Nat.div_lt_of_lt_mul hk
    have b : k % (ns + 1) < ns + 1 := Nat.mod_lt k (show 0 < ns + 1 by omega)
    simp only
    generalize k / (ns + 1) = x at *
    generalize k % (ns + 1) = y at *
    omega)
  have HYes := Lib.hid (fun k (h : allF f (bX (ns + 1) k).1 (bX (ns + 1) k).2 n = true) => solK_yes (f := f) (n := n) (m := ns + 1) h)
  have HNo := Lib.hid (fun k (h : allF f (bX (ns + 1) k).1 (bX (ns + 1) k).2 n = false) => solK_no (f := f) (n := n) (m := ns + 1) h)
  have H0 : Hid (solK f n (ns + 1) 0 = []) := Lib.hid rfl
  have hM : (ns + 1) * (ns + 1) ≤ 169 := Nat.le_trans (Nat.mul_le_mul (show ns + 1 ≤ 13 by omega) (show ns + 1 ≤ 13 by omega)) (Nat.le_refl _)
  have HL : Hid (∀ k, k ≤ (ns + 1) * (ns + 1) → (solK f n (ns + 1) k).length ≤ 400) := Lib.hid (fun k hk => by have := solK_len f n (ns + 1) k; omega)
  have HN : Hid (∀ v W W2, Below w.heap.size w W2 → RowL W W2.heap.size v (solK f n (ns + 1) ((ns + 1) * (ns + 1))) → Below W2.heap.size W2 W → RetP w (solK f n (ns + 1) ((ns + 1) * (ns + 1))) (.returned v) W) := Lib.hid (fun v W W2 h0 h hb => by
    obtain ⟨A9, c9, e9, g1, g2, g3, g4⟩ := retP_rowL h hb
    exact ⟨A9, c9, e9, g1, g2, h0.trans (g3.mono h0.size), rw_more g4 h0.size (Nat.le_refl _)⟩)
  have HG : Hid (∀ k, k < (ns + 1) * (ns + 1) → pt (firsts (bX (ns + 1)) ((ns + 1) * (ns + 1))) k = bX (ns + 1) k) := Lib.hid (fun k hk => firsts_pt _ _ _ hk)
  have P0 := Lib.hid (pbx_new w (ns : Int) A n c 28)
  have cs : ((ns : Int) + 1) = ((ns + 1 : Nat) : Int) := by omega
  rw [cs] at KS
  clear hp hR hcl s1 s2 cs
  generalize (ns + 1) * (ns + 1) = M at *
  go_enter Try.func67, Try.ntmps67
  go_wp2_with fail
  obtain ⟨W0, hW0⟩ : ∃ W0, W0 = w.alloc (.cells #[.int .i64 (ns : Int), .slice A n c] 28) := ⟨_, rfl⟩
  have B0 : Below w.heap.size w W0 := by rw [hW0]; exact Below.alloc (Below.refl _ _) (Nat.le_refl _) _
  have PB := P0.out
  rw [← hW0] at PB ⊢
  clear hW0 P0
  refine (KS.out _).mono ?_; rintro e w1 ⟨rfl, hb1⟩
  have B1 := B0.trans (hb1.mono B0.size)
  have P1 := pbx_below PB hb1
  clear hb1 PB B0 KS
  go_wp2_with fail
  refine (KP.out _).mono ?_; rintro e w2 ⟨A2, c2, rfl, q1, q2, hb2, q3⟩
  rw [firsts_len] at q1 q3
  have B2 := B1.trans (hb2.mono B1.size)
  have P2 := Lib.hid (pbx_below P1 hb2)
  have HQ := Lib.hid q3
  have hl : (firsts (bX (ns + 1)) M).length = M := firsts_len _ _
  clear hb2 P1 B1 q3 q1 q2 KP
  go_wp2_with fail
  go_loopg [3, 11] M (fun g o x wr => ∃ (k : Nat) (v : Value), v = o ∧ k ≤ M ∧ g = M - k ∧ x = .int .i64 (k : Int) ∧ Below w2.heap.size w2 wr ∧ Hid (RowL wr w2.heap.size v (solK f n (ns + 1) k)))
  case atStart => exact ⟨0, _, rfl, Nat.zero_le _, rfl, rfl, Below.refl _ _, Lib.hid (by rw [H0.out]; exact rowL_nil _ _)⟩
  case round =>
    obtain ⟨k, v, rfl, hk, hg, rfl, hB, hr⟩ := hrel
    rename World => wo
    have HGK := Lib.hid hg
    clear hg
    have BB := B2.trans (hB.mono B2.size)
    by_cases hlt : k < M
    · obtain ⟨b, off, rfl, hb1, hb2, hcell⟩ := HQ.out (by omega)
      have hx := (hcell k hlt).1
      rw [HG.out k hlt] at hx
      obtain ⟨x0, x1⟩ := hx
      have x0' := ((bcell hB).1 _ _ hb2).trans x0
      have x1' := ((bcell hB).1 _ _ hb2).trans x1
      have hbo : b < wo.heap.size := Nat.lt_of_lt_of_le hb2 hB.size
      have p0 := ((bcell hB).1 _ _ P2.out.z).trans P2.out.c0
      have p1 := ((bcell hB).1 _ _ P2.out.z).trans P2.out.c1
      have pz := Nat.lt_of_lt_of_le P2.out.z hB.size
      have hzo := hB.size
      obtain ⟨g1, g2⟩ := HXB.out k hlt
      have K1 := Lib.hid (fun W hb => KF.out W hb (bX (ns + 1) k).1 (bX (ns + 1) k).2 g1 g2)
      have HY := Lib.hid (HYes.out k)
      have HO := Lib.hid (HNo.out k)
      have hm := HL.out k hk
      clear hcell x0 x1 g1 g2
      generalize hbx : bX (ns + 1) k = bx at *
      obtain ⟨bx1, bx2⟩ := bx
      simp only at x0' x1' K1 HY HO
      clear hbx
      generalize solK f n (ns + 1) k = m at *
      go_wp2_with fail
      obtain ⟨W1, hW1⟩ : ∃ W1, W1 = (wo.alloc (.cells #[.int .i64 bx1, .int .i64 bx2] 53)) := ⟨_, rfl⟩
      rw [← hW1]
      have yW10_0 : W1.cell? ⟨wo.heap.size, 0, none⟩ = some (.int .i64 bx1) := by rw [hW1]; go_simp
      have yW10_1 : W1.cell? ⟨wo.heap.size, 1, none⟩ = some (.int .i64 bx2) := by rw [hW1]; go_simp
      have fW10 : ∀ o, W1.frozen? ⟨wo.heap.size, o, none⟩ = false := by intro o; rw [hW1]; (repeat rw [frozen?_alloc_cells]); simp [World.frozen?]
      have zW10 : wo.heap.size < W1.heap.size := by rw [hW1]; simp <;> omega
      have BW1 : Below wo.heap.size wo W1 := by rw [hW1]; exact (Below.alloc (Below.refl _ _) (by simp <;> omega) _)
      have eW1 : Hid (W1.heap.size = wo.heap.size + 1) := Lib.hid (by rw [hW1]; simp)
      clear hW1
      have RA := Lib.hid (rowL_below hr.out BW1 (Nat.le_refl _))
      have BA := hB.trans (BW1.mono hzo)
      have BAA := BB.trans (BW1.mono BB.size)
      have u0 := (BW1.cell (p := ⟨w.heap.size, 0, none⟩) pz).trans p0
      have u1 := (BW1.cell (p := ⟨w.heap.size, 1, none⟩) pz).trans p1
      refine (K1.out _ BAA).mono ?_; rintro e w4 ⟨rfl, hb4⟩
      have RB := Lib.hid (rowL_below RA.out hb4 (Nat.le_refl _))
      have B4 := BA.trans (hb4.mono BA.size)
      have v0 := ((bcell hb4).1 _ _ zW10).trans yW10_0
      have v1 := ((bcell hb4).1 _ _ zW10).trans yW10_1
      have zv := Nat.lt_of_lt_of_le zW10 hb4.size
      have hz4 := B4.size
      clear hb4 RA BA BAA hr hB BB fW10 eW1 BW1 yW10_0 yW10_1 zW10 x0' x1' p0 p1 u0 u1 K1
      cases ha : allF f bx1 bx2 n
      · have hN2 := Lib.hid (HO.out ha)
        clear ha HY HO v0 v1
        go_wp2_with fail
        go_roundg (M - (k + 1))
        case measure => have := HGK.out; omega
        case rel => exact ⟨k + 1, v, rfl, by omega, rfl, by go_num, B4, Lib.hid (by rw [hN2.out]; exact RB.out)⟩
      · have hN2 := Lib.hid (HY.out ha)
        clear ha HY HO
        go_wp2_with (at_builtin; go_loud (refine wpList_append_own _ rfl (.tmp 18) (.tmp 20) 61 rfl w2.heap.size 53 i0 (.agg #[.int .i64 0, .int .i64 0]) 2 16 Try.underlying61 HI.out.1 HI.out.2.1 HI.out.2.2.1 HI.out.2.2.2 rfl (by decide) _ m.length (flat m) rfl (rowL_alloc RB.out _) ⟨w4.heap.size, 0, none⟩ 1 1 [.int .i64 bx1, .int .i64 bx2] rfl rfl (two_cells (by go_simp) (by go_simp)) (two_one _ _) (by unfold maxLen; omega) (by omega) (by simp; omega) ?_))
        intro v' w5 hown hgr _
        have RC := rowL_push (Below.alloc B4 hz4 _) (rowL_alloc RB.out _) hown hgr
        have R2 := Lib.hid RC.1
        have B5 := RC.2
        clear RC hown hgr B4 RB
        go_wp2_with fail
        go_roundg (M - (k + 1))
        case measure => have := HGK.out; omega
        case rel => exact ⟨k + 1, _, rfl, by omega, rfl, by go_num, B5, Lib.hid (by rw [hN2.out]; exact R2.out)⟩
    · obtain rfl : k = M := by omega
      go_wp2_with fail
      go_ret
      exact HN.out _ _ _ B2 hr.out hB
end Go.Proofs.Ytacabmbajadbgaa
