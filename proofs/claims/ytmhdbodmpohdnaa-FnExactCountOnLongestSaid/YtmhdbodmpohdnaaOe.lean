/- contracts: the pegs of a board, both sides -/
import Derived.Test.YtmhdbodmpohdnaaOa
import Derived.Test.YtmhdbodmpohdnaaOb
import Derived.Laws.MakeOwn
namespace Go.Proofs.Ytmhdbodmpohdnaa
open Go.ChangeShapes Go.WideShapes Go.ChangeAt Go.RowKit Go.Joins
set_option linter.unusedVariables false
set_option linter.unusedSimpArgs false
set_option maxRecDepth 4000
theorem row_made0 {w W : World} (hb : Below w.heap.size w W) (f : Nat → Int × Int) (n : Nat) (hn : n ≤ 1000) :
    Row (W.alloc (.cells (madeCells #[.int .i64 0, .int .i64 0] (n * 2)) 28)) w.heap.size (.slice (some ⟨W.heap.size, 0, none⟩) 0 n) f 0 :=
  World.ownsRow_made (base := w.heap.size) (e := 28) (size := 2) W _ n hb.size (by unfold maxLen; omega) (size_madeCells _ _)
theorem bd_mul {a b : Nat} (h1 : a ≤ 12) (h2 : b ≤ 12) : a * b ≤ 144 := Nat.le_trans (Nat.mul_le_mul h1 h2) (Nat.le_refl _)
set_option maxHeartbeats 2000000 in
theorem ctPegs_any (nw nh : Nat) (w : World) (h1 : nw ≤ 12) (h2 : nh ≤ 12) :
    Calls Try.prog 44 #[.int .i64 nw, .int .i64 nh] w (RetP w (firsts (bX nh) (nw * nh))) := by
  obtain ⟨i0, hi0, hz0, hz1, hz2⟩ := info_parts peg_info
  have HI := Lib.hid (And.intro hi0 (And.intro hz0 (And.intro hz1 hz2)))
  clear hi0 hz0 hz1 hz2
  have HX : Hid (∀ i j, j < nh → bX nh (i * nh + j) = ((i : Int), (j : Int))) := Lib.hid (fun i j h => bX_row i h)
  have HM : Hid (∀ i j, i < nw → j ≤ nh → i * nh + j ≤ 144) := Lib.hid (fun i j hi hj => by
    have := Nat.mul_le_mul (show i + 1 ≤ 12 by omega) h2
    rw [Nat.add_mul] at this
    omega)
  have HS : Hid (∀ i, i * nh + nh = (i + 1) * nh) := Lib.hid (fun i => by rw [Nat.add_mul, Nat.one_mul])
  have HN : Hid (∀ v W, Row W w.heap.size v (bX nh) (nw * nh) → Below w.heap.size w W → RetP w (firsts (bX nh) (nw * nh)) (.returned v) W) := Lib.hid (fun v W h hb => retP_row h hb)
  generalize bX nh = f at *
  go_enter Try.func44, Try.ntmps44
  go_wp2_with fail
  go_loopg [5, 6] nw (fun g s x wr => ∃ (i : Nat) (v : Value), v = s ∧ i ≤ nw ∧ g = nw - i ∧ x = .int .i64 i ∧ Below w.heap.size w wr ∧ Hid (Row wr w.heap.size v f (i * nh)))
  case atStart => exact ⟨0, _, rfl, Nat.zero_le _, rfl, rfl, Below.refl _ _, Lib.hid (by rw [Nat.zero_mul]; exact row_nil _ _ _)⟩
  case round =>
    obtain ⟨i, v, rfl, hi, hg, rfl, hB, hr⟩ := hrel
    rename World => wo
    have HGK := Lib.hid hg
    clear hg
    by_cases hlt : i < nw
    · go_wp2_with fail
      go_loopg [5, 7] nh (fun g s y wr => ∃ (j : Nat) (v : Value), v = s ∧ j ≤ nh ∧ g = nh - j ∧ y = .int .i64 j ∧ Below w.heap.size w wr ∧ Hid (Row wr w.heap.size v f (i * nh + j)))
      case atStart => exact ⟨0, _, rfl, Nat.zero_le _, rfl, rfl, hB, hr⟩
      case round =>
        clear hB hr
        rename Value => v0
        obtain ⟨j, v, rfl, hj, hg, rfl, hB, hr⟩ := hrel
        rename World => wi
        have HGJ := Lib.hid hg
        clear hg
        by_cases hlj : j < nh
        · have hzB := hB.size
          have hm := HM.out i j hlt hj
          have HXX := Lib.hid (HX.out i j hlj)
          have RA := Lib.hid (row_alloc hr.out (.cells #[.int .i64 (i : Int), .int .i64 (j : Int)] 28))
          have BA := Lib.hid (Below.alloc hB hzB (.cells #[.int .i64 (i : Int), .int .i64 (j : Int)] 28))
          clear hr
          generalize hK : i * nh + j = k at *
          have HK := Lib.hid hK
          clear hK
          go_wp2_with (at_builtin; refine wpList_append_own _ rfl (.tmp 18) (.tmp 22) 38 rfl w.heap.size 28 i0 (.agg #[.int .i64 0, .int .i64 0]) 2 16 Try.underlying38 HI.out.1 HI.out.2.1 HI.out.2.2.1 HI.out.2.2.2 rfl (by decide) _ k (flat (firsts f k)) rfl RA.out ⟨wi.heap.size, 0, none⟩ 1 1 [.int .i64 (i : Int), .int .i64 (j : Int)] rfl rfl (two_cells (by go_simp) (by go_simp)) (two_one _ _) (by unfold maxLen; omega) (by omega) (by simp; omega) ?_)
          intro v' w1 hown hgr _
          have RB := row_push (f := f) BA.out RA.out (by rw [HXX.out]; exact hown) hgr
          have R1 := Lib.hid RB.1
          have B1 := RB.2
          clear RB hown hgr BA RA
          go_wp2_with fail
          go_roundg (nh - (j + 1))
          case measure => have := HGJ.out; omega
          case rel => exact ⟨j + 1, _, rfl, by omega, rfl, by go_num, B1, Lib.hid (by rw [← Nat.add_assoc, HK.out]; exact R1.out)⟩
        · obtain rfl : j = nh := by omega
          have hr2 := Lib.hid (show Row wi w.heap.size v f ((i + 1) * j) from by rw [← HS.out]; exact hr.out)
          clear hr
          go_wp2_with fail
          go_roundg (nw - (i + 1))
          case measure => have := HGK.out; omega
          case rel => exact ⟨i + 1, _, rfl, by omega, rfl, by go_num, hB, hr2⟩
    · obtain rfl : i = nw := by omega
      go_wp2_with fail
      go_ret
      exact HN.out _ _ hr.out hB
set_option maxHeartbeats 2000000 in
theorem boardPegs_any (nw nh : Nat) (w : World) (h1 : nw ≤ 12) (h2 : nh ≤ 12) :
    Calls Try.prog 49 #[.agg #[.int .i64 nw, .int .i64 nh]] w (RetP w (firsts (bX nh) (nw * nh))) := by
  obtain ⟨i0, hi0, hz0, hz1, hz2⟩ := info_parts peg_info
  have HI := Lib.hid (And.intro hi0 (And.intro hz0 (And.intro hz1 hz2)))
  have h3 := bd_mul h1 h2
  have hmk := fun W => run_make (P := Try.prog) W 38 28 i0 _ Try.underlying38 hi0 hz0 .i64 .i64 (0 : Int) ((nw : Int) * (nh : Int)) (by omega) (by rw [← Int.natCast_mul]; omega) (by rw [hz2, ← Int.natCast_mul]; omega) (by rw [← Int.natCast_mul]; omega)
  have h4 : ((nw : Int) * (nh : Int)).toNat = nw * nh := by rw [← Int.natCast_mul]; omega
  have h5 : 0 ≤ (nw : Int) * (nh : Int) ∧ (nw : Int) * (nh : Int) ≤ 144 := by rw [← Int.natCast_mul]; omega
  obtain ⟨h6, h7⟩ := h5
  simp only [Int.toNat_zero, h4, hz1] at hmk
  clear hi0 hz0 hz1 hz2 h4
  have HX : Hid (∀ i j, j < nh → bX nh (i * nh + j) = ((i : Int), (j : Int))) := Lib.hid (fun i j h => bX_row i h)
  have HM : Hid (∀ i j, i < nw → j ≤ nh → i * nh + j ≤ 144) := Lib.hid (fun i j hi hj => by
    have := Nat.mul_le_mul (show i + 1 ≤ 12 by omega) h2
    rw [Nat.add_mul] at this
    omega)
  have HS : Hid (∀ i, i * nh + nh = (i + 1) * nh) := Lib.hid (fun i => by rw [Nat.add_mul, Nat.one_mul])
  have HN : Hid (∀ v W W0, Below w.heap.size w W0 → w.heap.size ≤ W0.heap.size → Row W W0.heap.size v (bX nh) (nw * nh) → Below W0.heap.size W0 W → RetP w (firsts (bX nh) (nw * nh)) (.returned v) W) := Lib.hid (fun v W W0 h0 hz h hb => by
    obtain ⟨A, c, rfl, q1, q2, q3⟩ := row_out h
    refine ⟨A, c, by rw [firsts_len], by rw [firsts_len]; exact q1, q2, h0.trans (hb.mono hz), ?_⟩
    rw [firsts_len]
    exact rw_more (rw_same q3 fun i hi => (firsts_pt (bX nh) _ i hi).symm) hz (Nat.le_refl _))
  generalize bX nh = f at *
  go_enter Try.func49, Try.ntmps49
  go_wp2_with fail
  obtain ⟨W0, hW0⟩ : ∃ W0, W0 = (w.alloc (.cells #[.int .i64 ((nw : Int)), .int .i64 ((nh : Int))] 34)) := ⟨_, rfl⟩
  rw [← hW0]
  have yW00_0 : W0.cell? ⟨w.heap.size, 0, none⟩ = some (.int .i64 ((nw : Int))) := by rw [hW0]; go_simp
  have yW00_1 : W0.cell? ⟨w.heap.size, 1, none⟩ = some (.int .i64 ((nh : Int))) := by rw [hW0]; go_simp
  have fW00 : ∀ o, W0.frozen? ⟨w.heap.size, o, none⟩ = false := by intro o; rw [hW0]; (repeat rw [frozen?_alloc_cells]); simp [World.frozen?]
  have zW00 : w.heap.size < W0.heap.size := by rw [hW0]; simp <;> omega
  have BW0 : Below w.heap.size w W0 := by rw [hW0]; exact (Below.alloc (Below.refl _ _) (by simp <;> omega) _)
  have eW0 : Hid (W0.heap.size = w.heap.size + 1) := Lib.hid (by rw [hW0]; simp)
  clear hW0
  have HR0 : Hid (Row (W0.alloc (.cells (madeCells #[.int .i64 0, .int .i64 0] (nw * nh * 2)) 28)) W0.heap.size (.slice (some ⟨w.heap.size + 1, 0, none⟩) 0 (nw * nh)) f 0) := Lib.hid (by
    rw [show w.heap.size + 1 = W0.heap.size from eW0.out.symm]
    exact row_made0 (w := W0) (W := W0) (Below.refl _ _) f (nw * nh) (by omega))
  have hB0 := Below.alloc (Below.refl W0.heap.size W0) (Nat.le_refl _) (.cells (madeCells #[.int .i64 0, .int .i64 0] (nw * nh * 2)) 28)
  clear hmk
  go_loopg [3, 14] nw (fun g s x wr => ∃ (i : Nat) (v : Value), v = s ∧ i ≤ nw ∧ g = nw - i ∧ x = .int .i64 i ∧ Below W0.heap.size W0 wr ∧ Hid (Row wr W0.heap.size v f (i * nh)))
  case atStart => exact ⟨0, _, rfl, Nat.zero_le _, rfl, rfl, hB0, Lib.hid (by rw [Nat.zero_mul]; exact HR0.out)⟩
  case round =>
    clear hB0 HR0
    obtain ⟨i, v, rfl, hi, hg, rfl, hB, hr⟩ := hrel
    rename World => wo
    have HGK := Lib.hid hg
    clear hg
    have c0 := ((bcell hB).1 _ _ zW00).trans yW00_0
    have c1 := ((bcell hB).1 _ _ zW00).trans yW00_1
    by_cases hlt : i < nw
    · go_wp2_with fail
      go_loopg [3, 19] nh (fun g s y wr => ∃ (j : Nat) (v : Value), v = s ∧ j ≤ nh ∧ g = nh - j ∧ y = .int .i64 j ∧ Below W0.heap.size W0 wr ∧ Hid (Row wr W0.heap.size v f (i * nh + j)))
      case atStart => exact ⟨0, _, rfl, Nat.zero_le _, rfl, rfl, hB, hr⟩
      case round =>
        clear hB hr c0 c1
        rename Value => v0
        obtain ⟨j, v, rfl, hj, hg, rfl, hB, hr⟩ := hrel
        rename World => wi
        have HGJ := Lib.hid hg
        clear hg
        have c0 := ((bcell hB).1 _ _ zW00).trans yW00_0
        have c1 := ((bcell hB).1 _ _ zW00).trans yW00_1
        by_cases hlj : j < nh
        · have hzB := hB.size
          have hm := HM.out i j hlt hj
          have HXX := Lib.hid (HX.out i j hlj)
          have RA := Lib.hid (row_alloc hr.out (.cells #[.int .i64 (i : Int), .int .i64 (j : Int)] 28))
          have BA := Lib.hid (Below.alloc hB hzB (.cells #[.int .i64 (i : Int), .int .i64 (j : Int)] 28))
          clear hr
          generalize hK : i * nh + j = k at *
          have HK := Lib.hid hK
          clear hK
          go_wp2_with (at_builtin; refine wpList_append_own _ rfl (.tmp 22) (.tmp 26) 38 rfl W0.heap.size 28 i0 (.agg #[.int .i64 0, .int .i64 0]) 2 16 Try.underlying38 HI.out.1 HI.out.2.1 HI.out.2.2.1 HI.out.2.2.2 rfl (by decide) _ k (flat (firsts f k)) rfl RA.out ⟨wi.heap.size, 0, none⟩ 1 1 [.int .i64 (i : Int), .int .i64 (j : Int)] rfl rfl (two_cells (by go_simp) (by go_simp)) (two_one _ _) (by unfold maxLen; omega) (by omega) (by simp; omega) ?_)
          intro v' w1 hown hgr _
          have RB := row_push (f := f) BA.out RA.out (by rw [HXX.out]; exact hown) hgr
          have R1 := Lib.hid RB.1
          have B1 := RB.2
          clear RB hown hgr BA RA
          go_wp2_with fail
          go_roundg (nh - (j + 1))
          case measure => have := HGJ.out; omega
          case rel => exact ⟨j + 1, _, rfl, by omega, rfl, by go_num, B1, Lib.hid (by rw [← Nat.add_assoc, HK.out]; exact R1.out)⟩
        · obtain rfl : j = nh := by omega
          have hr2 := Lib.hid (show Row wi W0.heap.size v f ((i + 1) * j) from by rw [← HS.out]; exact hr.out)
          clear hr
          go_wp2_with fail
          go_roundg (nw - (i + 1))
          case measure => have := HGK.out; omega
          case rel => exact ⟨i + 1, _, rfl, by omega, rfl, by go_num, hB, hr2⟩
    · obtain rfl : i = nw := by omega
      go_wp2_with fail
      go_ret
      exact HN.out _ _ W0 BW0 (by have := eW0.out; omega) hr.out hB
end Go.Proofs.Ytmhdbodmpohdnaa
