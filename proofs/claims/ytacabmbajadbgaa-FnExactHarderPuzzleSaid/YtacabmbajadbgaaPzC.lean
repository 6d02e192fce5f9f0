/- contracts: all pegs that fit, the model -/
import Derived.Test.YtacabmbajadbgaaPzB
import Derived.Laws.MakeOwn
namespace Go.Proofs.Ytacabmbajadbgaa
open Go.ChangeShapes Go.WideShapes Go.ChangeAt Go.RowKit Go.Joins
set_option linter.unusedVariables false
set_option linter.unusedSimpArgs false
set_option maxRecDepth 4000
set_option maxHeartbeats 4000000 in
theorem pzAll_any (ns : Nat) (A : Option Addr) (c n : Nat) (f : Nat → Int) (w : World) (hp : puzB (ns : Int) n f = true) (hR : RdI w w.heap.size A (n * 4) f) :
    Calls Try.prog 66 #[.int .i64 (ns : Int), .slice A n c] w (RetP w (solK f n (ns + 1) ((ns + 1) * (ns + 1)))) := by
  obtain ⟨s1, s2, hn, hcl⟩ := puzB_t hp
  obtain ⟨i0, hi0, hz0, hz1, hz2⟩ := info_parts peg_info
  have HI := Lib.hid (And.intro hi0 (And.intro hz0 (And.intro hz1 hz2)))
  clear hi0 hz0 hz1 hz2
  have KF := Lib.hid (fun k (hk : k < n) (p1 p2 : Int) (g1 : 0 ≤ p1 ∧ p1 ≤ (ns : Int)) (g2 : 0 ≤ p2 ∧ p2 ≤ (ns : Int)) W => pzFits_any (f (k * 4)) (f (k * 4 + 1)) (f (k * 4 + 2)) (f (k * 4 + 3)) p1 p2 W (clue_fit (hcl k hk) s1 s2 g1 g2).1 (clue_fit (hcl k hk) s1 s2 g1 g2).2)
  have HR := Lib.hid hR
  have HX : Hid (∀ i j, j < ns + 1 → bX (ns + 1) (i * (ns + 1) + j) = ((i : Int), (j : Int))) := Lib.hid (fun i j h => bX_row i h)
  have HL : Hid (∀ i j, i < ns + 1 → j ≤ ns + 1 → (solK f n (ns + 1) (i * (ns + 1) + j)).length ≤ 400) := Lib.hid (fun i j hi hj => by
    have h1 := solK_len f n (ns + 1) (i * (ns + 1) + j)
    have h2 := Nat.mul_le_mul (show i + 1 ≤ 13 by omega) (show ns + 1 ≤ 13 by omega)
    rw [Nat.add_mul] at h2
    omega)
  have HS : Hid (∀ i, i * (ns + 1) + (ns + 1) = (i + 1) * (ns + 1)) := Lib.hid (fun i => by rw [Nat.add_mul i 1, Nat.one_mul])
  have HYes := Lib.hid (fun k (h : allF f (bX (ns + 1) k).1 (bX (ns + 1) k).2 n = true) => solK_yes (f := f) (n := n) (m := ns + 1) h)
  have HNo := Lib.hid (fun k (h : allF f (bX (ns + 1) k).1 (bX (ns + 1) k).2 n = false) => solK_no (f := f) (n := n) (m := ns + 1) h)
  have H0 : Hid (solK f n (ns + 1) 0 = []) := Lib.hid rfl
  have HN : Hid (∀ v W, RowL W w.heap.size v (solK f n (ns + 1) ((ns + 1) * (ns + 1))) → Below w.heap.size w W → RetP w (solK f n (ns + 1) ((ns + 1) * (ns + 1))) (.returned v) W) := Lib.hid (fun v W h hb => retP_rowL h hb)
  have HA : Hid (∀ p1 p2 k, allF f p1 p2 (k + 1) = (allF f p1 p2 k && fitB (f (k * 4)) (f (k * 4 + 1)) (f (k * 4 + 2)) (f (k * 4 + 3)) p1 p2)) := Lib.hid (fun _ _ _ => rfl)
  have HA0 : Hid (∀ p1 p2, allF f p1 p2 0 = true) := Lib.hid (fun _ _ => rfl)
  have hns : ns ≤ 12 := by omega
  clear hp hR hcl s1 s2
  go_enter Try.func66, Try.ntmps66
  go_wp2_with fail
  go_loopg [5, 6] (ns + 1) (fun g o x wr => ∃ (i : Nat) (v : Value), v = o ∧ i ≤ ns + 1 ∧ g = ns + 1 - i ∧ x = .int .i64 (i : Int) ∧ Below w.heap.size w wr ∧ Hid (RowL wr w.heap.size v (solK f n (ns + 1) (i * (ns + 1)))))
  case atStart => exact ⟨0, _, rfl, Nat.zero_le _, rfl, rfl, Below.refl _ _, Lib.hid (by rw [Nat.zero_mul, H0.out]; exact rowL_nil _ _)⟩
  case round =>
    obtain ⟨i, v, rfl, hi, hg, rfl, hB, hr⟩ := hrel
    rename World => wo
    have HGK := Lib.hid hg
    clear hg
    by_cases hlt : i < ns + 1
    · have d1 : (i : Int) ≤ (ns : Int) := by omega
      go_wp2_with fail
      go_loopg [5, 7] (ns + 1) (fun g o y wr => ∃ (j : Nat) (v : Value), v = o ∧ j ≤ ns + 1 ∧ g = ns + 1 - j ∧ y = .int .i64 (j : Int) ∧ Below w.heap.size w wr ∧ Hid (RowL wr w.heap.size v (solK f n (ns + 1) (i * (ns + 1) + j))))
      case atStart => exact ⟨0, _, rfl, Nat.zero_le _, rfl, rfl, hB, Lib.hid (by rw [Nat.add_zero]; exact hr.out)⟩
      case round =>
        clear hB hr
        rename Value => v0
        obtain ⟨j, v, rfl, hj, hg, rfl, hB, hr⟩ := hrel
        rename World => wi
        have HGJ := Lib.hid hg
        clear hg
        by_cases hlj : j < ns + 1
        · have d2 : (j : Int) ≤ (ns : Int) := by omega
          have hzB := hB.size
          go_wp2_with fail
          obtain ⟨Wp, hWp⟩ : ∃ Wp, Wp = (wi.alloc (.cells #[.int .i64 ((i : Int)), .int .i64 ((j : Int))] 53)) := ⟨_, rfl⟩
          rw [← hWp]
          have yWp0_0 : Wp.cell? ⟨wi.heap.size, 0, none⟩ = some (.int .i64 ((i : Int))) := by rw [hWp]; go_simp
          have yWp0_1 : Wp.cell? ⟨wi.heap.size, 1, none⟩ = some (.int .i64 ((j : Int))) := by rw [hWp]; go_simp
          have fWp0 : ∀ o, Wp.frozen? ⟨wi.heap.size, o, none⟩ = false := by intro o; rw [hWp]; (repeat rw [frozen?_alloc_cells]); simp [World.frozen?]
          have zWp0 : wi.heap.size < Wp.heap.size := by rw [hWp]; simp <;> omega
          have BWp : Below wi.heap.size wi Wp := by rw [hWp]; exact (Below.alloc (Below.refl _ _) (by simp <;> omega) _)
          have eWp : Hid (Wp.heap.size = wi.heap.size + 1) := Lib.hid (by rw [hWp]; simp)
          clear hWp
          have RA := Lib.hid (rowL_below hr.out BWp (Nat.le_refl _))
          have BA := hB.trans (BWp.mono hzB)
          clear hr fWp0 eWp hB BWp
          go_loopg [9, 27] n (fun g o y wr => ∃ k : Nat, k ≤ n ∧ g = n - k ∧ y = .int .i64 (k : Int) ∧ o = .bool (allF f (i : Int) (j : Int) k) ∧ Below Wp.heap.size Wp wr)
          case atStart => exact ⟨0, Nat.zero_le _, rfl, rfl, by rw [HA0.out], Below.refl _ _⟩
          case round =>
            obtain ⟨k, hk, hg, rfl, rfl, hB⟩ := hrel
            rename World => wk
            have HGC := Lib.hid hg
            clear hg
            have y0 := ((bcell hB).1 _ _ zWp0).trans yWp0_0
            have y1 := ((bcell hB).1 _ _ zWp0).trans yWp0_1
            have zy := Nat.lt_of_lt_of_le zWp0 hB.size
            have BB := BA.trans (hB.mono BA.size)
            have hzk := BB.size
            by_cases hlk : k < n
            · obtain ⟨b, off, rfl, hb, hcell⟩ := HR.out (by omega)
              obtain ⟨q0, q1, q2, q3⟩ := clue_read hb hcell BB hlk
              have hbo : b < wk.heap.size := by omega
              have K1 := Lib.hid (fun W => KF.out k hlk (i : Int) (j : Int) (by omega) (by omega) W)
              have HA1 := Lib.hid (HA.out (i : Int) (j : Int) k)
              clear hcell
              generalize f (k * 4) = n0 at *
              generalize f (k * 4 + 1) = n1 at *
              generalize f (k * 4 + 2) = n2 at *
              generalize f (k * 4 + 3) = n3 at *
              generalize fitB n0 n1 n2 n3 (i : Int) (j : Int) = q at *
              cases ha : allF f (i : Int) (j : Int) k
              · have HA2 := Lib.hid (show allF f (i : Int) (j : Int) (k + 1) = false from by rw [HA1.out, ha]; rfl)
                clear HA1 ha K1
                go_wp2_with fail
                obtain ⟨W1, hW1⟩ : ∃ W1, W1 = (wk.alloc (.cells #[.int .i64 n0, .int .i64 n1, .int .i64 n2, .int .i64 n3] 38)) := ⟨_, rfl⟩
                rw [← hW1]
                have yW10_0 : W1.cell? ⟨wk.heap.size, 0, none⟩ = some (.int .i64 n0) := by rw [hW1]; go_simp
                have yW10_1 : W1.cell? ⟨wk.heap.size, 1, none⟩ = some (.int .i64 n1) := by rw [hW1]; go_simp
                have yW10_2 : W1.cell? ⟨wk.heap.size, 2, none⟩ = some (.int .i64 n2) := by rw [hW1]; go_simp
                have yW10_3 : W1.cell? ⟨wk.heap.size, 3, none⟩ = some (.int .i64 n3) := by rw [hW1]; go_simp
                have fW10 : ∀ o, W1.frozen? ⟨wk.heap.size, o, none⟩ = false := by intro o; rw [hW1]; (repeat rw [frozen?_alloc_cells]); simp [World.frozen?]
                have zW10 : wk.heap.size < W1.heap.size := by rw [hW1]; simp <;> omega
                have BW1 : Below wk.heap.size wk W1 := by rw [hW1]; exact (Below.alloc (Below.refl _ _) (by simp <;> omega) _)
                have eW1 : Hid (W1.heap.size = wk.heap.size + 1) := Lib.hid (by rw [hW1]; simp)
                clear hW1
                have B1 := hB.trans (BW1.mono hB.size)
                clear BW1 fW10 eW1 zW10 yW10_0 yW10_1 yW10_2 yW10_3 q0 q1 q2 q3 y0 y1 hB BB
                go_roundg (n - (k + 1))
                case measure => have := HGC.out; omega
                case rel => exact ⟨k + 1, by omega, rfl, by go_num, by rw [HA2.out], B1⟩
              · have HA2 := Lib.hid (show allF f (i : Int) (j : Int) (k + 1) = q from by rw [HA1.out, ha]; rfl)
                clear HA1 ha
                go_wp2_with fail
                obtain ⟨W1, hW1⟩ : ∃ W1, W1 = (wk.alloc (.cells #[.int .i64 n0, .int .i64 n1, .int .i64 n2, .int .i64 n3] 38)) := ⟨_, rfl⟩
                rw [← hW1]
                have yW10_0 : W1.cell? ⟨wk.heap.size, 0, none⟩ = some (.int .i64 n0) := by rw [hW1]; go_simp
                have yW10_1 : W1.cell? ⟨wk.heap.size, 1, none⟩ = some (.int .i64 n1) := by rw [hW1]; go_simp
                have yW10_2 : W1.cell? ⟨wk.heap.size, 2, none⟩ = some (.int .i64 n2) := by rw [hW1]; go_simp
                have yW10_3 : W1.cell? ⟨wk.heap.size, 3, none⟩ = some (.int .i64 n3) := by rw [hW1]; go_simp
                have fW10 : ∀ o, W1.frozen? ⟨wk.heap.size, o, none⟩ = false := by intro o; rw [hW1]; (repeat rw [frozen?_alloc_cells]); simp [World.frozen?]
                have zW10 : wk.heap.size < W1.heap.size := by rw [hW1]; simp <;> omega
                have BW1 : Below wk.heap.size wk W1 := by rw [hW1]; exact (Below.alloc (Below.refl _ _) (by simp <;> omega) _)
                have eW1 : Hid (W1.heap.size = wk.heap.size + 1) := Lib.hid (by rw [hW1]; simp)
                clear hW1
                have B1 := hB.trans (BW1.mono hB.size)
                refine (K1.out _).mono ?_; rintro e w2 ⟨rfl, hb2⟩
                have B2 := B1.trans (hb2.mono B1.size)
                clear hb2 BW1 fW10 eW1 zW10 yW10_0 yW10_1 yW10_2 yW10_3 q0 q1 q2 q3 y0 y1 hB BB B1 K1
                go_wp2_with fail
                go_roundg (n - (k + 1))
                case measure => have := HGC.out; omega
                case rel => exact ⟨k + 1, by omega, rfl, by go_num, by rw [HA2.out], B2⟩
            · obtain rfl : k = n := by omega
              have RB := Lib.hid (rowL_below RA.out hB (Nat.le_refl _))
              have hm := HL.out i j (by omega) (by omega)
              have hX := HX.out i j hlj
              have hY := HYes.out (i * (ns + 1) + j)
              have hO := HNo.out (i * (ns + 1) + j)
              rw [hX] at hY hO
              have HY := Lib.hid hY
              have HO := Lib.hid hO
              have HAS : Hid (i * (ns + 1) + (j + 1) = i * (ns + 1) + j + 1) := Lib.hid (Nat.add_assoc _ _ _).symm
              clear hX hY hO RA yWp0_0 yWp0_1 zWp0 hB
              generalize i * (ns + 1) + j = q at *
              cases ha : allF f (i : Int) (j : Int) k
              · have hN2 := Lib.hid (HO.out ha)
                clear ha HY HO y0 y1
                go_wp2_with fail
                go_roundg (ns + 1 - (j + 1))
                case measure => have := HGJ.out; omega
                case rel => exact ⟨j + 1, v, rfl, by omega, rfl, by go_num, BB, Lib.hid (by rw [HAS.out, hN2.out]; exact RB.out)⟩
              · have hN2 := Lib.hid (HY.out ha)
                clear ha HY HO
                generalize solK f k (ns + 1) q = m at *
                go_wp2_with (at_builtin; go_loud (refine wpList_append_own _ rfl (.tmp 39) (.tmp 41) 61 rfl w.heap.size 53 i0 (.agg #[.int .i64 0, .int .i64 0]) 2 16 Try.underlying61 HI.out.1 HI.out.2.1 HI.out.2.2.1 HI.out.2.2.2 rfl (by decide) _ m.length (flat m) rfl (rowL_alloc RB.out _) ⟨wk.heap.size, 0, none⟩ 1 1 [.int .i64 (i : Int), .int .i64 (j : Int)] rfl rfl (two_cells (by go_simp) (by go_simp)) (two_one _ _) (by unfold maxLen; omega) (by omega) (by simp; omega) ?_))
                intro v' w2 hown hgr _
                have RC := rowL_push (Below.alloc BB hzk _) (rowL_alloc RB.out _) hown hgr
                have R2 := Lib.hid RC.1
                have B2 := RC.2
                clear RC hown hgr BB RB
                go_wp2_with fail
                go_roundg (ns + 1 - (j + 1))
                case measure => have := HGJ.out; omega
                case rel => exact ⟨j + 1, _, rfl, by omega, rfl, by go_num, B2, Lib.hid (by rw [HAS.out, hN2.out]; exact R2.out)⟩
        · obtain rfl : j = ns + 1 := by omega
          have d2 : ¬ ((ns + 1 : Nat) : Int) ≤ (ns : Int) := by omega
          have hr2 := Lib.hid (show RowL wi w.heap.size v (solK f n (ns + 1) ((i + 1) * (ns + 1))) from by rw [← HS.out]; exact hr.out)
          clear hr
          go_wp2_with fail
          go_roundg (ns + 1 - (i + 1))
          case measure => have := HGK.out; omega
          case rel => exact ⟨i + 1, _, rfl, by omega, rfl, by go_num, hB, hr2⟩
    · obtain rfl : i = ns + 1 := by omega
      have d1 : ¬ ((ns + 1 : Nat) : Int) ≤ (ns : Int) := by omega
      go_wp2_with fail
      go_ret
      exact HN.out _ _ hr.out hB
end Go.Proofs.Ytacabmbajadbgaa
