/- rings: is it around, the program -/
import Derived.Test.YtchdpcndhgjkpaaRi1
import Derived.Test.YtchdpcndhgjkpaaMl
import Derived.Test.YtchdpcndhgjkpaaSax
import Derived.Deep.QuietTactic
import Derived.BigQuiet
import Derived.BigRegion
namespace Go.Proofs.Ytchdpcndhgjkpaa
open Go.ChangeShapes Go.WideShapes Go.ChangeAt Go.RowKit Go.Joins
set_option linter.unusedVariables false
set_option linter.unusedSimpArgs false
set_option maxRecDepth 4000
/-- around: the points come back, the sum is right -/
def arI (F : Nat → Int) (c : Nat) : Bool := decide (dmk F c c = (1, 0)) && decide (dmk F c (c + 1) = (0, 1)) && decide (sN F c = 3 * (c : Int) - 12)
theorem arI_F {F : Nat → Int} {c : Nat} (h : ¬ (dmk F c c = (1, 0) ∧ dmk F c (c + 1) = (0, 1))) : arI F c = false := by
  unfold arI
  by_cases h1 : dmk F c c = (1, 0)
  · have h2 : ¬ dmk F c (c + 1) = (0, 1) := fun h2 => h ⟨h1, h2⟩
    simp [h2]
  · simp [h1]
theorem arI_T {F : Nat → Int} {c : Nat} (h1 : dmk F c c = (1, 0)) (h2 : dmk F c (c + 1) = (0, 1)) : arI F c = decide (sN F c = 3 * (c : Int) - 12) := by
  unfold arI; simp [h1, h2]
set_option maxHeartbeats 2000000 in
theorem isAround_any (F : Nat → Int) (c : Nat) (w : World) (h3 : 3 ≤ c) (hc : c ≤ 9) (h6 : Six F c) :
    Calls Try.prog 52 #[rv F c] w fun e w' => e = .returned (.bool (arI F c)) ∧ Below w.heap.size w w' := by
  have hN := Lib.hid (rg_new w F c)
  have hB := Lib.hid (Below.alloc (Below.refl w.heap.size w) (Nat.le_refl _) (.cells #[.int .i64 (F 0), .int .i64 (F 1), .int .i64 (F 2), .int .i64 (F 3), .int .i64 (F 4), .int .i64 (F 5), .int .i64 (F 6), .int .i64 (F 7), .int .i64 (F 8), .int .i64 c] 62))
  have KP := Lib.hid (fun W => pegs_any F c W h3 hc h6)
  have KG := Lib.hid (fun W => greatestSum_any F c c W (Nat.le_refl _) hc h6)
  have KM := Lib.hid (fun W => sumOfRing_any c W hc)
  rw [show ((c : Int) - c) * 2 + sN F c = sN F c by omega] at KG
  have HF := Lib.hid (fun h => arI_F (F := F) (c := c) h)
  have HT := Lib.hid (fun h1 h2 => arI_T (F := F) (c := c) h1 h2)
  generalize arI F c = ans at *
  generalize sN F c = sm at *
  unfold rv at KP KG ⊢
  clear h6
  go_enter Try.func52, Try.ntmps52
  go_wp2_with fail
  have hB0 := hB.out
  have hN0 := hN.out
  clear hN hB
  generalize (w.alloc (.cells #[.int .i64 (F 0), .int .i64 (F 1), .int .i64 (F 2), .int .i64 (F 3), .int .i64 (F 4), .int .i64 (F 5), .int .i64 (F 6), .int .i64 (F 7), .int .i64 (F 8), .int .i64 c] 62)) = w1 at *
  refine (KP.out w1).mono ?_; rintro e w2 ⟨v, rfl, hb2, hrow⟩
  have B2 := hB0.trans (hb2.mono hB0.size)
  have RW := Lib.hid (rg_below hN0 hb2)
  obtain ⟨gv, cap, rfl, hgv, hcell⟩ := row_cells hrow (by omega)
  obtain ⟨y0, y1⟩ := hcell 0 (by omega)
  obtain ⟨y2, y3⟩ := hcell 1 (by omega)
  obtain ⟨y4, y5⟩ := hcell c (by omega)
  obtain ⟨y6, y7⟩ := hcell (c + 1) (by omega)
  obtain ⟨p1, p2, hp⟩ : ∃ p1 p2, dmk F c c = (p1, p2) := ⟨_, _, rfl⟩
  obtain ⟨q1, q2, hq⟩ : ∃ q1 q2, dmk F c (c + 1) = (q1, q2) := ⟨_, _, rfl⟩
  rw [show dmk F c 0 = (1, 0) from rfl] at y0 y1
  rw [show dmk F c 1 = (0, 1) from rfl] at y2 y3
  rw [hp] at y4 y5 HF HT
  rw [hq] at y6 y7 HF HT
  simp only [Nat.zero_mul, Nat.one_mul, Nat.zero_add] at y0 y1 y2 y3 y4 y5 y6 y7
  obtain ⟨g, hg⟩ : ∃ g, g = w.heap.size := ⟨_, rfl⟩
  rw [← hg] at RW ⊢
  clear hg hp hq hcell hrow KP hB0 hN0 hb2
  have x9 := rg_count RW.out
  have zg := rg_z RW.out
  have c1 : (c : Int) < (c : Int) + 2 := by omega
  have c2 : (c : Int) + 1 < (c : Int) + 2 := by omega
  have c3 : IntKind.i64.wrap ((c : Int) + 1) = (c : Int) + 1 := IntWalk.i64_in _ (by omega)
  have c4 : ((c : Int) + 1).toNat = c + 1 := by omega
  have c5 : (0 : Int) ≤ (c : Int) + 1 := by omega
  have c6 : (0 : Int) < (c : Int) + 2 := by omega
  have c7 : (1 : Int) < (c : Int) + 2 := by omega
  by_cases ht : (p1 = 1 ∧ p2 = 0) ∧ (q1 = 0 ∧ q2 = 1)
  · obtain ⟨⟨rfl, rfl⟩, ⟨rfl, rfl⟩⟩ := ht
    have HA := Lib.hid (HT.out rfl rfl)
    clear HF HT
    go_wp2_with fail
    go_quiet (fail)
    have hd : Below w2.heap.size w2 (w2.drewN nq) := below_dr (Below.refl _ _) _
    have B5 := B2.trans (hd.mono B2.size)
    have R5 := rg_below RW.out hd
    generalize w2.drewN nq = w5 at *
    clear hd RW x9 y0 y1 y2 y3 y4 y5 y6 y7 hgv zg
    have z0 := rg_cell R5 0 (by omega)
    have z1 := rg_cell R5 1 (by omega)
    have z2 := rg_cell R5 2 (by omega)
    have z3 := rg_cell R5 3 (by omega)
    have z4 := rg_cell R5 4 (by omega)
    have z5 := rg_cell R5 5 (by omega)
    have z6 := rg_cell R5 6 (by omega)
    have z7 := rg_cell R5 7 (by omega)
    have z8 := rg_cell R5 8 (by omega)
    have x9 := rg_count R5
    have zg := rg_z R5
    clear R5
    go_wp2_with fail
    refine wp_region_B (fun W => Below w5.heap.size w5 W) (by kernel_rfl) (by repeat (first | exact Below.refl _ _ | apply Below.drew)) ?_
    first | refine wpB_skip 0 rfl (by kernel_rfl) (by kernel_rfl) (by kernel_rfl) (by rfl) ?_ | (refine wpB_text 0 (v := ?_) rfl (by kernel_rfl) (by kernel_rfl) (by kernel_rfl) (by rfl) (fun W hW => ?_) ?_; rotate_left; (have k1 := hW; obtain ⟨hc1, hf1⟩ := bcell k1; go_simp; refine comes_v ?_; exact k1))
    (try simp only [Act.put, List.setIfInBounds_toArray, List.set_cons_zero, List.set_cons_succ])
    first | refine wpB_skip 1 rfl (by kernel_rfl) (by kernel_rfl) (by kernel_rfl) (by rfl) ?_ | (refine wpB_text 1 (v := ?_) rfl (by kernel_rfl) (by kernel_rfl) (by kernel_rfl) (by rfl) (fun W hW => ?_) ?_; rotate_left; (have k1 := hW; obtain ⟨hc1, hf1⟩ := bcell k1; go_simp; refine comes_v ?_; exact k1))
    (try simp only [Act.put, List.setIfInBounds_toArray, List.set_cons_zero, List.set_cons_succ])
    first | refine wpB_skip 2 rfl (by kernel_rfl) (by kernel_rfl) (by kernel_rfl) (by rfl) ?_ | (refine wpB_text 2 (v := ?_) rfl (by kernel_rfl) (by kernel_rfl) (by kernel_rfl) (by rfl) (fun W hW => ?_) ?_; rotate_left; (have k1 := hW; obtain ⟨hc1, hf1⟩ := bcell k1; go_simp; refine comes_v ?_; exact k1))
    (try simp only [Act.put, List.setIfInBounds_toArray, List.set_cons_zero, List.set_cons_succ])
    first | refine wpB_skip 3 rfl (by kernel_rfl) (by kernel_rfl) (by kernel_rfl) (by rfl) ?_ | (refine wpB_text 3 (v := ?_) rfl (by kernel_rfl) (by kernel_rfl) (by kernel_rfl) (by rfl) (fun W hW => ?_) ?_; rotate_left; (have k1 := hW; obtain ⟨hc1, hf1⟩ := bcell k1; go_simp; refine comes_v ?_; exact k1))
    (try simp only [Act.put, List.setIfInBounds_toArray, List.set_cons_zero, List.set_cons_succ])
    first | refine wpB_skip 4 rfl (by kernel_rfl) (by kernel_rfl) (by kernel_rfl) (by rfl) ?_ | (refine wpB_text 4 (v := ?_) rfl (by kernel_rfl) (by kernel_rfl) (by kernel_rfl) (by rfl) (fun W hW => ?_) ?_; rotate_left; (have k1 := hW; obtain ⟨hc1, hf1⟩ := bcell k1; go_simp; refine comes_v ?_; exact k1))
    (try simp only [Act.put, List.setIfInBounds_toArray, List.set_cons_zero, List.set_cons_succ])
    first | refine wpB_skip 5 rfl (by kernel_rfl) (by kernel_rfl) (by kernel_rfl) (by rfl) ?_ | (refine wpB_text 5 (v := .int .i64 sm) rfl (by kernel_rfl) (by kernel_rfl) (by kernel_rfl) (by rfl) (fun W hW => ?_) ?_; (have k1 := hW; obtain ⟨hc1, hf1⟩ := bcell k1; go_simp; exact comes_c ( KG.out _) (fun wn hbn => bt_keep k1 hbn)))
    (try simp only [Act.put, List.setIfInBounds_toArray, List.set_cons_zero, List.set_cons_succ])
    first | refine wpB_skip 6 rfl (by kernel_rfl) (by kernel_rfl) (by kernel_rfl) (by rfl) ?_ | (refine wpB_text 6 (v := ?_) rfl (by kernel_rfl) (by kernel_rfl) (by kernel_rfl) (by rfl) (fun W hW => ?_) ?_; rotate_left; (have k1 := hW; obtain ⟨hc1, hf1⟩ := bcell k1; go_simp; refine comes_v ?_; exact k1))
    (try simp only [Act.put, List.setIfInBounds_toArray, List.set_cons_zero, List.set_cons_succ])
    first | refine wpB_skip 7 rfl (by kernel_rfl) (by kernel_rfl) (by kernel_rfl) (by rfl) ?_ | (refine wpB_text 7 (v := ?_) rfl (by kernel_rfl) (by kernel_rfl) (by kernel_rfl) (by rfl) (fun W hW => ?_) ?_; rotate_left; (have k1 := hW; obtain ⟨hc1, hf1⟩ := bcell k1; go_simp; refine comes_v ?_; exact k1))
    (try simp only [Act.put, List.setIfInBounds_toArray, List.set_cons_zero, List.set_cons_succ])
    first | refine wpB_skip 8 rfl (by kernel_rfl) (by kernel_rfl) (by kernel_rfl) (by rfl) ?_ | (refine wpB_text 8 (v := .int .i64 (3 * (c : Int) - 12)) rfl (by kernel_rfl) (by kernel_rfl) (by kernel_rfl) (by rfl) (fun W hW => ?_) ?_; (have k1 := hW; obtain ⟨hc1, hf1⟩ := bcell k1; go_simp; exact comes_c ( KM.out _) (fun wn hbn => bt_keep k1 hbn)))
    (try simp only [Act.put, List.setIfInBounds_toArray, List.set_cons_zero, List.set_cons_succ])
    first | refine wpB_skip 9 rfl (by kernel_rfl) (by kernel_rfl) (by kernel_rfl) (by rfl) ?_ | (refine wpB_text 9 (v := ?_) rfl (by kernel_rfl) (by kernel_rfl) (by kernel_rfl) (by rfl) (fun W hW => ?_) ?_; rotate_left; (have k1 := hW; obtain ⟨hc1, hf1⟩ := bcell k1; go_simp; refine comes_v ?_; exact k1))
    (try simp only [Act.put, List.setIfInBounds_toArray, List.set_cons_zero, List.set_cons_succ])
    first | refine wpB_skip 10 rfl (by kernel_rfl) (by kernel_rfl) (by kernel_rfl) (by rfl) ?_ | (refine wpB_text 10 (v := ?_) rfl (by kernel_rfl) (by kernel_rfl) (by kernel_rfl) (by rfl) (fun W hW => ?_) ?_; rotate_left; (have k1 := hW; obtain ⟨hc1, hf1⟩ := bcell k1; go_simp; refine comes_v ?_; exact k1))
    (try simp only [Act.put, List.setIfInBounds_toArray, List.set_cons_zero, List.set_cons_succ])
    first | refine wpB_skip 11 rfl (by kernel_rfl) (by kernel_rfl) (by kernel_rfl) (by rfl) ?_ | (refine wpB_text 11 (v := ?_) rfl (by kernel_rfl) (by kernel_rfl) (by kernel_rfl) (by rfl) (fun W hW => ?_) ?_; rotate_left; (have k1 := hW; obtain ⟨hc1, hf1⟩ := bcell k1; go_simp; refine comes_v ?_; exact k1))
    (try simp only [Act.put, List.setIfInBounds_toArray, List.set_cons_zero, List.set_cons_succ])
    refine wpB_done (by kernel_rfl) ?_ _
    intro W hW; have k1 := hW
    have B6 := B5.trans (k1.mono B5.size)
    clear k1
    go_wp2_with fail
    go_ret
    exact ⟨ret_bool (by rw [HA.out]; rfl), B6⟩
  · have hA := HF.out (fun h => ht ⟨by have := congrArg Prod.fst h.1; have := congrArg Prod.snd h.1; simp_all, by have := congrArg Prod.fst h.2; have := congrArg Prod.snd h.2; simp_all⟩)
    subst hA
    clear HF HT KG KM
    by_cases u1 : p1 = 1
    · by_cases u2 : p2 = 0
      · subst u1
        subst u2
        by_cases u3 : q1 = 0
        · have u4 : ¬ q2 = 1 := fun h => ht ⟨⟨rfl, rfl⟩, u3, h⟩
          subst u3
          clear ht
          go_wp2_with fail
          go_quiet (fail)
          go_wp2_with fail
          go_quiet (fail)
          go_wp2_with fail
          go_ret
          exact ⟨rfl, by repeat (first | exact B2 | apply Below.drew | apply below_dr)⟩
        · clear ht
          go_wp2_with fail
          go_quiet (fail)
          go_wp2_with fail
          go_quiet (fail)
          go_wp2_with fail
          go_ret
          exact ⟨rfl, by repeat (first | exact B2 | apply Below.drew | apply below_dr)⟩
      · subst u1
        clear ht
        go_wp2_with fail
        go_quiet (fail)
        go_wp2_with fail
        go_quiet (fail)
        go_wp2_with fail
        go_ret
        exact ⟨rfl, by repeat (first | exact B2 | apply Below.drew | apply below_dr)⟩
    · clear ht
      go_wp2_with fail
      go_quiet (fail)
      go_wp2_with fail
      go_quiet (fail)
      go_wp2_with fail
      go_ret
      exact ⟨rfl, by repeat (first | exact B2 | apply Below.drew | apply below_dr)⟩
end Go.Proofs.Ytchdpcndhgjkpaa
