/- joined: Qg T U Hm V W X Ta Rt -/
import Derived.Test.YtgjegildeejghaaZGrowThree1
import Derived.StillTailTactics
import Derived.StillTail
/- contract: the model's test of a polygon -/
namespace Go.Proofs.Ytgjegildeejghaa
open Go.ChangeShapes Go.WideShapes Go.ChangeAt Go.RowKit Go.Joins
set_option linter.unusedVariables false
set_option linter.unusedSimpArgs false
set_option maxRecDepth 4000
set_option maxRecDepth 100000 in
set_option maxHeartbeats 4000000 in
theorem pgGood_any (A : Option Addr) (c : Nat) (l : List (Int × Int)) (w : World) (hn : l.length ≤ 1048576) (hcap : l.length ≤ c) (hc2 : c ≤ 9223372036854775807) (hR : Rd w w.heap.size A l) :
    Calls Try.prog 84 #[.slice A l.length c] w fun e w' => e = .returned (.bool (goodB l)) ∧ Below w.heap.size w w' := by
  by_cases hfew : 3 ≤ l.length ∧ l.length ≤ 10
  · have HR := Lib.hid hR
    clear hR
    have hL1 : ((3 : Int) ≤ (l.length : Int)) := by omega
    have hL2 : ((l.length : Int) ≤ 10) := by omega
    have HG := Lib.hid (fun h => goodB_false (l := l) h)
    have HT := Lib.hid (fun h => goodB_true (l := l) h)
    clear hfew
    have hrd : ∀ i, i < l.length → ∃ b off, A = some ⟨b, off, none⟩ ∧ b < w.heap.size ∧ ∀ i, i < l.length → w.cell? ⟨b, off + i * 2, none⟩ = some (.int .i64 (vx l i).1) ∧ w.cell? ⟨b, off + i * 2 + 1, none⟩ = some (.int .i64 (vx l i).2) := fun i hi => by
      obtain ⟨b, off, e, hb, hc⟩ := HR.out (by omega)
      exact ⟨b, off, e, hb, fun i hi => hc i _ (vx_get hi)⟩
    obtain ⟨b, off, rfl, hb, hcell⟩ := hrd 0 (by omega)
    have HC := Lib.hid hcell
    clear hrd hcell HR
    generalize hN : l.length = n at *
    have HN := Lib.hid hN
    clear hN
    go_enter Try.func84, Try.ntmps84
    go_wp2_with fail
    refine (l1In_any _ _ _ _).mono ?_; rintro e _ ⟨rfl, rfl⟩
    go_wp2_with fail
    go_loopg [19] n (fun g i wr => ∃ k : Nat, k ≤ n ∧ g = n - k ∧ i = .int .i64 k ∧ Below w.heap.size w wr ∧ Hid (Fine l k))
    case atStart => exact ⟨0, Nat.zero_le _, rfl, rfl, Below.refl _ _, Lib.hid (fun i h => absurd h (Nat.not_lt_zero _))⟩
    case round =>
      obtain ⟨k, hk, hg, rfl, hB, hF⟩ := hrel
      rename World => wo
      have HGK := Lib.hid hg
      clear hg
      by_cases hlt : k < n
      · have hq1 : wo.cell? ⟨b, off + k * 2, none⟩ = some (.int .i64 (vx l k).1) := (hB.cell (p := ⟨b, off + k * 2, none⟩) hb).trans (HC.out k hlt).1
        have hq2 : wo.cell? ⟨b, off + k * 2 + 1, none⟩ = some (.int .i64 (vx l k).2) := (hB.cell (p := ⟨b, off + k * 2 + 1, none⟩) hb).trans (HC.out k hlt).2
        have K1 := Lib.hid (fun W => pgIs_any (vx l k).1 (vx l k).2 W)
        have hzB := hB.size
        by_cases hpg : isPegB (vx l k).1 (vx l k).2 = true
        · rw [hpg] at K1
          have HPG := Lib.hid hpg
          clear hpg
          go_wp2_with fail
          refine (K1.out _).mono ?_; rintro e w1 ⟨rfl, hb1⟩
          have B1 := (Below.alloc hB hzB (.cells #[.int .i64 (vx l k).1, .int .i64 (vx l k).2] 46)).trans (hb1.mono (by simp; omega))
          have hz1 : wo.heap.size < w1.heap.size := by (have := hb1.size; simp at this; omega)
          have x1 : w1.cell? ⟨wo.heap.size, 0, none⟩ = some (.int .i64 (vx l k).1) := ((bcell hb1).1 _ _ (by simp)).trans (by go_simp)
          have x2 : w1.cell? ⟨wo.heap.size, 1, none⟩ = some (.int .i64 (vx l k).2) := ((bcell hb1).1 _ _ (by simp)).trans (by go_simp)
          clear hq1 hq2 K1 hb1
          go_wp2_with fail
          go_loopg [31] k (fun g2 j wi => ∃ m : Nat, m ≤ k ∧ g2 = k - m ∧ j = .int .i64 m ∧ Below w.heap.size w wi ∧ wo.heap.size < wi.heap.size ∧ wi.cell? ⟨wo.heap.size, 0, none⟩ = some (.int .i64 (vx l k).1) ∧ wi.cell? ⟨wo.heap.size, 1, none⟩ = some (.int .i64 (vx l k).2) ∧ Hid (∀ j, j < m → vx l k ≠ vx l j))
          case atStart => exact ⟨0, Nat.zero_le _, rfl, rfl, B1, hz1, x1, x2, Lib.hid (fun j h => absurd h (Nat.not_lt_zero _))⟩
          case round =>
            obtain ⟨m, hm, hg2, rfl, hBi, hzi, y1, y2, hD⟩ := hrel
            have HGM := Lib.hid hg2
            clear hg2 x1 x2 B1 hz1
            by_cases hlm : m < k
            · obtain ⟨q1, q2, hqe, hq1, hq2⟩ : ∃ q1 q2, vx l m = (q1, q2) ∧ wr.cell? ⟨b, off + m * 2, none⟩ = some (.int .i64 q1) ∧ wr.cell? ⟨b, off + m * 2 + 1, none⟩ = some (.int .i64 q2) :=
                ⟨(vx l m).1, (vx l m).2, rfl, (hBi.cell (p := ⟨b, off + m * 2, none⟩) hb).trans (HC.out m (by omega)).1, (hBi.cell (p := ⟨b, off + m * 2 + 1, none⟩) hb).trans (HC.out m (by omega)).2⟩
              have HQE := Lib.hid hqe
              clear hqe
              by_cases heq : (vx l k).1 = q1 ∧ (vx l k).2 = q2
              · have hng : Hid (goodB l = false) := Lib.hid (HG.out (fun h => h.diff k m hlm (by have := HN.out; omega) (by rw [HQE.out]; exact Prod.ext heq.1 heq.2)))
                obtain ⟨rfl, rfl⟩ := heq
                have B2 := Below.alloc hBi hBi.size (.cells #[.int .i64 (vx l k).1, .int .i64 (vx l k).2] 46)
                go_wp2_with fail
                go_ret
                exact ⟨ret_bool hng.out.symm, B2⟩
              · have hD2 : Hid (∀ j, j < m + 1 → vx l k ≠ vx l j) := Lib.hid (fun j hj => by
                  by_cases hjm : j = m
                  · subst hjm; intro e; rw [HQE.out] at e; exact heq ⟨by rw [e], by rw [e]⟩
                  · exact hD.out j (by omega))
                have B2 := Below.alloc hBi hBi.size (.cells #[.int .i64 q1, .int .i64 q2] 46)
                have z2 : wo.heap.size < (wr.alloc (.cells #[.int .i64 q1, .int .i64 q2] 46)).heap.size := by simp; omega
                have Y3 := Lib.hid ((World.cell?_alloc_lt wr (.cells #[.int .i64 q1, .int .i64 q2] 46) ⟨wo.heap.size, 0, none⟩ hzi).trans y1)
                have Y4 := Lib.hid ((World.cell?_alloc_lt wr (.cells #[.int .i64 q1, .int .i64 q2] 46) ⟨wo.heap.size, 1, none⟩ hzi).trans y2)
                clear hD
                by_cases h1 : (vx l k).1 = q1
                · have h2 : ¬ (vx l k).2 = q2 := fun h => heq ⟨h1, h⟩
                  clear heq
                  subst h1
                  go_wp2_with fail
                  go_roundg (k - (m + 1))
                  case measure => have := HGM.out; omega
                  case rel => exact ⟨m + 1, by omega, rfl, by go_num, B2, z2, Y3.out, Y4.out, hD2⟩
                · clear heq
                  go_wp2_with fail
                  go_roundg (k - (m + 1))
                  case measure => have := HGM.out; omega
                  case rel => exact ⟨m + 1, by omega, rfl, by go_num, B2, z2, Y3.out, Y4.out, hD2⟩
            · have hmk : m = k := by omega
              have hF2 : Hid (Fine l (k + 1)) := Lib.hid (fun i hi => by
                by_cases hik : i = k
                · subst hik; exact ⟨HPG.out, fun j hj => hD.out j (by omega)⟩
                · exact hF.out i (by omega))
              clear hD hF
              go_wp2_with fail
              go_roundg (n - (k + 1))
              case measure => have := HGK.out; omega
              case rel => exact ⟨k + 1, by omega, rfl, by go_num, hBi, hF2⟩
        · have hpf : isPegB (vx l k).1 (vx l k).2 = false := by simpa using hpg
          rw [hpf] at K1
          have hng : Hid (goodB l = false) := Lib.hid (HG.out (fun h => hpg (h.pegs k (by have := HN.out; omega))))
          clear hpg hpf
          go_wp2_with fail
          refine (K1.out _).mono ?_; rintro e w1 ⟨rfl, hb1⟩
          have B1 := (Below.alloc hB hzB (.cells #[.int .i64 (vx l k).1, .int .i64 (vx l k).2] 46)).trans (hb1.mono (by simp; omega))
          go_wp2_with fail
          go_ret
          exact ⟨ret_bool hng.out.symm, B1⟩
      · have hkn : n = k := by omega
        subst hkn
        have HF := hF
        clear hF HGK hlt hk HG
        have HG := Lib.hid (fun h => goodB_false (l := l) h)
        go_wp2_with fail
        go_loopg [42] n (fun g i wr => ∃ k : Nat, k ≤ n ∧ g = n - k ∧ i = .int .i64 k ∧ Below w.heap.size w wr ∧ Hid (Apart l k))
        case atStart => exact ⟨0, Nat.zero_le _, rfl, rfl, hB, Lib.hid (fun i h => absurd h (Nat.not_lt_zero _))⟩
        case round =>
          clear hB
          obtain ⟨k, hk, hg, rfl, hB, hA⟩ := hrel
          rename World => wo
          have HGK := Lib.hid hg
          clear hg
          by_cases hlt : k < n
          · have m1 : (k + 1) % n < n := Nat.mod_lt _ (by omega)
            have m2 : (k + 2) % n < n := Nat.mod_lt _ (by omega)
            have p1 : wo.cell? ⟨b, off + k * 2, none⟩ = some (.int .i64 (vx l k).1) := (hB.cell (p := ⟨b, off + k * 2, none⟩) hb).trans (HC.out k hlt).1
            have p2 : wo.cell? ⟨b, off + k * 2 + 1, none⟩ = some (.int .i64 (vx l k).2) := (hB.cell (p := ⟨b, off + k * 2 + 1, none⟩) hb).trans (HC.out k hlt).2
            have p3 : wo.cell? ⟨b, off + (k + 1) % n * 2, none⟩ = some (.int .i64 (vx l ((k + 1) % n)).1) := (hB.cell (p := ⟨b, off + (k + 1) % n * 2, none⟩) hb).trans (HC.out _ m1).1
            have p4 : wo.cell? ⟨b, off + (k + 1) % n * 2 + 1, none⟩ = some (.int .i64 (vx l ((k + 1) % n)).2) := (hB.cell (p := ⟨b, off + (k + 1) % n * 2 + 1, none⟩) hb).trans (HC.out _ m1).2
            have hzB := hB.size
            have hbo : b < wo.heap.size := by omega
            have i1 : (0 : Int) ≤ ((k : Int) + 1) % (n : Int) := Int.emod_nonneg _ (by omega)
            have i2 : ((k : Int) + 1) % (n : Int) < (n : Int) := Int.emod_lt_of_pos _ (by omega)
            have kp : ∀ W W', (Below w.heap.size w W ∧ wo.heap.size + 1 < W.heap.size ∧ W.cell? ⟨wo.heap.size, 0, none⟩ = some (.int .i64 (vx l k).1) ∧ W.cell? ⟨wo.heap.size, 1, none⟩ = some (.int .i64 (vx l k).2) ∧ W.cell? ⟨wo.heap.size + 1, 0, none⟩ = some (.int .i64 (vx l ((k + 1) % n)).1) ∧ W.cell? ⟨wo.heap.size + 1, 1, none⟩ = some (.int .i64 (vx l ((k + 1) % n)).2)) → Below W.heap.size W W' → (Below w.heap.size w W' ∧ wo.heap.size + 1 < W'.heap.size ∧ W'.cell? ⟨wo.heap.size, 0, none⟩ = some (.int .i64 (vx l k).1) ∧ W'.cell? ⟨wo.heap.size, 1, none⟩ = some (.int .i64 (vx l k).2) ∧ W'.cell? ⟨wo.heap.size + 1, 0, none⟩ = some (.int .i64 (vx l ((k + 1) % n)).1) ∧ W'.cell? ⟨wo.heap.size + 1, 1, none⟩ = some (.int .i64 (vx l ((k + 1) % n)).2)) := fun W W' h hb => by
              obtain ⟨h1, h2, h3, h4, h5, h6⟩ := h
              have hc := (bcell hb).1
              have hz := hb.size
              exact ⟨h1.trans (hb.mono h1.size), by omega, by rw [hc _ _ (by omega), h3], by rw [hc _ _ (by omega), h4], by rw [hc _ _ (by omega), h5], by rw [hc _ _ (by omega), h6]⟩
            have KP := Lib.hid kp
            clear kp
            have bx : (Below w.heap.size w ((wo.alloc (.cells #[.int .i64 (vx l k).1, .int .i64 (vx l k).2] 46)).alloc (.cells #[.int .i64 (vx l ((k + 1) % n)).1, .int .i64 (vx l ((k + 1) % n)).2] 46)) ∧ wo.heap.size + 1 < ((wo.alloc (.cells #[.int .i64 (vx l k).1, .int .i64 (vx l k).2] 46)).alloc (.cells #[.int .i64 (vx l ((k + 1) % n)).1, .int .i64 (vx l ((k + 1) % n)).2] 46)).heap.size ∧ ((wo.alloc (.cells #[.int .i64 (vx l k).1, .int .i64 (vx l k).2] 46)).alloc (.cells #[.int .i64 (vx l ((k + 1) % n)).1, .int .i64 (vx l ((k + 1) % n)).2] 46)).cell? ⟨wo.heap.size, 0, none⟩ = some (.int .i64 (vx l k).1) ∧ ((wo.alloc (.cells #[.int .i64 (vx l k).1, .int .i64 (vx l k).2] 46)).alloc (.cells #[.int .i64 (vx l ((k + 1) % n)).1, .int .i64 (vx l ((k + 1) % n)).2] 46)).cell? ⟨wo.heap.size, 1, none⟩ = some (.int .i64 (vx l k).2) ∧ ((wo.alloc (.cells #[.int .i64 (vx l k).1, .int .i64 (vx l k).2] 46)).alloc (.cells #[.int .i64 (vx l ((k + 1) % n)).1, .int .i64 (vx l ((k + 1) % n)).2] 46)).cell? ⟨wo.heap.size + 1, 0, none⟩ = some (.int .i64 (vx l ((k + 1) % n)).1) ∧ ((wo.alloc (.cells #[.int .i64 (vx l k).1, .int .i64 (vx l k).2] 46)).alloc (.cells #[.int .i64 (vx l ((k + 1) % n)).1, .int .i64 (vx l ((k + 1) % n)).2] 46)).cell? ⟨wo.heap.size + 1, 1, none⟩ = some (.int .i64 (vx l ((k + 1) % n)).2)) :=
              ⟨Below.alloc (Below.alloc hB hzB _) (by simp; omega) _, by simp, by go_simp, by go_simp, by go_simp, by go_simp⟩
            have BX := Lib.hid bx
            clear bx
            have c3 : ∀ W, Below w.heap.size w W → W.cell? ⟨b, off + (k + 2) % n * 2, none⟩ = some (.int .i64 (vx l ((k + 2) % n)).1) ∧ W.cell? ⟨b, off + (k + 2) % n * 2 + 1, none⟩ = some (.int .i64 (vx l ((k + 2) % n)).2) := fun W hW =>
              ⟨(hW.cell (p := ⟨b, off + (k + 2) % n * 2, none⟩) hb).trans (HC.out _ m2).1, (hW.cell (p := ⟨b, off + (k + 2) % n * 2 + 1, none⟩) hb).trans (HC.out _ m2).2⟩
            have C3 := Lib.hid c3
            clear c3
            go_wp2_with fail
            clear p1 p2 p3 p4 i1 i2
            have e1 : IntKind.i64.wrap ((k : Int) + 2) = (k : Int) + 2 := IntWalk.i64_in _ (by omega)
            have e2 : ¬ n = 0 := by omega
            have e3 : (0 : Int) ≤ ((k : Int) + 2) % (n : Int) := Int.emod_nonneg _ (by omega)
            have e4 : ((k : Int) + 2) % (n : Int) < (n : Int) := Int.emod_lt_of_pos _ (by omega)
            have e5 : ((k : Int) + 2).tmod (n : Int) = ((k : Int) + 2) % (n : Int) := Int.tmod_eq_emod_of_nonneg (by omega)
            have e6 : (((k : Int) + 2) % (n : Int)).toNat = (k + 2) % n := by rw [show ((k : Int) + 2) % (n : Int) = (((k + 2) % n : Nat) : Int) by simp]; exact Int.toNat_natCast _
            have z1 := sz_of (x := (vx l k).1) (y := (vx l k).2) (HF.out k hlt).1
            have z2 := sz_of (x := (vx l ((k + 1) % n)).1) (y := (vx l ((k + 1) % n)).2) (HF.out _ m1).1
            have z3 := sz_of (x := (vx l ((k + 2) % n)).1) (y := (vx l ((k + 2) % n)).2) (HF.out _ m2).1
            have T := Lib.hid (fun W => pgTurn_any (vx l k).1 (vx l k).2 (vx l ((k + 1) % n)).1 (vx l ((k + 1) % n)).2 (vx l ((k + 2) % n)).1 (vx l ((k + 2) % n)).2 W z1 z2 z3)
            have ht : twI (vx l k).1 (vx l k).2 (vx l ((k + 1) % n)).1 (vx l ((k + 1) % n)).2 (vx l ((k + 2) % n)).1 (vx l ((k + 2) % n)).2 = twP (vx l k) (vx l (k + 1)) (vx l (k + 2)) := by
              unfold twP; rw [← HN.out, vx_per, vx_per]
            rw [ht] at T
            clear z1 z2 z3 ht
            by_cases hz : twP (vx l k) (vx l (k + 1)) (vx l (k + 2)) = 0
            · rw [hz] at T
              have hng : Hid (goodB l = false) := Lib.hid (HG.out (fun h => h.turn k (by have := HN.out; omega) hz))
              clear hz
              refine wp_region_B (fun W => (Below w.heap.size w W ∧ wo.heap.size + 1 < W.heap.size ∧ W.cell? ⟨wo.heap.size, 0, none⟩ = some (.int .i64 (vx l k).1) ∧ W.cell? ⟨wo.heap.size, 1, none⟩ = some (.int .i64 (vx l k).2) ∧ W.cell? ⟨wo.heap.size + 1, 0, none⟩ = some (.int .i64 (vx l ((k + 1) % n)).1) ∧ W.cell? ⟨wo.heap.size + 1, 1, none⟩ = some (.int .i64 (vx l ((k + 1) % n)).2))) (by kernel_rfl) (KP.out _ _ BX.out ((Below.refl _ _).drew)) ?_
              first | refine wpB_skip 0 rfl (by kernel_rfl) (by kernel_rfl) (by kernel_rfl) (by rfl) ?_ | (refine wpB_text 0 (v := ?_) rfl (by kernel_rfl) (by kernel_rfl) (by kernel_rfl) (by rfl) (fun W hW => ?_) ?_; rotate_left; (obtain ⟨k1, k2, k3, k4, k5, k6⟩ := hW; have c4 := C3.out W k1; go_simp; refine comes_v ?_; exact ⟨k1, k2, k3, k4, k5, k6⟩))
              (try simp only [Act.put, List.setIfInBounds_toArray, List.set_cons_zero, List.set_cons_succ])
              first | refine wpB_skip 1 rfl (by kernel_rfl) (by kernel_rfl) (by kernel_rfl) (by rfl) ?_ | (refine wpB_text 1 (v := ?_) rfl (by kernel_rfl) (by kernel_rfl) (by kernel_rfl) (by rfl) (fun W hW => ?_) ?_; rotate_left; (obtain ⟨k1, k2, k3, k4, k5, k6⟩ := hW; have c4 := C3.out W k1; go_simp; refine comes_v ?_; exact ⟨k1, k2, k3, k4, k5, k6⟩))
              (try simp only [Act.put, List.setIfInBounds_toArray, List.set_cons_zero, List.set_cons_succ])
              first | refine wpB_skip 2 rfl (by kernel_rfl) (by kernel_rfl) (by kernel_rfl) (by rfl) ?_ | (refine wpB_text 2 (v := ?_) rfl (by kernel_rfl) (by kernel_rfl) (by kernel_rfl) (by rfl) (fun W hW => ?_) ?_; rotate_left; (obtain ⟨k1, k2, k3, k4, k5, k6⟩ := hW; have c4 := C3.out W k1; go_simp; refine comes_v ?_; exact ⟨k1, k2, k3, k4, k5, k6⟩))
              (try simp only [Act.put, List.setIfInBounds_toArray, List.set_cons_zero, List.set_cons_succ])
              first | refine wpB_skip 3 rfl (by kernel_rfl) (by kernel_rfl) (by kernel_rfl) (by rfl) ?_ | (refine wpB_text 3 (v := ?_) rfl (by kernel_rfl) (by kernel_rfl) (by kernel_rfl) (by rfl) (fun W hW => ?_) ?_; rotate_left; (obtain ⟨k1, k2, k3, k4, k5, k6⟩ := hW; have c4 := C3.out W k1; go_simp; refine comes_v ?_; exact ⟨k1, k2, k3, k4, k5, k6⟩))
              (try simp only [Act.put, List.setIfInBounds_toArray, List.set_cons_zero, List.set_cons_succ])
              first | refine wpB_skip 4 rfl (by kernel_rfl) (by kernel_rfl) (by kernel_rfl) (by rfl) ?_ | (refine wpB_text 4 (v := ?_) rfl (by kernel_rfl) (by kernel_rfl) (by kernel_rfl) (by rfl) (fun W hW => ?_) ?_; rotate_left; (obtain ⟨k1, k2, k3, k4, k5, k6⟩ := hW; have c4 := C3.out W k1; go_simp; refine comes_v ?_; exact ⟨k1, k2, k3, k4, k5, k6⟩))
              (try simp only [Act.put, List.setIfInBounds_toArray, List.set_cons_zero, List.set_cons_succ])
              first | refine wpB_skip 5 rfl (by kernel_rfl) (by kernel_rfl) (by kernel_rfl) (by rfl) ?_ | (refine wpB_text 5 (v := ?_) rfl (by kernel_rfl) (by kernel_rfl) (by kernel_rfl) (by rfl) (fun W hW => ?_) ?_; rotate_left; (obtain ⟨k1, k2, k3, k4, k5, k6⟩ := hW; have c4 := C3.out W k1; go_simp; refine comes_v ?_; exact ⟨k1, k2, k3, k4, k5, k6⟩))
              (try simp only [Act.put, List.setIfInBounds_toArray, List.set_cons_zero, List.set_cons_succ])
              first | refine wpB_skip 6 rfl (by kernel_rfl) (by kernel_rfl) (by kernel_rfl) (by rfl) ?_ | (refine wpB_text 6 (v := ?_) rfl (by kernel_rfl) (by kernel_rfl) (by kernel_rfl) (by rfl) (fun W hW => ?_) ?_; rotate_left; (obtain ⟨k1, k2, k3, k4, k5, k6⟩ := hW; have c4 := C3.out W k1; go_simp; refine comes_v ?_; exact ⟨k1, k2, k3, k4, k5, k6⟩))
              (try simp only [Act.put, List.setIfInBounds_toArray, List.set_cons_zero, List.set_cons_succ])
              first | refine wpB_skip 7 rfl (by kernel_rfl) (by kernel_rfl) (by kernel_rfl) (by rfl) ?_ | (refine wpB_text 7 (v := ?_) rfl (by kernel_rfl) (by kernel_rfl) (by kernel_rfl) (by rfl) (fun W hW => ?_) ?_; rotate_left; (obtain ⟨k1, k2, k3, k4, k5, k6⟩ := hW; have c4 := C3.out W k1; go_simp; refine comes_v ?_; exact ⟨k1, k2, k3, k4, k5, k6⟩))
              (try simp only [Act.put, List.setIfInBounds_toArray, List.set_cons_zero, List.set_cons_succ])
              first | refine wpB_skip 8 rfl (by kernel_rfl) (by kernel_rfl) (by kernel_rfl) (by rfl) ?_ | (refine wpB_text 8 (v := ?_) rfl (by kernel_rfl) (by kernel_rfl) (by kernel_rfl) (by rfl) (fun W hW => ?_) ?_; rotate_left; (obtain ⟨k1, k2, k3, k4, k5, k6⟩ := hW; have c4 := C3.out W k1; go_simp; refine comes_v ?_; exact ⟨k1, k2, k3, k4, k5, k6⟩))
              (try simp only [Act.put, List.setIfInBounds_toArray, List.set_cons_zero, List.set_cons_succ])
              first | refine wpB_skip 9 rfl (by kernel_rfl) (by kernel_rfl) (by kernel_rfl) (by rfl) ?_ | (refine wpB_text 9 (v := .int .i64 0) rfl (by kernel_rfl) (by kernel_rfl) (by kernel_rfl) (by rfl) (fun W hW => ?_) ?_; (obtain ⟨k1, k2, k3, k4, k5, k6⟩ := hW; have c4 := C3.out W k1; go_simp; exact comes_c ( T.out _) (fun wn hbn => KP.out _ _ ⟨k1, k2, k3, k4, k5, k6⟩ hbn)))
              (try simp only [Act.put, List.setIfInBounds_toArray, List.set_cons_zero, List.set_cons_succ])
              first | refine wpB_skip 10 rfl (by kernel_rfl) (by kernel_rfl) (by kernel_rfl) (by rfl) ?_ | (refine wpB_text 10 (v := ?_) rfl (by kernel_rfl) (by kernel_rfl) (by kernel_rfl) (by rfl) (fun W hW => ?_) ?_; rotate_left; (obtain ⟨k1, k2, k3, k4, k5, k6⟩ := hW; have c4 := C3.out W k1; go_simp; refine comes_v ?_; exact ⟨k1, k2, k3, k4, k5, k6⟩))
              (try simp only [Act.put, List.setIfInBounds_toArray, List.set_cons_zero, List.set_cons_succ])
              refine wpB_done (by kernel_rfl) ?_ _
              intro W hW; obtain ⟨k1, k2, k3, k4, k5, k6⟩ := hW
              go_wp2_with fail
              go_ret
              exact ⟨ret_bool hng.out.symm, k1⟩
            · have HTW : Hid (Turns l k) := Lib.hid hz
              have hzb : (twP (vx l k) (vx l (k + 1)) (vx l (k + 2)) == 0) = false := by simpa using hz
              generalize twP (vx l k) (vx l (k + 1)) (vx l (k + 2)) = t at *
              refine wp_region_B (fun W => (Below w.heap.size w W ∧ wo.heap.size + 1 < W.heap.size ∧ W.cell? ⟨wo.heap.size, 0, none⟩ = some (.int .i64 (vx l k).1) ∧ W.cell? ⟨wo.heap.size, 1, none⟩ = some (.int .i64 (vx l k).2) ∧ W.cell? ⟨wo.heap.size + 1, 0, none⟩ = some (.int .i64 (vx l ((k + 1) % n)).1) ∧ W.cell? ⟨wo.heap.size + 1, 1, none⟩ = some (.int .i64 (vx l ((k + 1) % n)).2))) (by kernel_rfl) (KP.out _ _ BX.out ((Below.refl _ _).drew)) ?_
              first | refine wpB_skip 0 rfl (by kernel_rfl) (by kernel_rfl) (by kernel_rfl) (by rfl) ?_ | (refine wpB_text 0 (v := ?_) rfl (by kernel_rfl) (by kernel_rfl) (by kernel_rfl) (by rfl) (fun W hW => ?_) ?_; rotate_left; (obtain ⟨k1, k2, k3, k4, k5, k6⟩ := hW; have c4 := C3.out W k1; go_simp; refine comes_v ?_; exact ⟨k1, k2, k3, k4, k5, k6⟩))
              (try simp only [Act.put, List.setIfInBounds_toArray, List.set_cons_zero, List.set_cons_succ])
              first | refine wpB_skip 1 rfl (by kernel_rfl) (by kernel_rfl) (by kernel_rfl) (by rfl) ?_ | (refine wpB_text 1 (v := ?_) rfl (by kernel_rfl) (by kernel_rfl) (by kernel_rfl) (by rfl) (fun W hW => ?_) ?_; rotate_left; (obtain ⟨k1, k2, k3, k4, k5, k6⟩ := hW; have c4 := C3.out W k1; go_simp; refine comes_v ?_; exact ⟨k1, k2, k3, k4, k5, k6⟩))
              (try simp only [Act.put, List.setIfInBounds_toArray, List.set_cons_zero, List.set_cons_succ])
              first | refine wpB_skip 2 rfl (by kernel_rfl) (by kernel_rfl) (by kernel_rfl) (by rfl) ?_ | (refine wpB_text 2 (v := ?_) rfl (by kernel_rfl) (by kernel_rfl) (by kernel_rfl) (by rfl) (fun W hW => ?_) ?_; rotate_left; (obtain ⟨k1, k2, k3, k4, k5, k6⟩ := hW; have c4 := C3.out W k1; go_simp; refine comes_v ?_; exact ⟨k1, k2, k3, k4, k5, k6⟩))
              (try simp only [Act.put, List.setIfInBounds_toArray, List.set_cons_zero, List.set_cons_succ])
              first | refine wpB_skip 3 rfl (by kernel_rfl) (by kernel_rfl) (by kernel_rfl) (by rfl) ?_ | (refine wpB_text 3 (v := ?_) rfl (by kernel_rfl) (by kernel_rfl) (by kernel_rfl) (by rfl) (fun W hW => ?_) ?_; rotate_left; (obtain ⟨k1, k2, k3, k4, k5, k6⟩ := hW; have c4 := C3.out W k1; go_simp; refine comes_v ?_; exact ⟨k1, k2, k3, k4, k5, k6⟩))
              (try simp only [Act.put, List.setIfInBounds_toArray, List.set_cons_zero, List.set_cons_succ])
              first | refine wpB_skip 4 rfl (by kernel_rfl) (by kernel_rfl) (by kernel_rfl) (by rfl) ?_ | (refine wpB_text 4 (v := ?_) rfl (by kernel_rfl) (by kernel_rfl) (by kernel_rfl) (by rfl) (fun W hW => ?_) ?_; rotate_left; (obtain ⟨k1, k2, k3, k4, k5, k6⟩ := hW; have c4 := C3.out W k1; go_simp; refine comes_v ?_; exact ⟨k1, k2, k3, k4, k5, k6⟩))
              (try simp only [Act.put, List.setIfInBounds_toArray, List.set_cons_zero, List.set_cons_succ])
              first | refine wpB_skip 5 rfl (by kernel_rfl) (by kernel_rfl) (by kernel_rfl) (by rfl) ?_ | (refine wpB_text 5 (v := ?_) rfl (by kernel_rfl) (by kernel_rfl) (by kernel_rfl) (by rfl) (fun W hW => ?_) ?_; rotate_left; (obtain ⟨k1, k2, k3, k4, k5, k6⟩ := hW; have c4 := C3.out W k1; go_simp; refine comes_v ?_; exact ⟨k1, k2, k3, k4, k5, k6⟩))
              (try simp only [Act.put, List.setIfInBounds_toArray, List.set_cons_zero, List.set_cons_succ])
              first | refine wpB_skip 6 rfl (by kernel_rfl) (by kernel_rfl) (by kernel_rfl) (by rfl) ?_ | (refine wpB_text 6 (v := ?_) rfl (by kernel_rfl) (by kernel_rfl) (by kernel_rfl) (by rfl) (fun W hW => ?_) ?_; rotate_left; (obtain ⟨k1, k2, k3, k4, k5, k6⟩ := hW; have c4 := C3.out W k1; go_simp; refine comes_v ?_; exact ⟨k1, k2, k3, k4, k5, k6⟩))
              (try simp only [Act.put, List.setIfInBounds_toArray, List.set_cons_zero, List.set_cons_succ])
              first | refine wpB_skip 7 rfl (by kernel_rfl) (by kernel_rfl) (by kernel_rfl) (by rfl) ?_ | (refine wpB_text 7 (v := ?_) rfl (by kernel_rfl) (by kernel_rfl) (by kernel_rfl) (by rfl) (fun W hW => ?_) ?_; rotate_left; (obtain ⟨k1, k2, k3, k4, k5, k6⟩ := hW; have c4 := C3.out W k1; go_simp; refine comes_v ?_; exact ⟨k1, k2, k3, k4, k5, k6⟩))
              (try simp only [Act.put, List.setIfInBounds_toArray, List.set_cons_zero, List.set_cons_succ])
              first | refine wpB_skip 8 rfl (by kernel_rfl) (by kernel_rfl) (by kernel_rfl) (by rfl) ?_ | (refine wpB_text 8 (v := ?_) rfl (by kernel_rfl) (by kernel_rfl) (by kernel_rfl) (by rfl) (fun W hW => ?_) ?_; rotate_left; (obtain ⟨k1, k2, k3, k4, k5, k6⟩ := hW; have c4 := C3.out W k1; go_simp; refine comes_v ?_; exact ⟨k1, k2, k3, k4, k5, k6⟩))
              (try simp only [Act.put, List.setIfInBounds_toArray, List.set_cons_zero, List.set_cons_succ])
              first | refine wpB_skip 9 rfl (by kernel_rfl) (by kernel_rfl) (by kernel_rfl) (by rfl) ?_ | (refine wpB_text 9 (v := .int .i64 t) rfl (by kernel_rfl) (by kernel_rfl) (by kernel_rfl) (by rfl) (fun W hW => ?_) ?_; (obtain ⟨k1, k2, k3, k4, k5, k6⟩ := hW; have c4 := C3.out W k1; go_simp; exact comes_c ( T.out _) (fun wn hbn => KP.out _ _ ⟨k1, k2, k3, k4, k5, k6⟩ hbn)))
              (try simp only [Act.put, List.setIfInBounds_toArray, List.set_cons_zero, List.set_cons_succ])
              first | refine wpB_skip 10 rfl (by kernel_rfl) (by kernel_rfl) (by kernel_rfl) (by rfl) ?_ | (refine wpB_text 10 (v := ?_) rfl (by kernel_rfl) (by kernel_rfl) (by kernel_rfl) (by rfl) (fun W hW => ?_) ?_; rotate_left; (obtain ⟨k1, k2, k3, k4, k5, k6⟩ := hW; have c4 := C3.out W k1; go_simp; refine comes_v ?_; exact ⟨k1, k2, k3, k4, k5, k6⟩))
              (try simp only [Act.put, List.setIfInBounds_toArray, List.set_cons_zero, List.set_cons_succ])
              refine wpB_done (by kernel_rfl) ?_ _
              intro W hW; obtain ⟨k1, k2, k3, k4, k5, k6⟩ := hW
              go_wp2_with fail
              clear e1 e2 e3 e4 e5 e6 T hzb
              go_loopg [11] (n + 1 - (k + 2)) (fun g2 j wi => ∃ m : Nat, k + 2 ≤ m ∧ m ≤ n + 1 ∧ g2 = n + 1 - m ∧ j = .int .i64 m ∧ (Below w.heap.size w wi ∧ wo.heap.size + 1 < wi.heap.size ∧ wi.cell? ⟨wo.heap.size, 0, none⟩ = some (.int .i64 (vx l k).1) ∧ wi.cell? ⟨wo.heap.size, 1, none⟩ = some (.int .i64 (vx l k).2) ∧ wi.cell? ⟨wo.heap.size + 1, 0, none⟩ = some (.int .i64 (vx l ((k + 1) % n)).1) ∧ wi.cell? ⟨wo.heap.size + 1, 1, none⟩ = some (.int .i64 (vx l ((k + 1) % n)).2)) ∧ Hid (∀ q, k + 2 ≤ q → q < m → q < n → q + 1 < n + k → meP (vx l k) (vx l (k + 1)) (vx l q) (vx l (q + 1)) = false))
              case atStart => exact ⟨k + 2, by omega, by omega, rfl, by go_num, ⟨k1, k2, k3, k4, k5, k6⟩, Lib.hid (fun q h1 h2 => absurd h2 (by omega))⟩
              case round =>
                clear k1 k2 k3 k4 k5 k6 BX
                obtain ⟨m, hm1, hm2, hg2, rfl, ⟨k1, k2, k3, k4, k5, k6⟩, hM⟩ := hrel
                have HGM := Lib.hid hg2
                clear hg2
                by_cases c1 : m < n
                · by_cases c2 : m + 1 < n + k
                  · have d1 : ((m : Int) < (n : Int)) := by omega
                    have d2 : ((m : Int) - (k : Int) < (n : Int) - 1) := by omega
                    have m3 : (m + 1) % n < n := Nat.mod_lt _ (by omega)
                    have c3 : ∀ W, Below w.heap.size w W → (W.cell? ⟨b, off + m * 2, none⟩ = some (.int .i64 (vx l m).1) ∧ W.cell? ⟨b, off + m * 2 + 1, none⟩ = some (.int .i64 (vx l m).2)) ∧ W.cell? ⟨b, off + (m + 1) % n * 2, none⟩ = some (.int .i64 (vx l ((m + 1) % n)).1) ∧ W.cell? ⟨b, off + (m + 1) % n * 2 + 1, none⟩ = some (.int .i64 (vx l ((m + 1) % n)).2) := fun W hW =>
                      ⟨⟨(hW.cell (p := ⟨b, off + m * 2, none⟩) hb).trans (HC.out _ c1).1, (hW.cell (p := ⟨b, off + m * 2 + 1, none⟩) hb).trans (HC.out _ c1).2⟩, (hW.cell (p := ⟨b, off + (m + 1) % n * 2, none⟩) hb).trans (HC.out _ m3).1, (hW.cell (p := ⟨b, off + (m + 1) % n * 2 + 1, none⟩) hb).trans (HC.out _ m3).2⟩
                    have C5 := Lib.hid c3
                    clear c3
                    have z1 := sz_of (x := (vx l k).1) (y := (vx l k).2) (HF.out k hlt).1
                    have z2 := sz_of (x := (vx l ((k + 1) % n)).1) (y := (vx l ((k + 1) % n)).2) (HF.out _ m1).1
                    have z3 := sz_of (x := (vx l m).1) (y := (vx l m).2) (HF.out _ c1).1
                    have z4 := sz_of (x := (vx l ((m + 1) % n)).1) (y := (vx l ((m + 1) % n)).2) (HF.out _ m3).1
                    have M := Lib.hid (fun W => pgMeet_any (vx l k).1 (vx l k).2 (vx l ((k + 1) % n)).1 (vx l ((k + 1) % n)).2 (vx l m).1 (vx l m).2 (vx l ((m + 1) % n)).1 (vx l ((m + 1) % n)).2 W z1 z2 z3 z4)
                    have ht : meetB (vx l k).1 (vx l k).2 (vx l ((k + 1) % n)).1 (vx l ((k + 1) % n)).2 (vx l m).1 (vx l m).2 (vx l ((m + 1) % n)).1 (vx l ((m + 1) % n)).2 = meP (vx l k) (vx l (k + 1)) (vx l m) (vx l (m + 1)) := by
                      unfold meP; rw [← HN.out, vx_per, vx_per]
                    rw [ht] at M
                    clear z1 z2 z3 z4 ht
                    have hk0 : (Below w.heap.size w wr ∧ wo.heap.size + 1 < wr.heap.size ∧ wr.cell? ⟨wo.heap.size, 0, none⟩ = some (.int .i64 (vx l k).1) ∧ wr.cell? ⟨wo.heap.size, 1, none⟩ = some (.int .i64 (vx l k).2) ∧ wr.cell? ⟨wo.heap.size + 1, 0, none⟩ = some (.int .i64 (vx l ((k + 1) % n)).1) ∧ wr.cell? ⟨wo.heap.size + 1, 1, none⟩ = some (.int .i64 (vx l ((k + 1) % n)).2))
                      := ⟨k1, k2, k3, k4, k5, k6⟩
                    have HK0 := Lib.hid hk0
                    clear hk0
                    by_cases hmt : meP (vx l k) (vx l (k + 1)) (vx l m) (vx l (m + 1)) = true
                    · rw [hmt] at M
                      have hng : Hid (goodB l = false) := Lib.hid (HG.out (fun h => by have := h.apart k m hm1 (by have := HN.out; omega) (by have := HN.out; omega); rw [hmt] at this; cases this))
                      clear hmt
                      go_wp2_with fail
                      have e1 : IntKind.i64.wrap ((m : Int) + 1) = (m : Int) + 1 := IntWalk.i64_in _ (by omega)
                      have e2 : ¬ n = 0 := by omega
                      have e3 : (0 : Int) ≤ ((m : Int) + 1) % (n : Int) := Int.emod_nonneg _ (by omega)
                      have e4 : ((m : Int) + 1) % (n : Int) < (n : Int) := Int.emod_lt_of_pos _ (by omega)
                      have e5 : ((m : Int) + 1).tmod (n : Int) = ((m : Int) + 1) % (n : Int) := Int.tmod_eq_emod_of_nonneg (by omega)
                      have e6 : (((m : Int) + 1) % (n : Int)).toNat = (m + 1) % n := by rw [show ((m : Int) + 1) % (n : Int) = (((m + 1) % n : Nat) : Int) by simp]; exact Int.toNat_natCast _
                      refine wp_region_B (fun W => (Below w.heap.size w W ∧ wo.heap.size + 1 < W.heap.size ∧ W.cell? ⟨wo.heap.size, 0, none⟩ = some (.int .i64 (vx l k).1) ∧ W.cell? ⟨wo.heap.size, 1, none⟩ = some (.int .i64 (vx l k).2) ∧ W.cell? ⟨wo.heap.size + 1, 0, none⟩ = some (.int .i64 (vx l ((k + 1) % n)).1) ∧ W.cell? ⟨wo.heap.size + 1, 1, none⟩ = some (.int .i64 (vx l ((k + 1) % n)).2))) (by kernel_rfl) (KP.out _ _ HK0.out ((Below.refl _ _).drew)) ?_
                      clear k1 k2 k3 k4 k5 k6
                      first | refine wpB_skip 0 rfl (by kernel_rfl) (by kernel_rfl) (by kernel_rfl) (by rfl) ?_ | (refine wpB_text 0 (v := ?_) rfl (by kernel_rfl) (by kernel_rfl) (by kernel_rfl) (by rfl) (fun W hW => ?_) ?_; rotate_left; (obtain ⟨k1, k2, k3, k4, k5, k6⟩ := hW; have c4 := (C5.out W k1).1; have c5 := (C5.out W k1).2; go_simp; refine comes_v ?_; exact ⟨k1, k2, k3, k4, k5, k6⟩))
                      (try simp only [Act.put, List.setIfInBounds_toArray, List.set_cons_zero, List.set_cons_succ])
                      first | refine wpB_skip 1 rfl (by kernel_rfl) (by kernel_rfl) (by kernel_rfl) (by rfl) ?_ | (refine wpB_text 1 (v := ?_) rfl (by kernel_rfl) (by kernel_rfl) (by kernel_rfl) (by rfl) (fun W hW => ?_) ?_; rotate_left; (obtain ⟨k1, k2, k3, k4, k5, k6⟩ := hW; have c4 := (C5.out W k1).1; have c5 := (C5.out W k1).2; go_simp; refine comes_v ?_; exact ⟨k1, k2, k3, k4, k5, k6⟩))
                      (try simp only [Act.put, List.setIfInBounds_toArray, List.set_cons_zero, List.set_cons_succ])
                      first | refine wpB_skip 2 rfl (by kernel_rfl) (by kernel_rfl) (by kernel_rfl) (by rfl) ?_ | (refine wpB_text 2 (v := ?_) rfl (by kernel_rfl) (by kernel_rfl) (by kernel_rfl) (by rfl) (fun W hW => ?_) ?_; rotate_left; (obtain ⟨k1, k2, k3, k4, k5, k6⟩ := hW; have c4 := (C5.out W k1).1; have c5 := (C5.out W k1).2; go_simp; refine comes_v ?_; exact ⟨k1, k2, k3, k4, k5, k6⟩))
                      (try simp only [Act.put, List.setIfInBounds_toArray, List.set_cons_zero, List.set_cons_succ])
                      first | refine wpB_skip 3 rfl (by kernel_rfl) (by kernel_rfl) (by kernel_rfl) (by rfl) ?_ | (refine wpB_text 3 (v := ?_) rfl (by kernel_rfl) (by kernel_rfl) (by kernel_rfl) (by rfl) (fun W hW => ?_) ?_; rotate_left; (obtain ⟨k1, k2, k3, k4, k5, k6⟩ := hW; have c4 := (C5.out W k1).1; have c5 := (C5.out W k1).2; go_simp; refine comes_v ?_; exact ⟨k1, k2, k3, k4, k5, k6⟩))
                      (try simp only [Act.put, List.setIfInBounds_toArray, List.set_cons_zero, List.set_cons_succ])
                      first | refine wpB_skip 4 rfl (by kernel_rfl) (by kernel_rfl) (by kernel_rfl) (by rfl) ?_ | (refine wpB_text 4 (v := ?_) rfl (by kernel_rfl) (by kernel_rfl) (by kernel_rfl) (by rfl) (fun W hW => ?_) ?_; rotate_left; (obtain ⟨k1, k2, k3, k4, k5, k6⟩ := hW; have c4 := (C5.out W k1).1; have c5 := (C5.out W k1).2; go_simp; refine comes_v ?_; exact ⟨k1, k2, k3, k4, k5, k6⟩))
                      (try simp only [Act.put, List.setIfInBounds_toArray, List.set_cons_zero, List.set_cons_succ])
                      first | refine wpB_skip 5 rfl (by kernel_rfl) (by kernel_rfl) (by kernel_rfl) (by rfl) ?_ | (refine wpB_text 5 (v := ?_) rfl (by kernel_rfl) (by kernel_rfl) (by kernel_rfl) (by rfl) (fun W hW => ?_) ?_; rotate_left; (obtain ⟨k1, k2, k3, k4, k5, k6⟩ := hW; have c4 := (C5.out W k1).1; have c5 := (C5.out W k1).2; go_simp; refine comes_v ?_; exact ⟨k1, k2, k3, k4, k5, k6⟩))
                      (try simp only [Act.put, List.setIfInBounds_toArray, List.set_cons_zero, List.set_cons_succ])
                      first | refine wpB_skip 6 rfl (by kernel_rfl) (by kernel_rfl) (by kernel_rfl) (by rfl) ?_ | (refine wpB_text 6 (v := ?_) rfl (by kernel_rfl) (by kernel_rfl) (by kernel_rfl) (by rfl) (fun W hW => ?_) ?_; rotate_left; (obtain ⟨k1, k2, k3, k4, k5, k6⟩ := hW; have c4 := (C5.out W k1).1; have c5 := (C5.out W k1).2; go_simp; refine comes_v ?_; exact ⟨k1, k2, k3, k4, k5, k6⟩))
                      (try simp only [Act.put, List.setIfInBounds_toArray, List.set_cons_zero, List.set_cons_succ])
                      first | refine wpB_skip 7 rfl (by kernel_rfl) (by kernel_rfl) (by kernel_rfl) (by rfl) ?_ | (refine wpB_text 7 (v := ?_) rfl (by kernel_rfl) (by kernel_rfl) (by kernel_rfl) (by rfl) (fun W hW => ?_) ?_; rotate_left; (obtain ⟨k1, k2, k3, k4, k5, k6⟩ := hW; have c4 := (C5.out W k1).1; have c5 := (C5.out W k1).2; go_simp; refine comes_v ?_; exact ⟨k1, k2, k3, k4, k5, k6⟩))
                      (try simp only [Act.put, List.setIfInBounds_toArray, List.set_cons_zero, List.set_cons_succ])
                      first | refine wpB_skip 8 rfl (by kernel_rfl) (by kernel_rfl) (by kernel_rfl) (by rfl) ?_ | (refine wpB_text 8 (v := ?_) rfl (by kernel_rfl) (by kernel_rfl) (by kernel_rfl) (by rfl) (fun W hW => ?_) ?_; rotate_left; (obtain ⟨k1, k2, k3, k4, k5, k6⟩ := hW; have c4 := (C5.out W k1).1; have c5 := (C5.out W k1).2; go_simp; refine comes_v ?_; exact ⟨k1, k2, k3, k4, k5, k6⟩))
                      (try simp only [Act.put, List.setIfInBounds_toArray, List.set_cons_zero, List.set_cons_succ])
                      first | refine wpB_skip 9 rfl (by kernel_rfl) (by kernel_rfl) (by kernel_rfl) (by rfl) ?_ | (refine wpB_text 9 (v := ?_) rfl (by kernel_rfl) (by kernel_rfl) (by kernel_rfl) (by rfl) (fun W hW => ?_) ?_; rotate_left; (obtain ⟨k1, k2, k3, k4, k5, k6⟩ := hW; have c4 := (C5.out W k1).1; have c5 := (C5.out W k1).2; go_simp; refine comes_v ?_; exact ⟨k1, k2, k3, k4, k5, k6⟩))
                      (try simp only [Act.put, List.setIfInBounds_toArray, List.set_cons_zero, List.set_cons_succ])
                      first | refine wpB_skip 10 rfl (by kernel_rfl) (by kernel_rfl) (by kernel_rfl) (by rfl) ?_ | (refine wpB_text 10 (v := ?_) rfl (by kernel_rfl) (by kernel_rfl) (by kernel_rfl) (by rfl) (fun W hW => ?_) ?_; rotate_left; (obtain ⟨k1, k2, k3, k4, k5, k6⟩ := hW; have c4 := (C5.out W k1).1; have c5 := (C5.out W k1).2; go_simp; refine comes_v ?_; exact ⟨k1, k2, k3, k4, k5, k6⟩))
                      (try simp only [Act.put, List.setIfInBounds_toArray, List.set_cons_zero, List.set_cons_succ])
                      first | refine wpB_skip 11 rfl (by kernel_rfl) (by kernel_rfl) (by kernel_rfl) (by rfl) ?_ | (refine wpB_text 11 (v := ?_) rfl (by kernel_rfl) (by kernel_rfl) (by kernel_rfl) (by rfl) (fun W hW => ?_) ?_; rotate_left; (obtain ⟨k1, k2, k3, k4, k5, k6⟩ := hW; have c4 := (C5.out W k1).1; have c5 := (C5.out W k1).2; go_simp; refine comes_v ?_; exact ⟨k1, k2, k3, k4, k5, k6⟩))
                      (try simp only [Act.put, List.setIfInBounds_toArray, List.set_cons_zero, List.set_cons_succ])
                      first | refine wpB_skip 12 rfl (by kernel_rfl) (by kernel_rfl) (by kernel_rfl) (by rfl) ?_ | (refine wpB_text 12 (v := ?_) rfl (by kernel_rfl) (by kernel_rfl) (by kernel_rfl) (by rfl) (fun W hW => ?_) ?_; rotate_left; (obtain ⟨k1, k2, k3, k4, k5, k6⟩ := hW; have c4 := (C5.out W k1).1; have c5 := (C5.out W k1).2; go_simp; refine comes_v ?_; exact ⟨k1, k2, k3, k4, k5, k6⟩))
                      (try simp only [Act.put, List.setIfInBounds_toArray, List.set_cons_zero, List.set_cons_succ])
                      first | refine wpB_skip 13 rfl (by kernel_rfl) (by kernel_rfl) (by kernel_rfl) (by rfl) ?_ | (refine wpB_text 13 (v := .bool true) rfl (by kernel_rfl) (by kernel_rfl) (by kernel_rfl) (by rfl) (fun W hW => ?_) ?_; (obtain ⟨k1, k2, k3, k4, k5, k6⟩ := hW; have c4 := (C5.out W k1).1; have c5 := (C5.out W k1).2; go_simp; exact comes_c ( M.out _) (fun wn hbn => KP.out _ _ ⟨k1, k2, k3, k4, k5, k6⟩ hbn)))
                      (try simp only [Act.put, List.setIfInBounds_toArray, List.set_cons_zero, List.set_cons_succ])
                      refine wpB_done (by kernel_rfl) ?_ _
                      intro W hW; obtain ⟨k1, k2, k3, k4, k5, k6⟩ := hW
                      clear e1 e2 e3 e4 e5 e6
                      go_wp2_with fail
                      go_ret
                      exact ⟨ret_bool hng.out.symm, k1⟩
                    · have hmf : meP (vx l k) (vx l (k + 1)) (vx l m) (vx l (m + 1)) = false := by simpa using hmt
                      rw [hmf] at M
                      have hM2 : Hid (∀ q, k + 2 ≤ q → q < m + 1 → q < n → q + 1 < n + k → meP (vx l k) (vx l (k + 1)) (vx l q) (vx l (q + 1)) = false) := Lib.hid (fun q h1 h2 h3 h4 => by
                        by_cases hqm : q = m
                        · subst hqm; exact hmf
                        · exact hM.out q h1 (by omega) h3 h4)
                      clear hmt hmf hM
                      go_wp2_with fail
                      have e1 : IntKind.i64.wrap ((m : Int) + 1) = (m : Int) + 1 := IntWalk.i64_in _ (by omega)
                      have e2 : ¬ n = 0 := by omega
                      have e3 : (0 : Int) ≤ ((m : Int) + 1) % (n : Int) := Int.emod_nonneg _ (by omega)
                      have e4 : ((m : Int) + 1) % (n : Int) < (n : Int) := Int.emod_lt_of_pos _ (by omega)
                      have e5 : ((m : Int) + 1).tmod (n : Int) = ((m : Int) + 1) % (n : Int) := Int.tmod_eq_emod_of_nonneg (by omega)
                      have e6 : (((m : Int) + 1) % (n : Int)).toNat = (m + 1) % n := by rw [show ((m : Int) + 1) % (n : Int) = (((m + 1) % n : Nat) : Int) by simp]; exact Int.toNat_natCast _
                      refine wp_region_B (fun W => (Below w.heap.size w W ∧ wo.heap.size + 1 < W.heap.size ∧ W.cell? ⟨wo.heap.size, 0, none⟩ = some (.int .i64 (vx l k).1) ∧ W.cell? ⟨wo.heap.size, 1, none⟩ = some (.int .i64 (vx l k).2) ∧ W.cell? ⟨wo.heap.size + 1, 0, none⟩ = some (.int .i64 (vx l ((k + 1) % n)).1) ∧ W.cell? ⟨wo.heap.size + 1, 1, none⟩ = some (.int .i64 (vx l ((k + 1) % n)).2))) (by kernel_rfl) (KP.out _ _ HK0.out ((Below.refl _ _).drew)) ?_
                      clear k1 k2 k3 k4 k5 k6
                      first | refine wpB_skip 0 rfl (by kernel_rfl) (by kernel_rfl) (by kernel_rfl) (by rfl) ?_ | (refine wpB_text 0 (v := ?_) rfl (by kernel_rfl) (by kernel_rfl) (by kernel_rfl) (by rfl) (fun W hW => ?_) ?_; rotate_left; (obtain ⟨k1, k2, k3, k4, k5, k6⟩ := hW; have c4 := (C5.out W k1).1; have c5 := (C5.out W k1).2; go_simp; refine comes_v ?_; exact ⟨k1, k2, k3, k4, k5, k6⟩))
                      (try simp only [Act.put, List.setIfInBounds_toArray, List.set_cons_zero, List.set_cons_succ])
                      first | refine wpB_skip 1 rfl (by kernel_rfl) (by kernel_rfl) (by kernel_rfl) (by rfl) ?_ | (refine wpB_text 1 (v := ?_) rfl (by kernel_rfl) (by kernel_rfl) (by kernel_rfl) (by rfl) (fun W hW => ?_) ?_; rotate_left; (obtain ⟨k1, k2, k3, k4, k5, k6⟩ := hW; have c4 := (C5.out W k1).1; have c5 := (C5.out W k1).2; go_simp; refine comes_v ?_; exact ⟨k1, k2, k3, k4, k5, k6⟩))
                      (try simp only [Act.put, List.setIfInBounds_toArray, List.set_cons_zero, List.set_cons_succ])
                      first | refine wpB_skip 2 rfl (by kernel_rfl) (by kernel_rfl) (by kernel_rfl) (by rfl) ?_ | (refine wpB_text 2 (v := ?_) rfl (by kernel_rfl) (by kernel_rfl) (by kernel_rfl) (by rfl) (fun W hW => ?_) ?_; rotate_left; (obtain ⟨k1, k2, k3, k4, k5, k6⟩ := hW; have c4 := (C5.out W k1).1; have c5 := (C5.out W k1).2; go_simp; refine comes_v ?_; exact ⟨k1, k2, k3, k4, k5, k6⟩))
                      (try simp only [Act.put, List.setIfInBounds_toArray, List.set_cons_zero, List.set_cons_succ])
                      first | refine wpB_skip 3 rfl (by kernel_rfl) (by kernel_rfl) (by kernel_rfl) (by rfl) ?_ | (refine wpB_text 3 (v := ?_) rfl (by kernel_rfl) (by kernel_rfl) (by kernel_rfl) (by rfl) (fun W hW => ?_) ?_; rotate_left; (obtain ⟨k1, k2, k3, k4, k5, k6⟩ := hW; have c4 := (C5.out W k1).1; have c5 := (C5.out W k1).2; go_simp; refine comes_v ?_; exact ⟨k1, k2, k3, k4, k5, k6⟩))
                      (try simp only [Act.put, List.setIfInBounds_toArray, List.set_cons_zero, List.set_cons_succ])
                      first | refine wpB_skip 4 rfl (by kernel_rfl) (by kernel_rfl) (by kernel_rfl) (by rfl) ?_ | (refine wpB_text 4 (v := ?_) rfl (by kernel_rfl) (by kernel_rfl) (by kernel_rfl) (by rfl) (fun W hW => ?_) ?_; rotate_left; (obtain ⟨k1, k2, k3, k4, k5, k6⟩ := hW; have c4 := (C5.out W k1).1; have c5 := (C5.out W k1).2; go_simp; refine comes_v ?_; exact ⟨k1, k2, k3, k4, k5, k6⟩))
                      (try simp only [Act.put, List.setIfInBounds_toArray, List.set_cons_zero, List.set_cons_succ])
                      first | refine wpB_skip 5 rfl (by kernel_rfl) (by kernel_rfl) (by kernel_rfl) (by rfl) ?_ | (refine wpB_text 5 (v := ?_) rfl (by kernel_rfl) (by kernel_rfl) (by kernel_rfl) (by rfl) (fun W hW => ?_) ?_; rotate_left; (obtain ⟨k1, k2, k3, k4, k5, k6⟩ := hW; have c4 := (C5.out W k1).1; have c5 := (C5.out W k1).2; go_simp; refine comes_v ?_; exact ⟨k1, k2, k3, k4, k5, k6⟩))
                      (try simp only [Act.put, List.setIfInBounds_toArray, List.set_cons_zero, List.set_cons_succ])
                      first | refine wpB_skip 6 rfl (by kernel_rfl) (by kernel_rfl) (by kernel_rfl) (by rfl) ?_ | (refine wpB_text 6 (v := ?_) rfl (by kernel_rfl) (by kernel_rfl) (by kernel_rfl) (by rfl) (fun W hW => ?_) ?_; rotate_left; (obtain ⟨k1, k2, k3, k4, k5, k6⟩ := hW; have c4 := (C5.out W k1).1; have c5 := (C5.out W k1).2; go_simp; refine comes_v ?_; exact ⟨k1, k2, k3, k4, k5, k6⟩))
                      (try simp only [Act.put, List.setIfInBounds_toArray, List.set_cons_zero, List.set_cons_succ])
                      first | refine wpB_skip 7 rfl (by kernel_rfl) (by kernel_rfl) (by kernel_rfl) (by rfl) ?_ | (refine wpB_text 7 (v := ?_) rfl (by kernel_rfl) (by kernel_rfl) (by kernel_rfl) (by rfl) (fun W hW => ?_) ?_; rotate_left; (obtain ⟨k1, k2, k3, k4, k5, k6⟩ := hW; have c4 := (C5.out W k1).1; have c5 := (C5.out W k1).2; go_simp; refine comes_v ?_; exact ⟨k1, k2, k3, k4, k5, k6⟩))
                      (try simp only [Act.put, List.setIfInBounds_toArray, List.set_cons_zero, List.set_cons_succ])
                      first | refine wpB_skip 8 rfl (by kernel_rfl) (by kernel_rfl) (by kernel_rfl) (by rfl) ?_ | (refine wpB_text 8 (v := ?_) rfl (by kernel_rfl) (by kernel_rfl) (by kernel_rfl) (by rfl) (fun W hW => ?_) ?_; rotate_left; (obtain ⟨k1, k2, k3, k4, k5, k6⟩ := hW; have c4 := (C5.out W k1).1; have c5 := (C5.out W k1).2; go_simp; refine comes_v ?_; exact ⟨k1, k2, k3, k4, k5, k6⟩))
                      (try simp only [Act.put, List.setIfInBounds_toArray, List.set_cons_zero, List.set_cons_succ])
                      first | refine wpB_skip 9 rfl (by kernel_rfl) (by kernel_rfl) (by kernel_rfl) (by rfl) ?_ | (refine wpB_text 9 (v := ?_) rfl (by kernel_rfl) (by kernel_rfl) (by kernel_rfl) (by rfl) (fun W hW => ?_) ?_; rotate_left; (obtain ⟨k1, k2, k3, k4, k5, k6⟩ := hW; have c4 := (C5.out W k1).1; have c5 := (C5.out W k1).2; go_simp; refine comes_v ?_; exact ⟨k1, k2, k3, k4, k5, k6⟩))
                      (try simp only [Act.put, List.setIfInBounds_toArray, List.set_cons_zero, List.set_cons_succ])
                      first | refine wpB_skip 10 rfl (by kernel_rfl) (by kernel_rfl) (by kernel_rfl) (by rfl) ?_ | (refine wpB_text 10 (v := ?_) rfl (by kernel_rfl) (by kernel_rfl) (by kernel_rfl) (by rfl) (fun W hW => ?_) ?_; rotate_left; (obtain ⟨k1, k2, k3, k4, k5, k6⟩ := hW; have c4 := (C5.out W k1).1; have c5 := (C5.out W k1).2; go_simp; refine comes_v ?_; exact ⟨k1, k2, k3, k4, k5, k6⟩))
                      (try simp only [Act.put, List.setIfInBounds_toArray, List.set_cons_zero, List.set_cons_succ])
                      first | refine wpB_skip 11 rfl (by kernel_rfl) (by kernel_rfl) (by kernel_rfl) (by rfl) ?_ | (refine wpB_text 11 (v := ?_) rfl (by kernel_rfl) (by kernel_rfl) (by kernel_rfl) (by rfl) (fun W hW => ?_) ?_; rotate_left; (obtain ⟨k1, k2, k3, k4, k5, k6⟩ := hW; have c4 := (C5.out W k1).1; have c5 := (C5.out W k1).2; go_simp; refine comes_v ?_; exact ⟨k1, k2, k3, k4, k5, k6⟩))
                      (try simp only [Act.put, List.setIfInBounds_toArray, List.set_cons_zero, List.set_cons_succ])
                      first | refine wpB_skip 12 rfl (by kernel_rfl) (by kernel_rfl) (by kernel_rfl) (by rfl) ?_ | (refine wpB_text 12 (v := ?_) rfl (by kernel_rfl) (by kernel_rfl) (by kernel_rfl) (by rfl) (fun W hW => ?_) ?_; rotate_left; (obtain ⟨k1, k2, k3, k4, k5, k6⟩ := hW; have c4 := (C5.out W k1).1; have c5 := (C5.out W k1).2; go_simp; refine comes_v ?_; exact ⟨k1, k2, k3, k4, k5, k6⟩))
                      (try simp only [Act.put, List.setIfInBounds_toArray, List.set_cons_zero, List.set_cons_succ])
                      first | refine wpB_skip 13 rfl (by kernel_rfl) (by kernel_rfl) (by kernel_rfl) (by rfl) ?_ | (refine wpB_text 13 (v := .bool false) rfl (by kernel_rfl) (by kernel_rfl) (by kernel_rfl) (by rfl) (fun W hW => ?_) ?_; (obtain ⟨k1, k2, k3, k4, k5, k6⟩ := hW; have c4 := (C5.out W k1).1; have c5 := (C5.out W k1).2; go_simp; exact comes_c ( M.out _) (fun wn hbn => KP.out _ _ ⟨k1, k2, k3, k4, k5, k6⟩ hbn)))
                      (try simp only [Act.put, List.setIfInBounds_toArray, List.set_cons_zero, List.set_cons_succ])
                      refine wpB_done (by kernel_rfl) ?_ _
                      intro W hW; obtain ⟨k1, k2, k3, k4, k5, k6⟩ := hW
                      clear e1 e2 e3 e4 e5 e6
                      go_wp2_with fail
                      go_roundg (n + 1 - (m + 1))
                      case measure => have := HGM.out; omega
                      case rel => exact ⟨m + 1, by omega, by omega, rfl, by go_num, ⟨k1, k2, k3, k4, k5, k6⟩, hM2⟩
                  · have d1 : ((m : Int) < (n : Int)) := by omega
                    have d2 : ¬ ((m : Int) - (k : Int) < (n : Int) - 1) := by omega
                    have hA2 : Hid (Apart l (k + 1)) := Lib.hid (fun i hi => by
                      by_cases hik : i = k
                      · subst hik; exact ⟨HTW.out, fun q h1 h2 h3 => hM.out q h1 (by have := HN.out; omega) (by have := HN.out; omega) (by have := HN.out; omega)⟩
                      · exact hA.out i (by omega))
                    go_wp2_with fail
                    go_roundg (n - (k + 1))
                    case measure => have := HGK.out; omega
                    case rel => exact ⟨k + 1, by omega, rfl, by go_num, k1, hA2⟩
                · have d1 : ¬ ((m : Int) < (n : Int)) := by omega
                  have hA2 : Hid (Apart l (k + 1)) := Lib.hid (fun i hi => by
                    by_cases hik : i = k
                    · subst hik; exact ⟨HTW.out, fun q h1 h2 h3 => hM.out q h1 (by have := HN.out; omega) (by have := HN.out; omega) (by have := HN.out; omega)⟩
                    · exact hA.out i (by omega))
                  go_wp2_with fail
                  go_roundg (n - (k + 1))
                  case measure => have := HGK.out; omega
                  case rel => exact ⟨k + 1, by omega, rfl, by go_num, k1, hA2⟩
          · have hkn : n = k := by omega
            subst hkn
            have hgood : Hid (goodB l = true) := Lib.hid (HT.out (by
              have hN := HN.out
              exact ⟨by omega, fun i hi => (HF.out i (by omega)).1, fun i j hj hi => (HF.out i (by omega)).2 j hj, fun i hi => (hA.out i (by omega)).1, fun i q h1 h2 h3 => (hA.out i (by omega)).2 q h1 h2 h3⟩))
            go_wp2_with fail
            go_ret
            exact ⟨ret_bool hgood.out.symm, hB⟩
  · have hng : ¬ Good l := fun h => hfew h.few
    rw [goodB_false hng]
    have hf : (decide ((3 : Int) ≤ (l.length : Int)) && decide ((l.length : Int) ≤ 10)) = false := by simp; omega
    go_enter Try.func84, Try.ntmps84
    go_wp2_with fail
    refine (l1In_any _ _ _ _).mono ?_; rintro e _ ⟨rfl, rfl⟩
    rw [hf]
    go_wp2_with fail
    go_ret
    exact ⟨rfl, Below.refl _ _⟩
end Go.Proofs.Ytgjegildeejghaa
/- contracts: the model's IsPolygon; arePegs -/
namespace Go.Proofs.Ytgjegildeejghaa
open Go.ChangeShapes Go.WideShapes Go.ChangeAt Go.RowKit Go.Joins
set_option linter.unusedVariables false
set_option linter.unusedSimpArgs false
set_option maxRecDepth 4000
/-- all of them are pegs -/
def pegsB (l : List (Int × Int)) : Bool := l.all isPg
theorem pegsB_iff (l : List (Int × Int)) : pegsB l = true ↔ ∀ i, i < l.length → isPg (vx l i) = true := by
  unfold pegsB
  rw [List.all_eq_true]
  constructor
  · intro h i hi
    exact h _ (List.mem_of_getElem? (vx_get hi))
  · intro h p hp
    obtain ⟨i, hi, rfl⟩ := List.mem_iff_getElem.1 hp
    have := h i hi
    have e := vx_get hi
    rw [List.getElem?_eq_getElem hi] at e
    injection e with e
    rw [e]; exact this
theorem arePegs_any (A : Option Addr) (c : Nat) (l : List (Int × Int)) (w : World) (hn : l.length ≤ 1048576) (hR : Rd w w.heap.size A l) :
    Calls Try.prog 83 #[.slice A l.length c] w fun e w' => e = .returned (.bool (pegsB l)) ∧ Below w.heap.size w w' := by
  have HR := Lib.hid hR
  clear hR
  have HI := Lib.hid (pegsB_iff l)
  have HF := Lib.hid (fun h : ¬ pegsB l = true => (by simpa using h : pegsB l = false))
  generalize hN : l.length = n at *
  have HN := Lib.hid hN
  clear hN
  go_enter Try.func83, Try.ntmps83
  go_wp2_with fail
  go_loopg [7] n (fun g i wr => ∃ k : Nat, k ≤ n ∧ g = n - k ∧ i = .int .i64 k ∧ Below w.heap.size w wr ∧ Hid (∀ j, j < k → isPg (vx l j) = true))
  case atStart => exact ⟨0, Nat.zero_le _, rfl, rfl, Below.refl _ _, Lib.hid (fun i h => absurd h (Nat.not_lt_zero _))⟩
  case round =>
    obtain ⟨k, hk, hg, rfl, hB, hF⟩ := hrel
    rename World => wo
    have HGK := Lib.hid hg
    clear hg
    by_cases hlt : k < n
    · obtain ⟨b, off, hA, hb, hcell⟩ := HR.out (by have := HN.out; omega)
      subst hA
      obtain ⟨hc1, hc2⟩ := hcell k _ (vx_get (by have := HN.out; omega))
      clear hcell HR
      have hq1 : wo.cell? ⟨b, off + k * 2, none⟩ = some (.int .i64 (vx l k).1) := (hB.cell (p := ⟨b, off + k * 2, none⟩) hb).trans hc1
      have hq2 : wo.cell? ⟨b, off + k * 2 + 1, none⟩ = some (.int .i64 (vx l k).2) := (hB.cell (p := ⟨b, off + k * 2 + 1, none⟩) hb).trans hc2
      clear hc1 hc2
      have K1 := Lib.hid (fun W => implIsPeg_any (vx l k).1 (vx l k).2 W)
      have hzB := hB.size
      by_cases hpg : isPegB (vx l k).1 (vx l k).2 = true
      · rw [hpg] at K1
        have hF2 : Hid (∀ j, j < k + 1 → isPg (vx l j) = true) := Lib.hid (fun j hj => by
          by_cases hjk : j = k
          · subst hjk; exact hpg
          · exact hF.out j (by omega))
        clear hpg hF
        go_wp2_with fail
        refine (K1.out _).mono ?_; rintro e w1 ⟨rfl, hb1⟩
        have B1 := (Below.alloc hB hzB (.cells #[.int .i64 (vx l k).1, .int .i64 (vx l k).2] 46)).trans (hb1.mono (by simp; omega))
        go_wp2_with fail
        go_roundg (n - (k + 1))
        case measure => have := HGK.out; omega
        case rel => exact ⟨k + 1, by omega, rfl, by go_num, B1, hF2⟩
      · have hpf : isPegB (vx l k).1 (vx l k).2 = false := by simpa using hpg
        rw [hpf] at K1
        have hng : Hid (pegsB l = false) := Lib.hid (HF.out (fun h => hpg (HI.out.1 h k (by have := HN.out; omega))))
        clear hpg hpf
        go_wp2_with fail
        refine (K1.out _).mono ?_; rintro e w1 ⟨rfl, hb1⟩
        have B1 := (Below.alloc hB hzB (.cells #[.int .i64 (vx l k).1, .int .i64 (vx l k).2] 46)).trans (hb1.mono (by simp; omega))
        go_wp2_with fail
        go_ret
        exact ⟨ret_bool hng.out.symm, B1⟩
    · have hkn : n = k := by omega
      subst hkn
      have hy : Hid (pegsB l = true) := Lib.hid (HI.out.2 (fun i hi => hF.out i (by have := HN.out; omega)))
      go_wp2_with fail
      go_ret
      exact ⟨ret_bool hy.out.symm, hB⟩
end Go.Proofs.Ytgjegildeejghaa
/- contract: the corners of a polygon, each with both beside it -/
namespace Go.Proofs.Ytgjegildeejghaa
open Go.ChangeShapes Go.WideShapes Go.ChangeAt Go.RowKit Go.Joins
set_option linter.unusedVariables false
set_option linter.unusedSimpArgs false
set_option maxRecDepth 4000
theorem corner_info : (Try.prog.info? 92).map (fun i => (i.zero, i.size, i.bytes)) = some (some (.agg #[.int .i64 0, .int .i64 0, .int .i64 0, .int .i64 0, .int .i64 0, .int .i64 0]), 6, 48) := by kernel_rfl
/-- a new block of n corners: the first k of them set -/
def SetC (w : World) (g n k : Nat) (l : List (Int × Int)) : Prop :=
  g < w.heap.size ∧ (∀ j, j < n * 6 → (∃ u, w.cell? ⟨g, j, none⟩ = some u) ∧ w.frozen? ⟨g, j, none⟩ = false) ∧
    ∀ i, i < k → w.cell? ⟨g, i * 6, none⟩ = some (.int .i64 (vx l i).1) ∧ w.cell? ⟨g, i * 6 + 1, none⟩ = some (.int .i64 (vx l i).2) ∧
      w.cell? ⟨g, i * 6 + 2, none⟩ = some (.int .i64 (vx l (i + n - 1)).1) ∧ w.cell? ⟨g, i * 6 + 3, none⟩ = some (.int .i64 (vx l (i + n - 1)).2) ∧
      w.cell? ⟨g, i * 6 + 4, none⟩ = some (.int .i64 (vx l (i + 1)).1) ∧ w.cell? ⟨g, i * 6 + 5, none⟩ = some (.int .i64 (vx l (i + 1)).2)
theorem setC_new (w : World) (t : TypeId) (n : Nat) (l : List (Int × Int)) : SetC (w.alloc (.cells (madeCells #[.int .i64 0, .int .i64 0, .int .i64 0, .int .i64 0, .int .i64 0, .int .i64 0] (n * 6)) t)) w.heap.size n 0 l := by
  have hs := size_madeCells #[.int .i64 0, .int .i64 0, .int .i64 0, .int .i64 0, .int .i64 0, .int .i64 0] (n * 6)
  refine ⟨by simp, fun j hj => ⟨⟨_, by rw [cell_of_row (w.alloc _) w.heap.size j _ t (0, 0) (heap_alloc_new w _)]; exact Array.getElem?_eq_getElem (by omega)⟩, ?_⟩, fun i h => absurd h (Nat.not_lt_zero _)⟩
  · rw [frozen?_alloc_cells]; simp [World.frozen?]
theorem setC_store {w : World} {g n k : Nat} {l : List (Int × Int)} (h : SetC w g n k l) (hk : k < n) (hl : l.length = n) :
    SetC ((((((w.setCell ⟨g, k * 6, none⟩ (.int .i64 (vx l k).1)).setCell ⟨g, k * 6 + 1, none⟩ (.int .i64 (vx l k).2)).setCell ⟨g, k * 6 + 2, none⟩ (.int .i64 (vx l ((k + n - 1) % n)).1)).setCell ⟨g, k * 6 + 3, none⟩ (.int .i64 (vx l ((k + n - 1) % n)).2)).setCell ⟨g, k * 6 + 4, none⟩ (.int .i64 (vx l ((k + 1) % n)).1)).setCell ⟨g, k * 6 + 5, none⟩ (.int .i64 (vx l ((k + 1) % n)).2)) g n (k + 1) l := by
  obtain ⟨h1, h2, h3⟩ := h
  have ne : ∀ (W : World) (o o' : Nat) (v : Value), o' ≠ o → (W.setCell ⟨g, o', none⟩ v).cell? ⟨g, o, none⟩ = W.cell? ⟨g, o, none⟩ := fun W o o' v h =>
    World.cell?_setCell_other W _ _ _ (fun e => h (by injection e))
  have sm : ∀ (W : World) (o : Nat) (v : Value), (∃ u, W.cell? ⟨g, o, none⟩ = some u) → (W.setCell ⟨g, o, none⟩ v).cell? ⟨g, o, none⟩ = some v := fun W o v ⟨u, h⟩ => World.cell?_setCell_same W _ _ h
  have ex : ∀ (W : World) (o : Nat) (v : Value), (∀ j, j < n * 6 → ∃ u, W.cell? ⟨g, j, none⟩ = some u) → ∀ j, j < n * 6 → ∃ u, (W.setCell ⟨g, o, none⟩ v).cell? ⟨g, j, none⟩ = some u := fun W o v h j hj => by
    obtain ⟨u, hu⟩ := h j hj
    exact cell?_setCell_some hu
  have x0 : ∀ j, j < n * 6 → ∃ u, w.cell? ⟨g, j, none⟩ = some u := fun j hj => (h2 j hj).1
  have x1 := ex _ (k * 6) (.int .i64 (vx l k).1) x0
  have x2 := ex _ (k * 6 + 1) (.int .i64 (vx l k).2) x1
  have x3 := ex _ (k * 6 + 2) (.int .i64 (vx l ((k + n - 1) % n)).1) x2
  have x4 := ex _ (k * 6 + 3) (.int .i64 (vx l ((k + n - 1) % n)).2) x3
  have x5 := ex _ (k * 6 + 4) (.int .i64 (vx l ((k + 1) % n)).1) x4
  have x6 := ex _ (k * 6 + 5) (.int .i64 (vx l ((k + 1) % n)).2) x5
  refine ⟨by simpa [World.setCell] using h1, fun j hj => ⟨x6 j hj, ?_⟩, fun i hi => ?_⟩
  · simp only [World.frozen?_setCell]; exact (h2 j hj).2
  · by_cases hik : i = k
    · subst hik
      have p1 : vx l ((i + n - 1) % n) = vx l (i + n - 1) := by rw [← hl, vx_per]
      have p2 : vx l ((i + 1) % n) = vx l (i + 1) := by rw [← hl, vx_per]
      refine ⟨?_, ?_, ?_, ?_, ?_, ?_⟩
      · rw [ne _ _ _ _ (by omega), ne _ _ _ _ (by omega), ne _ _ _ _ (by omega), ne _ _ _ _ (by omega), ne _ _ _ _ (by omega)]; exact sm _ _ _ (x0 _ (by omega))
      · rw [ne _ _ _ _ (by omega), ne _ _ _ _ (by omega), ne _ _ _ _ (by omega), ne _ _ _ _ (by omega)]; exact sm _ _ _ (x1 _ (by omega))
      · rw [ne _ _ _ _ (by omega), ne _ _ _ _ (by omega), ne _ _ _ _ (by omega), ← p1]; exact sm _ _ _ (x2 _ (by omega))
      · rw [ne _ _ _ _ (by omega), ne _ _ _ _ (by omega), ← p1]; exact sm _ _ _ (x3 _ (by omega))
      · rw [ne _ _ _ _ (by omega), ← p2]; exact sm _ _ _ (x4 _ (by omega))
      · rw [← p2]; exact sm _ _ _ (x5 _ (by omega))
    · have hlt : i < k := by omega
      have all : ∀ r, r < 6 → ((((((w.setCell ⟨g, k * 6, none⟩ (.int .i64 (vx l k).1)).setCell ⟨g, k * 6 + 1, none⟩ (.int .i64 (vx l k).2)).setCell ⟨g, k * 6 + 2, none⟩ (.int .i64 (vx l ((k + n - 1) % n)).1)).setCell ⟨g, k * 6 + 3, none⟩ (.int .i64 (vx l ((k + n - 1) % n)).2)).setCell ⟨g, k * 6 + 4, none⟩ (.int .i64 (vx l ((k + 1) % n)).1)).setCell ⟨g, k * 6 + 5, none⟩ (.int .i64 (vx l ((k + 1) % n)).2)).cell? ⟨g, i * 6 + r, none⟩ = w.cell? ⟨g, i * 6 + r, none⟩ := fun r hr => by
        rw [ne _ _ _ _ (by omega), ne _ _ _ _ (by omega), ne _ _ _ _ (by omega), ne _ _ _ _ (by omega), ne _ _ _ _ (by omega), ne _ _ _ _ (by omega)]
      obtain ⟨c0, c1, c2, c3, c4, c5⟩ := h3 i hlt
      exact ⟨(all 0 (by omega)).trans c0, (all 1 (by omega)).trans c1, (all 2 (by omega)).trans c2, (all 3 (by omega)).trans c3, (all 4 (by omega)).trans c4, (all 5 (by omega)).trans c5⟩
theorem setC_below {w w' : World} {g n k : Nat} {l : List (Int × Int)} (h : SetC w g n k l) (hb : Below w.heap.size w w') : SetC w' g n k l := by
  obtain ⟨h1, h2, h3⟩ := h
  have hc := (bcell hb).1
  have hf := (bcell hb).2
  have hz := hb.size
  exact ⟨by omega, fun j hj => by rw [hc _ _ h1, hf _ _ h1]; exact h2 j hj, fun i hi => by
    rw [hc _ _ h1, hc _ _ h1, hc _ _ h1, hc _ _ h1, hc _ _ h1, hc _ _ h1]; exact h3 i hi⟩
theorem setC_drew {w : World} {g n k : Nat} {l : List (Int × Int)} (h : SetC w g n k l) : SetC w.drew g n k l := h
set_option maxHeartbeats 2000000 in
theorem cornersAroundW_any (A : Option Addr) (c : Nat) (l : List (Int × Int)) (w : World) (h1 : 1 ≤ l.length) (hn : l.length ≤ 60) (hR : Rd w w.heap.size A l) :
    Calls Try.prog 97 #[.slice A l.length c] w fun e w' => e = .returned (.slice (some ⟨w.heap.size, 0, none⟩) l.length l.length) ∧ Below w.heap.size w w' ∧ SetC w' w.heap.size l.length l.length l := by
  obtain ⟨i0, hi0, hz0, hz1, hz2⟩ := info_parts corner_info
  have hmk := fun W => run_make (P := Try.prog) W 97 92 i0 _ Try.underlying97 hi0 hz0 .i64 .i64 (l.length : Int) (l.length : Int) (by omega) (by omega) (by rw [hz2]; omega) (by omega)
  obtain ⟨b, off, rfl, hb, hcell⟩ := hR (by omega)
  have hC : ∀ i, i < l.length → w.cell? ⟨b, off + i * 2, none⟩ = some (.int .i64 (vx l i).1) ∧ w.cell? ⟨b, off + i * 2 + 1, none⟩ = some (.int .i64 (vx l i).2) := fun i hi => hcell i _ (vx_get hi)
  have HC := Lib.hid hC
  clear hR hC hcell
  generalize hN : l.length = n at *
  have HN := Lib.hid hN
  clear hN
  go_enter Try.func97, Try.ntmps97
  go_wp2_with fail
  have hS0 := setC_new w 92 n l
  have hB0 : Below w.heap.size w (w.alloc (.cells (madeCells #[.int .i64 0, .int .i64 0, .int .i64 0, .int .i64 0, .int .i64 0, .int .i64 0] (n * 6)) 92)) := (Below.refl _ _).alloc (Nat.le_refl _) _
  go_loopg [13] n (fun g i wr => ∃ k : Nat, k ≤ n ∧ g = n - k ∧ i = .int .i64 k ∧ Below w.heap.size w wr ∧ Hid (SetC wr w.heap.size n k l))
  case atStart => exact ⟨0, Nat.zero_le _, rfl, rfl, hB0, Lib.hid hS0⟩
  case round =>
    obtain ⟨k, hk, hg, rfl, hB, hS⟩ := hrel
    rename World => wo
    have HGK := Lib.hid hg
    clear hg hS0 hB0 hmk
    by_cases hlt : k < n
    · have hq1 : wo.cell? ⟨b, off + k * 2, none⟩ = some (.int .i64 (vx l k).1) := (hB.cell (p := ⟨b, off + k * 2, none⟩) hb).trans (HC.out k hlt).1
      have hq2 : wo.cell? ⟨b, off + k * 2 + 1, none⟩ = some (.int .i64 (vx l k).2) := (hB.cell (p := ⟨b, off + k * 2 + 1, none⟩) hb).trans (HC.out k hlt).2
      have hzB := hB.size
      have hbo : b < wo.heap.size := by omega
      have hgo := hS.out.1
      have m1 : (k + n - 1) % n < n := Nat.mod_lt _ (by omega)
      have m2 : (k + 1) % n < n := Nat.mod_lt _ (by omega)
      have q3 := (hB.cell (p := ⟨b, off + (k + n - 1) % n * 2, none⟩) hb).trans (HC.out _ m1).1
      have q4 := (hB.cell (p := ⟨b, off + (k + n - 1) % n * 2 + 1, none⟩) hb).trans (HC.out _ m1).2
      have q5 := (hB.cell (p := ⟨b, off + (k + 1) % n * 2, none⟩) hb).trans (HC.out _ m2).1
      have q6 := (hB.cell (p := ⟨b, off + (k + 1) % n * 2 + 1, none⟩) hb).trans (HC.out _ m2).2
      have st : ∀ j, j < 6 → (∃ u, wo.cell? ⟨w.heap.size, k * 6 + j, none⟩ = some u) ∧ wo.frozen? ⟨w.heap.size, k * 6 + j, none⟩ = false := fun j hj => hS.out.2.1 _ (by omega)
      obtain ⟨⟨u0, a0⟩, f0⟩ := st 0 (by omega)
      obtain ⟨⟨u1, a1⟩, f1⟩ := st 1 (by omega)
      obtain ⟨⟨u2, a2⟩, f2⟩ := st 2 (by omega)
      obtain ⟨⟨u3, a3⟩, f3⟩ := st 3 (by omega)
      obtain ⟨⟨u4, a4⟩, f4⟩ := st 4 (by omega)
      obtain ⟨⟨u5, a5⟩, f5⟩ := st 5 (by omega)
      clear st
      simp only [Nat.add_zero] at a0 f0
      go_wp2_with fail
      have e1 : IntKind.i64.wrap ((k : Int) + (n : Int)) = (k : Int) + (n : Int) := IntWalk.i64_in _ (by omega)
      have e2 : IntKind.i64.wrap ((k : Int) + (n : Int) - 1) = (k : Int) + (n : Int) - 1 := IntWalk.i64_in _ (by omega)
      have e3 : IntKind.i64.wrap ((k : Int) + 1) = (k : Int) + 1 := IntWalk.i64_in _ (by omega)
      have e4 : ¬ n = 0 := by omega
      have e5 : (0 : Int) ≤ ((k : Int) + 1) % (n : Int) := Int.emod_nonneg _ (by omega)
      have e6 : ((k : Int) + 1) % (n : Int) < (n : Int) := Int.emod_lt_of_pos _ (by omega)
      have e7 : ((k : Int) + 1).tmod (n : Int) = ((k : Int) + 1) % (n : Int) := Int.tmod_eq_emod_of_nonneg (by omega)
      have e8 : (((k : Int) + 1) % (n : Int)).toNat = (k + 1) % n := by rw [show ((k : Int) + 1) % (n : Int) = (((k + 1) % n : Nat) : Int) by simp]; exact Int.toNat_natCast _
      have e9 : (0 : Int) ≤ ((k : Int) + (n : Int) - 1) % (n : Int) := Int.emod_nonneg _ (by omega)
      have e10 : ((k : Int) + (n : Int) - 1) % (n : Int) < (n : Int) := Int.emod_lt_of_pos _ (by omega)
      have e11 : ((k : Int) + (n : Int) - 1).tmod (n : Int) = ((k : Int) + (n : Int) - 1) % (n : Int) := Int.tmod_eq_emod_of_nonneg (by omega)
      have e12 : (((k : Int) + (n : Int) - 1) % (n : Int)).toNat = (k + n - 1) % n := by rw [show ((k : Int) + (n : Int) - 1) % (n : Int) = (((k + n - 1) % n : Nat) : Int) by rw [Int.natCast_emod]; congr 1; omega]; exact Int.toNat_natCast _
      obtain ⟨W2, hW2⟩ : ∃ W2, W2 = wo.alloc (.cells #[.int .i64 (vx l k).1, .int .i64 (vx l k).2] 46) := ⟨_, rfl⟩
      have al : ∀ b' o, b' < wo.heap.size → W2.cell? ⟨b', o, none⟩ = wo.cell? ⟨b', o, none⟩ := fun b' o h => by rw [hW2]; exact World.cell?_alloc_lt wo _ _ h
      have r1 : W2.cell? ⟨wo.heap.size, 0, none⟩ = some (.int .i64 (vx l k).1) := by rw [hW2]; go_simp
      have r2 : W2.cell? ⟨wo.heap.size, 1, none⟩ = some (.int .i64 (vx l k).2) := by rw [hW2]; go_simp
      have r3 := (al _ _ hbo).trans q3
      have r4 := (al _ _ hbo).trans q4
      have r5 := (al _ _ hbo).trans q5
      have r6 := (al _ _ hbo).trans q6
      have b0 := (al _ _ hgo).trans a0
      have b1 := (al _ _ hgo).trans a1
      have b2 := (al _ _ hgo).trans a2
      have b3 := (al _ _ hgo).trans a3
      have b4 := (al _ _ hgo).trans a4
      have b5 := (al _ _ hgo).trans a5
      have fz : ∀ o, W2.frozen? ⟨w.heap.size, o, none⟩ = wo.frozen? ⟨w.heap.size, o, none⟩ := fun o => by rw [hW2]; exact frozen?_alloc_cells _ _ _ _
      have g0 := (fz _).trans f0
      have g1 := (fz _).trans f1
      have g2 := (fz _).trans f2
      have g3 := (fz _).trans f3
      have g4 := (fz _).trans f4
      have g5 := (fz _).trans f5
      rw [← hW2]
      have HW2 := Lib.hid hW2
      clear hW2 al fz q3 q4 q5 q6 a0 a1 a2 a3 a4 a5 f0 f1 f2 f3 f4 f5 hq1 hq2
      refine wp_region_still_tail 21 (by kernel_rfl) (by kernel_rfl) ?_
      change wpStill _ _ W2.drew (fun a' => wpList _ _ _ _ a' W2.drew) _ _
      simp only [List.take_succ_cons, List.take_zero, List.drop_succ_cons, List.drop_zero]
      repeat still_step
      try refine wpStill_nil ?_
      clear e1 e2 e3 e4 e5 e6 e7 e8 e9 e10 e11 e12
      have B2 : Below w.heap.size w W2 := by rw [HW2.out]; exact Below.alloc hB hzB _
      have S2 : SetC W2 w.heap.size n k l := by rw [HW2.out]; exact setC_below hS.out (Below.alloc (Below.refl _ _) (Nat.le_refl _) _)
      have S3 := Lib.hid (setC_drew (setC_store S2 hlt HN.out))
      have B3 := Lib.hid (Below.drew (Below.setCell (Below.setCell (Below.setCell (Below.setCell (Below.setCell (Below.setCell B2 (p := ⟨w.heap.size, k * 6, none⟩) (Nat.le_refl _) (.int .i64 (vx l k).1)) (p := ⟨w.heap.size, k * 6 + 1, none⟩) (Nat.le_refl _) (.int .i64 (vx l k).2)) (p := ⟨w.heap.size, k * 6 + 2, none⟩) (Nat.le_refl _) (.int .i64 (vx l ((k + n - 1) % n)).1)) (p := ⟨w.heap.size, k * 6 + 3, none⟩) (Nat.le_refl _) (.int .i64 (vx l ((k + n - 1) % n)).2)) (p := ⟨w.heap.size, k * 6 + 4, none⟩) (Nat.le_refl _) (.int .i64 (vx l ((k + 1) % n)).1)) (p := ⟨w.heap.size, k * 6 + 5, none⟩) (Nat.le_refl _) (.int .i64 (vx l ((k + 1) % n)).2)))
      clear S2 hS
      go_wp2_with fail
      go_roundg (n - (k + 1))
      case measure => have := HGK.out; omega
      case rel => exact ⟨k + 1, by omega, rfl, by go_num, B3.out, S3⟩
    · have hkn : n = k := by omega
      subst hkn
      go_wp2_with fail
      go_ret
      exact ⟨rfl, hB, hS.out⟩
theorem cornersAround_any (A : Option Addr) (c : Nat) (l : List (Int × Int)) (w : World) (h1 : 1 ≤ l.length) (hn : l.length ≤ 10) (hR : Rd w w.heap.size A l) :
    Calls Try.prog 97 #[.slice A l.length c] w fun e w' => e = .returned (.slice (some ⟨w.heap.size, 0, none⟩) l.length l.length) ∧ Below w.heap.size w w' ∧ SetC w' w.heap.size l.length l.length l := cornersAroundW_any A c l w h1 (by omega) hR
end Go.Proofs.Ytgjegildeejghaa
/- contracts: do two lines cross, do two lines meet, the program -/
namespace Go.Proofs.Ytgjegildeejghaa
open Go.ChangeShapes Go.WideShapes Go.ChangeAt Go.RowKit Go.Joins
set_option linter.unusedVariables false
set_option linter.unusedSimpArgs false
set_option maxRecDepth 4000
theorem linesCross_any (a1 a2 b1 b2 c1 c2 d1 d2 : Int) (w : World) (pa : isPegB a1 a2 = true) (pb : isPegB b1 b2 = true) (pc : isPegB c1 c2 = true) (pd : isPegB d1 d2 = true) :
    Calls Try.prog 105 #[.agg #[.int .i64 a1, .int .i64 a2], .agg #[.int .i64 b1, .int .i64 b2], .agg #[.int .i64 c1, .int .i64 c2], .agg #[.int .i64 d1, .int .i64 d2]] w fun e w' => e = .returned (.bool (decide (twI a1 a2 b1 b2 c1 c2 * twI a1 a2 b1 b2 d1 d2 < 0) && decide (twI c1 c2 d1 d2 a1 a2 * twI c1 c2 d1 d2 b1 b2 < 0))) ∧ Below w.heap.size w w' := by
  have ha := sz_of pa
  have hb := sz_of pb
  have hc := sz_of pc
  have hd := sz_of pd
  have T1 := Lib.hid (fun W => twiceThree_any a1 a2 b1 b2 c1 c2 W ha hb hc)
  have T2 := Lib.hid (fun W => twiceThree_any a1 a2 b1 b2 d1 d2 W ha hb hd)
  have T3 := Lib.hid (fun W => twiceThree_any c1 c2 d1 d2 a1 a2 W hc hd ha)
  have T4 := Lib.hid (fun W => twiceThree_any c1 c2 d1 d2 b1 b2 W hc hd hb)
  have q1 := tw_bd40 pa pb pc
  have q2 := tw_bd40 pa pb pd
  have q3 := tw_bd40 pc pd pa
  have q4 := tw_bd40 pc pd pb
  clear ha hb hc hd pa pb pc pd
  generalize twI a1 a2 b1 b2 c1 c2 = t1 at *
  generalize twI a1 a2 b1 b2 d1 d2 = t2 at *
  generalize twI c1 c2 d1 d2 a1 a2 = t3 at *
  generalize twI c1 c2 d1 d2 b1 b2 = t4 at *
  have r1 := mul_bd (m := 12800) (n := 12800) q1.1 q1.2 q2.1 q2.2
  have r2 := mul_bd (m := 12800) (n := 12800) q3.1 q3.2 q4.1 q4.2
  obtain ⟨p1, p2⟩ := r1
  obtain ⟨p3, p4⟩ := r2
  have e1 : IntKind.i64.wrap (t1 * t2) = t1 * t2 := IntWalk.i64_in _ (by omega)
  have e2 : IntKind.i64.wrap (t3 * t4) = t3 * t4 := IntWalk.i64_in _ (by omega)
  go_enter Try.func105, Try.ntmps105
  go_wp2_with fail
  by_cases hm : t1 * t2 < 0
  · have hd := decide_eq_true hm
    refine wp_region_B (fun W => Below w.heap.size w W ∧ w.heap.size + 3 < W.heap.size ∧ W.cell? ⟨w.heap.size, 0, none⟩ = some (.int .i64 a1) ∧ W.cell? ⟨w.heap.size, 1, none⟩ = some (.int .i64 a2) ∧ W.cell? ⟨w.heap.size + 1, 0, none⟩ = some (.int .i64 b1) ∧ W.cell? ⟨w.heap.size + 1, 1, none⟩ = some (.int .i64 b2) ∧ W.cell? ⟨w.heap.size + 2, 0, none⟩ = some (.int .i64 c1) ∧ W.cell? ⟨w.heap.size + 2, 1, none⟩ = some (.int .i64 c2) ∧ W.cell? ⟨w.heap.size + 3, 0, none⟩ = some (.int .i64 d1) ∧ W.cell? ⟨w.heap.size + 3, 1, none⟩ = some (.int .i64 d2)) (by kernel_rfl) (held4 (box4 w _ a1 a2 b1 b2 c1 c2 d1 d2) ((Below.refl _ _).drew)) ?_
    first | refine wpB_skip 0 rfl (by kernel_rfl) (by kernel_rfl) (by kernel_rfl) (by rfl) ?_ | (refine wpB_text 0 (v := ?_) rfl (by kernel_rfl) (by kernel_rfl) (by kernel_rfl) (by rfl) (fun W hW => ?_) ?_; rotate_left; (obtain ⟨k1, k2, k3, k4, k5, k6, k7, k8, k9, k10⟩ := hW;  go_simp; refine comes_v ?_; exact ⟨k1, k2, k3, k4, k5, k6, k7, k8, k9, k10⟩))
    (try simp only [Act.put, List.setIfInBounds_toArray, List.set_cons_zero, List.set_cons_succ])
    first | refine wpB_skip 1 rfl (by kernel_rfl) (by kernel_rfl) (by kernel_rfl) (by rfl) ?_ | (refine wpB_text 1 (v := ?_) rfl (by kernel_rfl) (by kernel_rfl) (by kernel_rfl) (by rfl) (fun W hW => ?_) ?_; rotate_left; (obtain ⟨k1, k2, k3, k4, k5, k6, k7, k8, k9, k10⟩ := hW;  go_simp; refine comes_v ?_; exact ⟨k1, k2, k3, k4, k5, k6, k7, k8, k9, k10⟩))
    (try simp only [Act.put, List.setIfInBounds_toArray, List.set_cons_zero, List.set_cons_succ])
    first | refine wpB_skip 2 rfl (by kernel_rfl) (by kernel_rfl) (by kernel_rfl) (by rfl) ?_ | (refine wpB_text 2 (v := ?_) rfl (by kernel_rfl) (by kernel_rfl) (by kernel_rfl) (by rfl) (fun W hW => ?_) ?_; rotate_left; (obtain ⟨k1, k2, k3, k4, k5, k6, k7, k8, k9, k10⟩ := hW;  go_simp; refine comes_v ?_; exact ⟨k1, k2, k3, k4, k5, k6, k7, k8, k9, k10⟩))
    (try simp only [Act.put, List.setIfInBounds_toArray, List.set_cons_zero, List.set_cons_succ])
    first | refine wpB_skip 3 rfl (by kernel_rfl) (by kernel_rfl) (by kernel_rfl) (by rfl) ?_ | (refine wpB_text 3 (v := .int .i64 t1) rfl (by kernel_rfl) (by kernel_rfl) (by kernel_rfl) (by rfl) (fun W hW => ?_) ?_; (obtain ⟨k1, k2, k3, k4, k5, k6, k7, k8, k9, k10⟩ := hW;  go_simp; exact comes_c ( T1.out _) (fun wn hbn => held4 ⟨k1, k2, k3, k4, k5, k6, k7, k8, k9, k10⟩ hbn)))
    (try simp only [Act.put, List.setIfInBounds_toArray, List.set_cons_zero, List.set_cons_succ])
    first | refine wpB_skip 4 rfl (by kernel_rfl) (by kernel_rfl) (by kernel_rfl) (by rfl) ?_ | (refine wpB_text 4 (v := ?_) rfl (by kernel_rfl) (by kernel_rfl) (by kernel_rfl) (by rfl) (fun W hW => ?_) ?_; rotate_left; (obtain ⟨k1, k2, k3, k4, k5, k6, k7, k8, k9, k10⟩ := hW;  go_simp; refine comes_v ?_; exact ⟨k1, k2, k3, k4, k5, k6, k7, k8, k9, k10⟩))
    (try simp only [Act.put, List.setIfInBounds_toArray, List.set_cons_zero, List.set_cons_succ])
    first | refine wpB_skip 5 rfl (by kernel_rfl) (by kernel_rfl) (by kernel_rfl) (by rfl) ?_ | (refine wpB_text 5 (v := ?_) rfl (by kernel_rfl) (by kernel_rfl) (by kernel_rfl) (by rfl) (fun W hW => ?_) ?_; rotate_left; (obtain ⟨k1, k2, k3, k4, k5, k6, k7, k8, k9, k10⟩ := hW;  go_simp; refine comes_v ?_; exact ⟨k1, k2, k3, k4, k5, k6, k7, k8, k9, k10⟩))
    (try simp only [Act.put, List.setIfInBounds_toArray, List.set_cons_zero, List.set_cons_succ])
    first | refine wpB_skip 6 rfl (by kernel_rfl) (by kernel_rfl) (by kernel_rfl) (by rfl) ?_ | (refine wpB_text 6 (v := ?_) rfl (by kernel_rfl) (by kernel_rfl) (by kernel_rfl) (by rfl) (fun W hW => ?_) ?_; rotate_left; (obtain ⟨k1, k2, k3, k4, k5, k6, k7, k8, k9, k10⟩ := hW;  go_simp; refine comes_v ?_; exact ⟨k1, k2, k3, k4, k5, k6, k7, k8, k9, k10⟩))
    (try simp only [Act.put, List.setIfInBounds_toArray, List.set_cons_zero, List.set_cons_succ])
    first | refine wpB_skip 7 rfl (by kernel_rfl) (by kernel_rfl) (by kernel_rfl) (by rfl) ?_ | (refine wpB_text 7 (v := .int .i64 t2) rfl (by kernel_rfl) (by kernel_rfl) (by kernel_rfl) (by rfl) (fun W hW => ?_) ?_; (obtain ⟨k1, k2, k3, k4, k5, k6, k7, k8, k9, k10⟩ := hW;  go_simp; exact comes_c ( T2.out _) (fun wn hbn => held4 ⟨k1, k2, k3, k4, k5, k6, k7, k8, k9, k10⟩ hbn)))
    (try simp only [Act.put, List.setIfInBounds_toArray, List.set_cons_zero, List.set_cons_succ])
    first | refine wpB_skip 8 rfl (by kernel_rfl) (by kernel_rfl) (by kernel_rfl) (by rfl) ?_ | (refine wpB_text 8 (v := ?_) rfl (by kernel_rfl) (by kernel_rfl) (by kernel_rfl) (by rfl) (fun W hW => ?_) ?_; rotate_left; (obtain ⟨k1, k2, k3, k4, k5, k6, k7, k8, k9, k10⟩ := hW;  go_simp; refine comes_v ?_; exact ⟨k1, k2, k3, k4, k5, k6, k7, k8, k9, k10⟩))
    (try simp only [Act.put, List.setIfInBounds_toArray, List.set_cons_zero, List.set_cons_succ])
    first | refine wpB_skip 9 rfl (by kernel_rfl) (by kernel_rfl) (by kernel_rfl) (by rfl) ?_ | (refine wpB_text 9 (v := ?_) rfl (by kernel_rfl) (by kernel_rfl) (by kernel_rfl) (by rfl) (fun W hW => ?_) ?_; rotate_left; (obtain ⟨k1, k2, k3, k4, k5, k6, k7, k8, k9, k10⟩ := hW;  go_simp; refine comes_v ?_; exact ⟨k1, k2, k3, k4, k5, k6, k7, k8, k9, k10⟩))
    (try simp only [Act.put, List.setIfInBounds_toArray, List.set_cons_zero, List.set_cons_succ])
    first | refine wpB_skip 10 rfl (by kernel_rfl) (by kernel_rfl) (by kernel_rfl) (by rfl) ?_ | (refine wpB_text 10 (v := ?_) rfl (by kernel_rfl) (by kernel_rfl) (by kernel_rfl) (by rfl) (fun W hW => ?_) ?_; rotate_left; (obtain ⟨k1, k2, k3, k4, k5, k6, k7, k8, k9, k10⟩ := hW;  go_simp; refine comes_v ?_; exact ⟨k1, k2, k3, k4, k5, k6, k7, k8, k9, k10⟩))
    (try simp only [Act.put, List.setIfInBounds_toArray, List.set_cons_zero, List.set_cons_succ])
    first | refine wpB_skip 11 rfl (by kernel_rfl) (by kernel_rfl) (by kernel_rfl) (by rfl) ?_ | (refine wpB_text 11 (v := ?_) rfl (by kernel_rfl) (by kernel_rfl) (by kernel_rfl) (by rfl) (fun W hW => ?_) ?_; rotate_left; (obtain ⟨k1, k2, k3, k4, k5, k6, k7, k8, k9, k10⟩ := hW;  go_simp; refine comes_v ?_; exact ⟨k1, k2, k3, k4, k5, k6, k7, k8, k9, k10⟩))
    (try simp only [Act.put, List.setIfInBounds_toArray, List.set_cons_zero, List.set_cons_succ])
    first | refine wpB_skip 12 rfl (by kernel_rfl) (by kernel_rfl) (by kernel_rfl) (by rfl) ?_ | (refine wpB_text 12 (v := ?_) rfl (by kernel_rfl) (by kernel_rfl) (by kernel_rfl) (by rfl) (fun W hW => ?_) ?_; rotate_left; (obtain ⟨k1, k2, k3, k4, k5, k6, k7, k8, k9, k10⟩ := hW;  go_simp; refine comes_v ?_; exact ⟨k1, k2, k3, k4, k5, k6, k7, k8, k9, k10⟩))
    (try simp only [Act.put, List.setIfInBounds_toArray, List.set_cons_zero, List.set_cons_succ])
    first | refine wpB_skip 13 rfl (by kernel_rfl) (by kernel_rfl) (by kernel_rfl) (by rfl) ?_ | (refine wpB_text 13 (v := ?_) rfl (by kernel_rfl) (by kernel_rfl) (by kernel_rfl) (by rfl) (fun W hW => ?_) ?_; rotate_left; (obtain ⟨k1, k2, k3, k4, k5, k6, k7, k8, k9, k10⟩ := hW;  go_simp; refine comes_v ?_; exact ⟨k1, k2, k3, k4, k5, k6, k7, k8, k9, k10⟩))
    (try simp only [Act.put, List.setIfInBounds_toArray, List.set_cons_zero, List.set_cons_succ])
    first | refine wpB_skip 14 rfl (by kernel_rfl) (by kernel_rfl) (by kernel_rfl) (by rfl) ?_ | (refine wpB_text 14 (v := .int .i64 t3) rfl (by kernel_rfl) (by kernel_rfl) (by kernel_rfl) (by rfl) (fun W hW => ?_) ?_; (obtain ⟨k1, k2, k3, k4, k5, k6, k7, k8, k9, k10⟩ := hW;  go_simp; exact comes_c ( T3.out _) (fun wn hbn => held4 ⟨k1, k2, k3, k4, k5, k6, k7, k8, k9, k10⟩ hbn)))
    (try simp only [Act.put, List.setIfInBounds_toArray, List.set_cons_zero, List.set_cons_succ])
    first | refine wpB_skip 15 rfl (by kernel_rfl) (by kernel_rfl) (by kernel_rfl) (by rfl) ?_ | (refine wpB_text 15 (v := ?_) rfl (by kernel_rfl) (by kernel_rfl) (by kernel_rfl) (by rfl) (fun W hW => ?_) ?_; rotate_left; (obtain ⟨k1, k2, k3, k4, k5, k6, k7, k8, k9, k10⟩ := hW;  go_simp; refine comes_v ?_; exact ⟨k1, k2, k3, k4, k5, k6, k7, k8, k9, k10⟩))
    (try simp only [Act.put, List.setIfInBounds_toArray, List.set_cons_zero, List.set_cons_succ])
    first | refine wpB_skip 16 rfl (by kernel_rfl) (by kernel_rfl) (by kernel_rfl) (by rfl) ?_ | (refine wpB_text 16 (v := ?_) rfl (by kernel_rfl) (by kernel_rfl) (by kernel_rfl) (by rfl) (fun W hW => ?_) ?_; rotate_left; (obtain ⟨k1, k2, k3, k4, k5, k6, k7, k8, k9, k10⟩ := hW;  go_simp; refine comes_v ?_; exact ⟨k1, k2, k3, k4, k5, k6, k7, k8, k9, k10⟩))
    (try simp only [Act.put, List.setIfInBounds_toArray, List.set_cons_zero, List.set_cons_succ])
    first | refine wpB_skip 17 rfl (by kernel_rfl) (by kernel_rfl) (by kernel_rfl) (by rfl) ?_ | (refine wpB_text 17 (v := ?_) rfl (by kernel_rfl) (by kernel_rfl) (by kernel_rfl) (by rfl) (fun W hW => ?_) ?_; rotate_left; (obtain ⟨k1, k2, k3, k4, k5, k6, k7, k8, k9, k10⟩ := hW;  go_simp; refine comes_v ?_; exact ⟨k1, k2, k3, k4, k5, k6, k7, k8, k9, k10⟩))
    (try simp only [Act.put, List.setIfInBounds_toArray, List.set_cons_zero, List.set_cons_succ])
    first | refine wpB_skip 18 rfl (by kernel_rfl) (by kernel_rfl) (by kernel_rfl) (by rfl) ?_ | (refine wpB_text 18 (v := .int .i64 t4) rfl (by kernel_rfl) (by kernel_rfl) (by kernel_rfl) (by rfl) (fun W hW => ?_) ?_; (obtain ⟨k1, k2, k3, k4, k5, k6, k7, k8, k9, k10⟩ := hW;  go_simp; exact comes_c ( T4.out _) (fun wn hbn => held4 ⟨k1, k2, k3, k4, k5, k6, k7, k8, k9, k10⟩ hbn)))
    (try simp only [Act.put, List.setIfInBounds_toArray, List.set_cons_zero, List.set_cons_succ])
    first | refine wpB_skip 19 rfl (by kernel_rfl) (by kernel_rfl) (by kernel_rfl) (by rfl) ?_ | (refine wpB_text 19 (v := ?_) rfl (by kernel_rfl) (by kernel_rfl) (by kernel_rfl) (by rfl) (fun W hW => ?_) ?_; rotate_left; (obtain ⟨k1, k2, k3, k4, k5, k6, k7, k8, k9, k10⟩ := hW;  go_simp; refine comes_v ?_; exact ⟨k1, k2, k3, k4, k5, k6, k7, k8, k9, k10⟩))
    (try simp only [Act.put, List.setIfInBounds_toArray, List.set_cons_zero, List.set_cons_succ])
    first | refine wpB_skip 20 rfl (by kernel_rfl) (by kernel_rfl) (by kernel_rfl) (by rfl) ?_ | (refine wpB_text 20 (v := ?_) rfl (by kernel_rfl) (by kernel_rfl) (by kernel_rfl) (by rfl) (fun W hW => ?_) ?_; rotate_left; (obtain ⟨k1, k2, k3, k4, k5, k6, k7, k8, k9, k10⟩ := hW;  go_simp; refine comes_v ?_; exact ⟨k1, k2, k3, k4, k5, k6, k7, k8, k9, k10⟩))
    (try simp only [Act.put, List.setIfInBounds_toArray, List.set_cons_zero, List.set_cons_succ])
    first | refine wpB_skip 21 rfl (by kernel_rfl) (by kernel_rfl) (by kernel_rfl) (by rfl) ?_ | (refine wpB_text 21 (v := ?_) rfl (by kernel_rfl) (by kernel_rfl) (by kernel_rfl) (by rfl) (fun W hW => ?_) ?_; rotate_left; (obtain ⟨k1, k2, k3, k4, k5, k6, k7, k8, k9, k10⟩ := hW;  go_simp; refine comes_v ?_; exact ⟨k1, k2, k3, k4, k5, k6, k7, k8, k9, k10⟩))
    (try simp only [Act.put, List.setIfInBounds_toArray, List.set_cons_zero, List.set_cons_succ])
    first | refine wpB_skip 22 rfl (by kernel_rfl) (by kernel_rfl) (by kernel_rfl) (by rfl) ?_ | (refine wpB_text 22 (v := ?_) rfl (by kernel_rfl) (by kernel_rfl) (by kernel_rfl) (by rfl) (fun W hW => ?_) ?_; rotate_left; (obtain ⟨k1, k2, k3, k4, k5, k6, k7, k8, k9, k10⟩ := hW;  go_simp; refine comes_v ?_; exact ⟨k1, k2, k3, k4, k5, k6, k7, k8, k9, k10⟩))
    (try simp only [Act.put, List.setIfInBounds_toArray, List.set_cons_zero, List.set_cons_succ])
    refine wpB_done (by kernel_rfl) ?_ _
    intro W hW; obtain ⟨k1, k2, k3, k4, k5, k6, k7, k8, k9, k10⟩ := hW
    clear e1 e2
    go_wp2_with fail
    go_ret
    exact ⟨ret_bool (by simp [hm]), k1⟩
  · have hd := decide_eq_false hm
    refine wp_region_B (fun W => Below w.heap.size w W ∧ w.heap.size + 3 < W.heap.size ∧ W.cell? ⟨w.heap.size, 0, none⟩ = some (.int .i64 a1) ∧ W.cell? ⟨w.heap.size, 1, none⟩ = some (.int .i64 a2) ∧ W.cell? ⟨w.heap.size + 1, 0, none⟩ = some (.int .i64 b1) ∧ W.cell? ⟨w.heap.size + 1, 1, none⟩ = some (.int .i64 b2) ∧ W.cell? ⟨w.heap.size + 2, 0, none⟩ = some (.int .i64 c1) ∧ W.cell? ⟨w.heap.size + 2, 1, none⟩ = some (.int .i64 c2) ∧ W.cell? ⟨w.heap.size + 3, 0, none⟩ = some (.int .i64 d1) ∧ W.cell? ⟨w.heap.size + 3, 1, none⟩ = some (.int .i64 d2)) (by kernel_rfl) (held4 (box4 w _ a1 a2 b1 b2 c1 c2 d1 d2) ((Below.refl _ _).drew)) ?_
    first | refine wpB_skip 0 rfl (by kernel_rfl) (by kernel_rfl) (by kernel_rfl) (by rfl) ?_ | (refine wpB_text 0 (v := ?_) rfl (by kernel_rfl) (by kernel_rfl) (by kernel_rfl) (by rfl) (fun W hW => ?_) ?_; rotate_left; (obtain ⟨k1, k2, k3, k4, k5, k6, k7, k8, k9, k10⟩ := hW;  go_simp; refine comes_v ?_; exact ⟨k1, k2, k3, k4, k5, k6, k7, k8, k9, k10⟩))
    (try simp only [Act.put, List.setIfInBounds_toArray, List.set_cons_zero, List.set_cons_succ])
    first | refine wpB_skip 1 rfl (by kernel_rfl) (by kernel_rfl) (by kernel_rfl) (by rfl) ?_ | (refine wpB_text 1 (v := ?_) rfl (by kernel_rfl) (by kernel_rfl) (by kernel_rfl) (by rfl) (fun W hW => ?_) ?_; rotate_left; (obtain ⟨k1, k2, k3, k4, k5, k6, k7, k8, k9, k10⟩ := hW;  go_simp; refine comes_v ?_; exact ⟨k1, k2, k3, k4, k5, k6, k7, k8, k9, k10⟩))
    (try simp only [Act.put, List.setIfInBounds_toArray, List.set_cons_zero, List.set_cons_succ])
    first | refine wpB_skip 2 rfl (by kernel_rfl) (by kernel_rfl) (by kernel_rfl) (by rfl) ?_ | (refine wpB_text 2 (v := ?_) rfl (by kernel_rfl) (by kernel_rfl) (by kernel_rfl) (by rfl) (fun W hW => ?_) ?_; rotate_left; (obtain ⟨k1, k2, k3, k4, k5, k6, k7, k8, k9, k10⟩ := hW;  go_simp; refine comes_v ?_; exact ⟨k1, k2, k3, k4, k5, k6, k7, k8, k9, k10⟩))
    (try simp only [Act.put, List.setIfInBounds_toArray, List.set_cons_zero, List.set_cons_succ])
    first | refine wpB_skip 3 rfl (by kernel_rfl) (by kernel_rfl) (by kernel_rfl) (by rfl) ?_ | (refine wpB_text 3 (v := .int .i64 t1) rfl (by kernel_rfl) (by kernel_rfl) (by kernel_rfl) (by rfl) (fun W hW => ?_) ?_; (obtain ⟨k1, k2, k3, k4, k5, k6, k7, k8, k9, k10⟩ := hW;  go_simp; exact comes_c ( T1.out _) (fun wn hbn => held4 ⟨k1, k2, k3, k4, k5, k6, k7, k8, k9, k10⟩ hbn)))
    (try simp only [Act.put, List.setIfInBounds_toArray, List.set_cons_zero, List.set_cons_succ])
    first | refine wpB_skip 4 rfl (by kernel_rfl) (by kernel_rfl) (by kernel_rfl) (by rfl) ?_ | (refine wpB_text 4 (v := ?_) rfl (by kernel_rfl) (by kernel_rfl) (by kernel_rfl) (by rfl) (fun W hW => ?_) ?_; rotate_left; (obtain ⟨k1, k2, k3, k4, k5, k6, k7, k8, k9, k10⟩ := hW;  go_simp; refine comes_v ?_; exact ⟨k1, k2, k3, k4, k5, k6, k7, k8, k9, k10⟩))
    (try simp only [Act.put, List.setIfInBounds_toArray, List.set_cons_zero, List.set_cons_succ])
    first | refine wpB_skip 5 rfl (by kernel_rfl) (by kernel_rfl) (by kernel_rfl) (by rfl) ?_ | (refine wpB_text 5 (v := ?_) rfl (by kernel_rfl) (by kernel_rfl) (by kernel_rfl) (by rfl) (fun W hW => ?_) ?_; rotate_left; (obtain ⟨k1, k2, k3, k4, k5, k6, k7, k8, k9, k10⟩ := hW;  go_simp; refine comes_v ?_; exact ⟨k1, k2, k3, k4, k5, k6, k7, k8, k9, k10⟩))
    (try simp only [Act.put, List.setIfInBounds_toArray, List.set_cons_zero, List.set_cons_succ])
    first | refine wpB_skip 6 rfl (by kernel_rfl) (by kernel_rfl) (by kernel_rfl) (by rfl) ?_ | (refine wpB_text 6 (v := ?_) rfl (by kernel_rfl) (by kernel_rfl) (by kernel_rfl) (by rfl) (fun W hW => ?_) ?_; rotate_left; (obtain ⟨k1, k2, k3, k4, k5, k6, k7, k8, k9, k10⟩ := hW;  go_simp; refine comes_v ?_; exact ⟨k1, k2, k3, k4, k5, k6, k7, k8, k9, k10⟩))
    (try simp only [Act.put, List.setIfInBounds_toArray, List.set_cons_zero, List.set_cons_succ])
    first | refine wpB_skip 7 rfl (by kernel_rfl) (by kernel_rfl) (by kernel_rfl) (by rfl) ?_ | (refine wpB_text 7 (v := .int .i64 t2) rfl (by kernel_rfl) (by kernel_rfl) (by kernel_rfl) (by rfl) (fun W hW => ?_) ?_; (obtain ⟨k1, k2, k3, k4, k5, k6, k7, k8, k9, k10⟩ := hW;  go_simp; exact comes_c ( T2.out _) (fun wn hbn => held4 ⟨k1, k2, k3, k4, k5, k6, k7, k8, k9, k10⟩ hbn)))
    (try simp only [Act.put, List.setIfInBounds_toArray, List.set_cons_zero, List.set_cons_succ])
    first | refine wpB_skip 8 rfl (by kernel_rfl) (by kernel_rfl) (by kernel_rfl) (by rfl) ?_ | (refine wpB_text 8 (v := ?_) rfl (by kernel_rfl) (by kernel_rfl) (by kernel_rfl) (by rfl) (fun W hW => ?_) ?_; rotate_left; (obtain ⟨k1, k2, k3, k4, k5, k6, k7, k8, k9, k10⟩ := hW;  go_simp; refine comes_v ?_; exact ⟨k1, k2, k3, k4, k5, k6, k7, k8, k9, k10⟩))
    (try simp only [Act.put, List.setIfInBounds_toArray, List.set_cons_zero, List.set_cons_succ])
    first | refine wpB_skip 9 rfl (by kernel_rfl) (by kernel_rfl) (by kernel_rfl) (by rfl) ?_ | (refine wpB_text 9 (v := ?_) rfl (by kernel_rfl) (by kernel_rfl) (by kernel_rfl) (by rfl) (fun W hW => ?_) ?_; rotate_left; (obtain ⟨k1, k2, k3, k4, k5, k6, k7, k8, k9, k10⟩ := hW;  go_simp; refine comes_v ?_; exact ⟨k1, k2, k3, k4, k5, k6, k7, k8, k9, k10⟩))
    (try simp only [Act.put, List.setIfInBounds_toArray, List.set_cons_zero, List.set_cons_succ])
    first | refine wpB_skip 10 rfl (by kernel_rfl) (by kernel_rfl) (by kernel_rfl) (by rfl) ?_ | (refine wpB_text 10 (v := ?_) rfl (by kernel_rfl) (by kernel_rfl) (by kernel_rfl) (by rfl) (fun W hW => ?_) ?_; rotate_left; (obtain ⟨k1, k2, k3, k4, k5, k6, k7, k8, k9, k10⟩ := hW;  go_simp; refine comes_v ?_; exact ⟨k1, k2, k3, k4, k5, k6, k7, k8, k9, k10⟩))
    (try simp only [Act.put, List.setIfInBounds_toArray, List.set_cons_zero, List.set_cons_succ])
    first | refine wpB_skip 11 rfl (by kernel_rfl) (by kernel_rfl) (by kernel_rfl) (by rfl) ?_ | (refine wpB_text 11 (v := ?_) rfl (by kernel_rfl) (by kernel_rfl) (by kernel_rfl) (by rfl) (fun W hW => ?_) ?_; rotate_left; (obtain ⟨k1, k2, k3, k4, k5, k6, k7, k8, k9, k10⟩ := hW;  go_simp; refine comes_v ?_; exact ⟨k1, k2, k3, k4, k5, k6, k7, k8, k9, k10⟩))
    (try simp only [Act.put, List.setIfInBounds_toArray, List.set_cons_zero, List.set_cons_succ])
    first | refine wpB_skip 12 rfl (by kernel_rfl) (by kernel_rfl) (by kernel_rfl) (by rfl) ?_ | (refine wpB_text 12 (v := ?_) rfl (by kernel_rfl) (by kernel_rfl) (by kernel_rfl) (by rfl) (fun W hW => ?_) ?_; rotate_left; (obtain ⟨k1, k2, k3, k4, k5, k6, k7, k8, k9, k10⟩ := hW;  go_simp; refine comes_v ?_; exact ⟨k1, k2, k3, k4, k5, k6, k7, k8, k9, k10⟩))
    (try simp only [Act.put, List.setIfInBounds_toArray, List.set_cons_zero, List.set_cons_succ])
    first | refine wpB_skip 13 rfl (by kernel_rfl) (by kernel_rfl) (by kernel_rfl) (by rfl) ?_ | (refine wpB_text 13 (v := ?_) rfl (by kernel_rfl) (by kernel_rfl) (by kernel_rfl) (by rfl) (fun W hW => ?_) ?_; rotate_left; (obtain ⟨k1, k2, k3, k4, k5, k6, k7, k8, k9, k10⟩ := hW;  go_simp; refine comes_v ?_; exact ⟨k1, k2, k3, k4, k5, k6, k7, k8, k9, k10⟩))
    (try simp only [Act.put, List.setIfInBounds_toArray, List.set_cons_zero, List.set_cons_succ])
    first | refine wpB_skip 14 rfl (by kernel_rfl) (by kernel_rfl) (by kernel_rfl) (by rfl) ?_ | (refine wpB_text 14 (v := .int .i64 t3) rfl (by kernel_rfl) (by kernel_rfl) (by kernel_rfl) (by rfl) (fun W hW => ?_) ?_; (obtain ⟨k1, k2, k3, k4, k5, k6, k7, k8, k9, k10⟩ := hW;  go_simp; exact comes_c ( T3.out _) (fun wn hbn => held4 ⟨k1, k2, k3, k4, k5, k6, k7, k8, k9, k10⟩ hbn)))
    (try simp only [Act.put, List.setIfInBounds_toArray, List.set_cons_zero, List.set_cons_succ])
    first | refine wpB_skip 15 rfl (by kernel_rfl) (by kernel_rfl) (by kernel_rfl) (by rfl) ?_ | (refine wpB_text 15 (v := ?_) rfl (by kernel_rfl) (by kernel_rfl) (by kernel_rfl) (by rfl) (fun W hW => ?_) ?_; rotate_left; (obtain ⟨k1, k2, k3, k4, k5, k6, k7, k8, k9, k10⟩ := hW;  go_simp; refine comes_v ?_; exact ⟨k1, k2, k3, k4, k5, k6, k7, k8, k9, k10⟩))
    (try simp only [Act.put, List.setIfInBounds_toArray, List.set_cons_zero, List.set_cons_succ])
    first | refine wpB_skip 16 rfl (by kernel_rfl) (by kernel_rfl) (by kernel_rfl) (by rfl) ?_ | (refine wpB_text 16 (v := ?_) rfl (by kernel_rfl) (by kernel_rfl) (by kernel_rfl) (by rfl) (fun W hW => ?_) ?_; rotate_left; (obtain ⟨k1, k2, k3, k4, k5, k6, k7, k8, k9, k10⟩ := hW;  go_simp; refine comes_v ?_; exact ⟨k1, k2, k3, k4, k5, k6, k7, k8, k9, k10⟩))
    (try simp only [Act.put, List.setIfInBounds_toArray, List.set_cons_zero, List.set_cons_succ])
    first | refine wpB_skip 17 rfl (by kernel_rfl) (by kernel_rfl) (by kernel_rfl) (by rfl) ?_ | (refine wpB_text 17 (v := ?_) rfl (by kernel_rfl) (by kernel_rfl) (by kernel_rfl) (by rfl) (fun W hW => ?_) ?_; rotate_left; (obtain ⟨k1, k2, k3, k4, k5, k6, k7, k8, k9, k10⟩ := hW;  go_simp; refine comes_v ?_; exact ⟨k1, k2, k3, k4, k5, k6, k7, k8, k9, k10⟩))
    (try simp only [Act.put, List.setIfInBounds_toArray, List.set_cons_zero, List.set_cons_succ])
    first | refine wpB_skip 18 rfl (by kernel_rfl) (by kernel_rfl) (by kernel_rfl) (by rfl) ?_ | (refine wpB_text 18 (v := .int .i64 t4) rfl (by kernel_rfl) (by kernel_rfl) (by kernel_rfl) (by rfl) (fun W hW => ?_) ?_; (obtain ⟨k1, k2, k3, k4, k5, k6, k7, k8, k9, k10⟩ := hW;  go_simp; exact comes_c ( T4.out _) (fun wn hbn => held4 ⟨k1, k2, k3, k4, k5, k6, k7, k8, k9, k10⟩ hbn)))
    (try simp only [Act.put, List.setIfInBounds_toArray, List.set_cons_zero, List.set_cons_succ])
    first | refine wpB_skip 19 rfl (by kernel_rfl) (by kernel_rfl) (by kernel_rfl) (by rfl) ?_ | (refine wpB_text 19 (v := ?_) rfl (by kernel_rfl) (by kernel_rfl) (by kernel_rfl) (by rfl) (fun W hW => ?_) ?_; rotate_left; (obtain ⟨k1, k2, k3, k4, k5, k6, k7, k8, k9, k10⟩ := hW;  go_simp; refine comes_v ?_; exact ⟨k1, k2, k3, k4, k5, k6, k7, k8, k9, k10⟩))
    (try simp only [Act.put, List.setIfInBounds_toArray, List.set_cons_zero, List.set_cons_succ])
    first | refine wpB_skip 20 rfl (by kernel_rfl) (by kernel_rfl) (by kernel_rfl) (by rfl) ?_ | (refine wpB_text 20 (v := ?_) rfl (by kernel_rfl) (by kernel_rfl) (by kernel_rfl) (by rfl) (fun W hW => ?_) ?_; rotate_left; (obtain ⟨k1, k2, k3, k4, k5, k6, k7, k8, k9, k10⟩ := hW;  go_simp; refine comes_v ?_; exact ⟨k1, k2, k3, k4, k5, k6, k7, k8, k9, k10⟩))
    (try simp only [Act.put, List.setIfInBounds_toArray, List.set_cons_zero, List.set_cons_succ])
    first | refine wpB_skip 21 rfl (by kernel_rfl) (by kernel_rfl) (by kernel_rfl) (by rfl) ?_ | (refine wpB_text 21 (v := ?_) rfl (by kernel_rfl) (by kernel_rfl) (by kernel_rfl) (by rfl) (fun W hW => ?_) ?_; rotate_left; (obtain ⟨k1, k2, k3, k4, k5, k6, k7, k8, k9, k10⟩ := hW;  go_simp; refine comes_v ?_; exact ⟨k1, k2, k3, k4, k5, k6, k7, k8, k9, k10⟩))
    (try simp only [Act.put, List.setIfInBounds_toArray, List.set_cons_zero, List.set_cons_succ])
    first | refine wpB_skip 22 rfl (by kernel_rfl) (by kernel_rfl) (by kernel_rfl) (by rfl) ?_ | (refine wpB_text 22 (v := ?_) rfl (by kernel_rfl) (by kernel_rfl) (by kernel_rfl) (by rfl) (fun W hW => ?_) ?_; rotate_left; (obtain ⟨k1, k2, k3, k4, k5, k6, k7, k8, k9, k10⟩ := hW;  go_simp; refine comes_v ?_; exact ⟨k1, k2, k3, k4, k5, k6, k7, k8, k9, k10⟩))
    (try simp only [Act.put, List.setIfInBounds_toArray, List.set_cons_zero, List.set_cons_succ])
    refine wpB_done (by kernel_rfl) ?_ _
    intro W hW; obtain ⟨k1, k2, k3, k4, k5, k6, k7, k8, k9, k10⟩ := hW
    clear e1 e2
    go_wp2_with fail
    go_ret
    exact ⟨ret_bool (by simp [hm]), k1⟩
theorem linesMeet_any (a1 a2 b1 b2 c1 c2 d1 d2 : Int) (w : World) (pa : isPegB a1 a2 = true) (pb : isPegB b1 b2 = true) (pc : isPegB c1 c2 = true) (pd : isPegB d1 d2 = true) :
    Calls Try.prog 103 #[.agg #[.int .i64 a1, .int .i64 a2], .agg #[.int .i64 b1, .int .i64 b2], .agg #[.int .i64 c1, .int .i64 c2], .agg #[.int .i64 d1, .int .i64 d2]] w fun e w' => e = .returned (.bool (meetB a1 a2 b1 b2 c1 c2 d1 d2)) ∧ Below w.heap.size w w' := by
  have ha := sz_of pa
  have hb := sz_of pb
  have hc := sz_of pc
  have hd := sz_of pd
  have K1 := Lib.hid (fun W => isBetween_any a1 a2 c1 c2 d1 d2 W ha hc hd)
  have K2 := Lib.hid (fun W => isBetween_any b1 b2 c1 c2 d1 d2 W hb hc hd)
  have K3 := Lib.hid (fun W => isBetween_any c1 c2 a1 a2 b1 b2 W hc ha hb)
  have K4 := Lib.hid (fun W => isBetween_any d1 d2 a1 a2 b1 b2 W hd ha hb)
  have KX := Lib.hid (fun W => linesCross_any a1 a2 b1 b2 c1 c2 d1 d2 W pa pb pc pd)
  clear ha hb hc hd pa pb pc pd
  have eq : meetB a1 a2 b1 b2 c1 c2 d1 d2 = (onB c1 c2 d1 d2 a1 a2 || onB c1 c2 d1 d2 b1 b2 || onB a1 a2 b1 b2 c1 c2 || onB a1 a2 b1 b2 d1 d2 ||
      (decide (twI a1 a2 b1 b2 c1 c2 * twI a1 a2 b1 b2 d1 d2 < 0) && decide (twI c1 c2 d1 d2 a1 a2 * twI c1 c2 d1 d2 b1 b2 < 0))) := by
    unfold meetB; rw [Bool.decide_and]
    generalize onB a1 a2 b1 b2 c1 c2 = o1
    generalize onB a1 a2 b1 b2 d1 d2 = o2
    generalize onB c1 c2 d1 d2 a1 a2 = o3
    generalize onB c1 c2 d1 d2 b1 b2 = o4
    cases o1 <;> cases o2 <;> cases o3 <;> cases o4 <;> rfl
  rw [eq]
  clear eq
  generalize twI a1 a2 b1 b2 c1 c2 = t1 at *
  generalize twI a1 a2 b1 b2 d1 d2 = t2 at *
  generalize twI c1 c2 d1 d2 a1 a2 = t3 at *
  generalize twI c1 c2 d1 d2 b1 b2 = t4 at *
  generalize onB c1 c2 d1 d2 a1 a2 = o1 at *
  generalize onB c1 c2 d1 d2 b1 b2 = o2 at *
  generalize onB a1 a2 b1 b2 c1 c2 = o3 at *
  generalize onB a1 a2 b1 b2 d1 d2 = o4 at *
  cases o1
  · go_enter Try.func103, Try.ntmps103
    go_wp2_with fail
    refine (K1.out _).mono ?_; rintro e w1 ⟨rfl, hb1⟩
    obtain ⟨hc1, hf1⟩ := bcell hb1
    have z1_0 : w.heap.size < w1.heap.size := by (have := hb1.size; simp at this; omega)
    have z1_1 : w.heap.size + 1 < w1.heap.size := by (have := hb1.size; simp at this; omega)
    have z1_2 : w.heap.size + 2 < w1.heap.size := by (have := hb1.size; simp at this; omega)
    have z1_3 : w.heap.size + 3 < w1.heap.size := by (have := hb1.size; simp at this; omega)
    have B1 : Below w.heap.size w w1 := (Below.alloc (Below.alloc (Below.alloc (Below.alloc (Below.refl _ _) (by simp <;> omega) _) (by simp <;> omega) _) (by simp <;> omega) _) (by simp <;> omega) _).trans (hb1.mono (by simp <;> omega))
    go_wp2_with fail
    cases o2
    · refine (K2.out _).mono ?_; rintro e w2 ⟨rfl, hb2⟩
      obtain ⟨hc2, hf2⟩ := bcell hb2
      have z2_0 : w.heap.size < w2.heap.size := by (have := hb2.size; omega)
      have z2_1 : w.heap.size + 1 < w2.heap.size := by (have := hb2.size; omega)
      have z2_2 : w.heap.size + 2 < w2.heap.size := by (have := hb2.size; omega)
      have z2_3 : w.heap.size + 3 < w2.heap.size := by (have := hb2.size; omega)
      have B2 : Below w.heap.size w w2 := B1.trans (hb2.mono (by have := B1.size; omega))
      go_wp2_with fail
      cases o3
      · refine (K3.out _).mono ?_; rintro e w3 ⟨rfl, hb3⟩
        obtain ⟨hc3, hf3⟩ := bcell hb3
        have z3_0 : w.heap.size < w3.heap.size := by (have := hb3.size; omega)
        have z3_1 : w.heap.size + 1 < w3.heap.size := by (have := hb3.size; omega)
        have z3_2 : w.heap.size + 2 < w3.heap.size := by (have := hb3.size; omega)
        have z3_3 : w.heap.size + 3 < w3.heap.size := by (have := hb3.size; omega)
        have B3 : Below w.heap.size w w3 := B2.trans (hb3.mono (by have := B2.size; omega))
        go_wp2_with fail
        cases o4
        · refine (K4.out _).mono ?_; rintro e w4 ⟨rfl, hb4⟩
          obtain ⟨hc4, hf4⟩ := bcell hb4
          have z4_0 : w.heap.size < w4.heap.size := by (have := hb4.size; omega)
          have z4_1 : w.heap.size + 1 < w4.heap.size := by (have := hb4.size; omega)
          have z4_2 : w.heap.size + 2 < w4.heap.size := by (have := hb4.size; omega)
          have z4_3 : w.heap.size + 3 < w4.heap.size := by (have := hb4.size; omega)
          have B4 : Below w.heap.size w w4 := B3.trans (hb4.mono (by have := B3.size; omega))
          go_wp2_with fail
          refine (KX.out _).mono ?_; rintro e w5 ⟨rfl, hb5⟩
          obtain ⟨hc5, hf5⟩ := bcell hb5
          have z5_0 : w.heap.size < w5.heap.size := by (have := hb5.size; omega)
          have z5_1 : w.heap.size + 1 < w5.heap.size := by (have := hb5.size; omega)
          have z5_2 : w.heap.size + 2 < w5.heap.size := by (have := hb5.size; omega)
          have z5_3 : w.heap.size + 3 < w5.heap.size := by (have := hb5.size; omega)
          have B5 : Below w.heap.size w w5 := B4.trans (hb5.mono (by have := B4.size; omega))
          go_wp2_with fail
          go_ret
          exact ⟨rfl, B5⟩
        · refine (K4.out _).mono ?_; rintro e w4 ⟨rfl, hb4⟩
          obtain ⟨hc4, hf4⟩ := bcell hb4
          have z4_0 : w.heap.size < w4.heap.size := by (have := hb4.size; omega)
          have z4_1 : w.heap.size + 1 < w4.heap.size := by (have := hb4.size; omega)
          have z4_2 : w.heap.size + 2 < w4.heap.size := by (have := hb4.size; omega)
          have z4_3 : w.heap.size + 3 < w4.heap.size := by (have := hb4.size; omega)
          have B4 : Below w.heap.size w w4 := B3.trans (hb4.mono (by have := B3.size; omega))
          go_wp2_with fail
          go_ret
          exact ⟨rfl, B4⟩
      · refine (K3.out _).mono ?_; rintro e w3 ⟨rfl, hb3⟩
        obtain ⟨hc3, hf3⟩ := bcell hb3
        have z3_0 : w.heap.size < w3.heap.size := by (have := hb3.size; omega)
        have z3_1 : w.heap.size + 1 < w3.heap.size := by (have := hb3.size; omega)
        have z3_2 : w.heap.size + 2 < w3.heap.size := by (have := hb3.size; omega)
        have z3_3 : w.heap.size + 3 < w3.heap.size := by (have := hb3.size; omega)
        have B3 : Below w.heap.size w w3 := B2.trans (hb3.mono (by have := B2.size; omega))
        go_wp2_with fail
        go_ret
        exact ⟨rfl, B3⟩
    · refine (K2.out _).mono ?_; rintro e w2 ⟨rfl, hb2⟩
      obtain ⟨hc2, hf2⟩ := bcell hb2
      have z2_0 : w.heap.size < w2.heap.size := by (have := hb2.size; omega)
      have z2_1 : w.heap.size + 1 < w2.heap.size := by (have := hb2.size; omega)
      have z2_2 : w.heap.size + 2 < w2.heap.size := by (have := hb2.size; omega)
      have z2_3 : w.heap.size + 3 < w2.heap.size := by (have := hb2.size; omega)
      have B2 : Below w.heap.size w w2 := B1.trans (hb2.mono (by have := B1.size; omega))
      go_wp2_with fail
      go_ret
      exact ⟨rfl, B2⟩
  · go_enter Try.func103, Try.ntmps103
    go_wp2_with fail
    refine (K1.out _).mono ?_; rintro e w1 ⟨rfl, hb1⟩
    obtain ⟨hc1, hf1⟩ := bcell hb1
    have z1_0 : w.heap.size < w1.heap.size := by (have := hb1.size; simp at this; omega)
    have z1_1 : w.heap.size + 1 < w1.heap.size := by (have := hb1.size; simp at this; omega)
    have z1_2 : w.heap.size + 2 < w1.heap.size := by (have := hb1.size; simp at this; omega)
    have z1_3 : w.heap.size + 3 < w1.heap.size := by (have := hb1.size; simp at this; omega)
    have B1 : Below w.heap.size w w1 := (Below.alloc (Below.alloc (Below.alloc (Below.alloc (Below.refl _ _) (by simp <;> omega) _) (by simp <;> omega) _) (by simp <;> omega) _) (by simp <;> omega) _).trans (hb1.mono (by simp <;> omega))
    go_wp2_with fail
    go_ret
    exact ⟨rfl, B1⟩
end Go.Proofs.Ytgjegildeejghaa
/- contracts: a corner's turn; two lines of a polygon that cross -/
namespace Go.Proofs.Ytgjegildeejghaa
open Go.ChangeShapes Go.WideShapes Go.ChangeAt Go.RowKit Go.Joins
set_option linter.unusedVariables false
set_option linter.unusedSimpArgs false
set_option maxRecDepth 4000
theorem turn_any (p1 p2 b1 b2 c1 c2 : Int) (w : World) (hp : Sz p1 p2) (hb : Sz b1 b2) (hc : Sz c1 c2) :
    Calls Try.prog 98 #[.agg #[.int .i64 p1, .int .i64 p2, .int .i64 b1, .int .i64 b2, .int .i64 c1, .int .i64 c2]] w fun e w' => e = .returned (.int .i64 (twI b1 b2 p1 p2 c1 c2)) ∧ Below w.heap.size w w' := by
  have K := Lib.hid (fun W => twiceThree_any b1 b2 p1 p2 c1 c2 W hb hp hc)
  go_enter Try.func98, Try.ntmps98
  go_wp2_with fail
  refine (K.out _).mono ?_; rintro e w1 ⟨rfl, hb1⟩
  obtain ⟨hc1, hf1⟩ := bcell hb1
  have z1_0 : w.heap.size < w1.heap.size := by (have := hb1.size; simp at this; omega)
  have B1 : Below w.heap.size w w1 := (Below.alloc (Below.refl _ _) (by simp <;> omega) _).trans (hb1.mono (by simp <;> omega))
  go_wp2_with fail
  go_ret
  exact ⟨rfl, B1⟩
/-- two lines, each from a corner to the one behind it, cross: lines next to each other are left out -/
def crB (p1 p2 c1 c2 q1 q2 d1 d2 : Int) : Bool := !(decide (c1 = q1) && decide (c2 = q2)) && !(decide (d1 = p1) && decide (d2 = p2)) && meetB p1 p2 c1 c2 q1 q2 d1 d2
theorem isCrossing_any (p1 p2 b1 b2 c1 c2 q1 q2 a1 a2 d1 d2 : Int) (w : World) (hp : isPegB p1 p2 = true) (hc : isPegB c1 c2 = true) (hq : isPegB q1 q2 = true) (hd : isPegB d1 d2 = true) :
    Calls Try.prog 99 #[.agg #[.int .i64 p1, .int .i64 p2, .int .i64 b1, .int .i64 b2, .int .i64 c1, .int .i64 c2], .agg #[.int .i64 q1, .int .i64 q2, .int .i64 a1, .int .i64 a2, .int .i64 d1, .int .i64 d2]] w fun e w' => e = .returned (.bool (crB p1 p2 c1 c2 q1 q2 d1 d2)) ∧ Below w.heap.size w w' := by
  have K := Lib.hid (fun W => linesMeet_any p1 p2 c1 c2 q1 q2 d1 d2 W hp hc hq hd)
  clear hp hc hq hd
  by_cases h1 : c1 = q1 ∧ c2 = q2
  · obtain ⟨rfl, rfl⟩ := h1
    go_enter Try.func99, Try.ntmps99
    go_wp2_with fail
    go_ret
    exact ⟨ret_bool (by simp [crB]), (by repeat (first | exact Below.refl _ _ | assumption | apply Below.drew | refine Below.alloc ?_ (by simp <;> omega) _))⟩
  · by_cases h2 : d1 = p1 ∧ d2 = p2
    · obtain ⟨rfl, rfl⟩ := h2
      by_cases h3 : c1 = q1
      · have h4 : ¬ c2 = q2 := fun h => h1 ⟨h3, h⟩
        subst h3
        clear h1
        go_enter Try.func99, Try.ntmps99
        go_wp2_with fail
        go_ret
        exact ⟨ret_bool (by simp [crB]), (by repeat (first | exact Below.refl _ _ | assumption | apply Below.drew | refine Below.alloc ?_ (by simp <;> omega) _))⟩
      · clear h1
        go_enter Try.func99, Try.ntmps99
        go_wp2_with fail
        go_ret
        exact ⟨ret_bool (by simp [crB]), (by repeat (first | exact Below.refl _ _ | assumption | apply Below.drew | refine Below.alloc ?_ (by simp <;> omega) _))⟩
    · have e : crB p1 p2 c1 c2 q1 q2 d1 d2 = meetB p1 p2 c1 c2 q1 q2 d1 d2 := by
        have x1 : (decide (c1 = q1) && decide (c2 = q2)) = false := by simpa using h1
        have x2 : (decide (d1 = p1) && decide (d2 = p2)) = false := by simpa using h2
        unfold crB; rw [x1, x2]; rfl
      rw [e]
      clear e
      generalize meetB p1 p2 c1 c2 q1 q2 d1 d2 = m at *
      by_cases h3 : c1 = q1 <;> by_cases h4 : d1 = p1
      · have h5 : ¬ c2 = q2 := fun h => h1 ⟨h3, h⟩
        have h6 : ¬ d2 = p2 := fun h => h2 ⟨h4, h⟩
        subst h3 h4
        clear h1 h2
        go_enter Try.func99, Try.ntmps99
        go_wp2_with fail
        refine (K.out _).mono ?_; rintro e w1 ⟨rfl, hb1⟩
        obtain ⟨hc1, hf1⟩ := bcell hb1
        have z1_0 : w.heap.size < w1.heap.size := by (have := hb1.size; simp at this; omega)
        have z1_1 : w.heap.size + 1 < w1.heap.size := by (have := hb1.size; simp at this; omega)
        have B1 : Below w.heap.size w w1 := (Below.alloc (Below.alloc (Below.refl _ _) (by simp <;> omega) _) (by simp <;> omega) _).trans (hb1.mono (by simp <;> omega))
        go_wp2_with fail
        go_ret
        exact ⟨rfl, B1⟩
      · have h5 : ¬ c2 = q2 := fun h => h1 ⟨h3, h⟩
        subst h3
        clear h1 h2
        go_enter Try.func99, Try.ntmps99
        go_wp2_with fail
        refine (K.out _).mono ?_; rintro e w1 ⟨rfl, hb1⟩
        obtain ⟨hc1, hf1⟩ := bcell hb1
        have z1_0 : w.heap.size < w1.heap.size := by (have := hb1.size; simp at this; omega)
        have z1_1 : w.heap.size + 1 < w1.heap.size := by (have := hb1.size; simp at this; omega)
        have B1 : Below w.heap.size w w1 := (Below.alloc (Below.alloc (Below.refl _ _) (by simp <;> omega) _) (by simp <;> omega) _).trans (hb1.mono (by simp <;> omega))
        go_wp2_with fail
        go_ret
        exact ⟨rfl, B1⟩
      · have h6 : ¬ d2 = p2 := fun h => h2 ⟨h4, h⟩
        subst h4
        clear h1 h2
        go_enter Try.func99, Try.ntmps99
        go_wp2_with fail
        refine (K.out _).mono ?_; rintro e w1 ⟨rfl, hb1⟩
        obtain ⟨hc1, hf1⟩ := bcell hb1
        have z1_0 : w.heap.size < w1.heap.size := by (have := hb1.size; simp at this; omega)
        have z1_1 : w.heap.size + 1 < w1.heap.size := by (have := hb1.size; simp at this; omega)
        have B1 : Below w.heap.size w w1 := (Below.alloc (Below.alloc (Below.refl _ _) (by simp <;> omega) _) (by simp <;> omega) _).trans (hb1.mono (by simp <;> omega))
        go_wp2_with fail
        go_ret
        exact ⟨rfl, B1⟩
      · clear h1 h2
        go_enter Try.func99, Try.ntmps99
        go_wp2_with fail
        refine (K.out _).mono ?_; rintro e w1 ⟨rfl, hb1⟩
        obtain ⟨hc1, hf1⟩ := bcell hb1
        have z1_0 : w.heap.size < w1.heap.size := by (have := hb1.size; simp at this; omega)
        have z1_1 : w.heap.size + 1 < w1.heap.size := by (have := hb1.size; simp at this; omega)
        have B1 : Below w.heap.size w w1 := (Below.alloc (Below.alloc (Below.refl _ _) (by simp <;> omega) _) (by simp <;> omega) _).trans (hb1.mono (by simp <;> omega))
        go_wp2_with fail
        go_ret
        exact ⟨rfl, B1⟩
end Go.Proofs.Ytgjegildeejghaa
/- contract: the program's test of a polygon -/
namespace Go.Proofs.Ytgjegildeejghaa
open Go.ChangeShapes Go.WideShapes Go.ChangeAt Go.RowKit Go.Joins
set_option linter.unusedVariables false
set_option linter.unusedSimpArgs false
set_option maxRecDepth 4000
theorem onB_or (a b c d e : Bool) : (a || b || c || d || e) = (c || d || a || b || e) := by cases a <;> cases b <;> cases c <;> cases d <;> rfl
theorem meetB_comm (a1 a2 b1 b2 c1 c2 d1 d2 : Int) : meetB a1 a2 b1 b2 c1 c2 d1 d2 = meetB c1 c2 d1 d2 a1 a2 b1 b2 := by
  unfold meetB; rw [onB_or]; congr 1; rw [decide_eq_decide]; exact And.comm
theorem meP_comm (a b c d : Int × Int) : meP a b c d = meP c d a b := meetB_comm ..
theorem vx_add (l : List (Int × Int)) (i : Nat) : vx l (i + l.length) = vx l i := by unfold vx; rw [Nat.add_mod_right]
def crP (p c q d : Int × Int) : Bool := crB p.1 p.2 c.1 c.2 q.1 q.2 d.1 d.2
theorem crP_iff (p c q d : Int × Int) : crP p c q d = false ↔ (c = q ∨ d = p ∨ meP p c q d = false) := by
  unfold crP crB meP
  have e1 : c = q ↔ c.1 = q.1 ∧ c.2 = q.2 := ⟨fun h => by rw [h]; exact ⟨rfl, rfl⟩, fun h => Prod.ext h.1 h.2⟩
  have e2 : d = p ↔ d.1 = p.1 ∧ d.2 = p.2 := ⟨fun h => by rw [h]; exact ⟨rfl, rfl⟩, fun h => Prod.ext h.1 h.2⟩
  rw [e1, e2]
  generalize meetB p.1 p.2 c.1 c.2 q.1 q.2 d.1 d.2 = m
  by_cases h1 : c.1 = q.1 <;> by_cases h2 : c.2 = q.2 <;> by_cases h3 : d.1 = p.1 <;> by_cases h4 : d.2 = p.2 <;> simp [h1, h2, h3, h4]
/-- what the program looks at, corner by corner -/
def Seen (l : List (Int × Int)) (k : Nat) : Prop := ∀ i, i < k → twP (vx l (i + l.length - 1)) (vx l i) (vx l (i + 1)) ≠ 0 ∧ ∀ j, j < i → vx l i ≠ vx l j ∧ crP (vx l i) (vx l (i + 1)) (vx l j) (vx l (j + 1)) = false
theorem good_seen {l : List (Int × Int)} (h : Good l) : Seen l l.length := by
  intro i hi
  have hn := h.few.1
  refine ⟨?_, fun j hj => ⟨h.diff i j hj hi, ?_⟩⟩
  · by_cases h0 : i = 0
    · subst h0
      have := h.turn (l.length - 1) (by omega)
      rw [show l.length - 1 + 1 = 0 + l.length by omega, show l.length - 1 + 2 = 1 + l.length by omega, vx_add, vx_add] at this
      rw [show 0 + l.length - 1 = l.length - 1 by omega]; exact this
    · have := h.turn (i - 1) (by omega)
      rw [show i - 1 + 1 = i by omega, show i - 1 + 2 = i + 1 by omega] at this
      rw [show i + l.length - 1 = (i - 1) + l.length by omega, vx_add]; exact this
  · rw [crP_iff]
    by_cases h1 : j + 1 = i
    · right; left; rw [h1]
    · by_cases h2 : i + 1 = l.length ∧ j = 0
      · left; rw [h2.1, h2.2, show l.length = 0 + l.length by omega, vx_add]
      · right; right; rw [meP_comm]; exact h.apart j i (by omega) hi (by omega)
theorem seen_good {l : List (Int × Int)} (h0 : 3 ≤ l.length ∧ l.length ≤ 10) (hp : ∀ i, i < l.length → isPg (vx l i) = true) (h : Seen l l.length) : Good l := by
  have df : ∀ i j, j < i → i < l.length → vx l i ≠ vx l j := fun i j hj hi => ((h i hi).2 j hj).1
  refine ⟨h0, hp, df, fun i hi => ?_, fun i k hk hkn hki => ?_⟩
  · by_cases h1 : i + 1 = l.length
    · have := (h 0 (by omega)).1
      rw [show 0 + l.length - 1 = i by omega] at this
      rw [show i + 1 = 0 + l.length by omega, show i + 2 = 0 + 1 + l.length by omega, vx_add, vx_add]; exact this
    · have := (h (i + 1) (by omega)).1
      rw [show i + 1 + l.length - 1 = i + l.length by omega, vx_add] at this
      exact this
  · have := ((h k hkn).2 i (by omega)).2
    rw [crP_iff] at this
    rcases this with h1 | h1 | h1
    · by_cases h2 : k + 1 = l.length
      · rw [h2, show l.length = 0 + l.length by omega, vx_add] at h1
        by_cases h3 : i = 0
        · omega
        · exact absurd h1.symm (df i 0 (by omega) (by omega))
      · exact absurd h1 (df (k + 1) i (by omega) (by omega))
    · exact absurd h1.symm (df k (i + 1) (by omega) hkn)
    · rw [meP_comm]; exact h1
end Go.Proofs.Ytgjegildeejghaa
/- contract: the program's test of a polygon -/
namespace Go.Proofs.Ytgjegildeejghaa
open Go.ChangeShapes Go.WideShapes Go.ChangeAt Go.RowKit Go.Joins
set_option linter.unusedVariables false
set_option linter.unusedSimpArgs false
set_option maxRecDepth 4000
set_option maxHeartbeats 4000000 in
theorem implIsPolygon_any (A : Option Addr) (c : Nat) (l : List (Int × Int)) (w : World) (hn : l.length ≤ 1048576) (hR : Rd w w.heap.size A l) :
    Calls Try.prog 86 #[.slice A l.length c] w fun e w' => e = .returned (.bool (goodB l)) ∧ Below w.heap.size w w' := by
  have KA := Lib.hid (fun W hb => arePegs_any A c l W hn (rd_more (rd_below hR hb (Nat.le_refl _)) hb.size))
  by_cases hlo : l.length < 3
  · have hng : Hid (goodB l = false) := Lib.hid (goodB_false (fun h => by have := h.few; omega))
    have d1 : ((l.length : Int) < 3) := by omega
    clear hR
    go_enter Try.func86, Try.ntmps86
    go_wp2_with fail
    go_ret
    exact ⟨ret_bool hng.out.symm, Below.refl _ _⟩
  · by_cases hhi : 10 < l.length
    · have hng : Hid (goodB l = false) := Lib.hid (goodB_false (fun h => by have := h.few; omega))
      have d1 : ¬ ((l.length : Int) < 3) := by omega
      have d2 : ((10 : Int) < (l.length : Int)) := by omega
      clear hR
      go_enter Try.func86, Try.ntmps86
      go_wp2_with fail
      go_ret
      exact ⟨ret_bool hng.out.symm, Below.refl _ _⟩
    · have d1 : ¬ ((l.length : Int) < 3) := by omega
      have d2 : ¬ ((10 : Int) < (l.length : Int)) := by omega
      by_cases hpg : pegsB l = true
      · have K1 := Lib.hid (KA.out w (Below.refl _ _))
        rw [hpg] at K1
        have hpe := (pegsB_iff l).1 hpg
        have HPE := Lib.hid hpe
        have KC := Lib.hid (fun W (hb : Below w.heap.size w W) => cornersAround_any A c l W (by omega) (by omega) (rd_more (rd_below hR hb (Nat.le_refl _)) hb.size))
        have HFEW := Lib.hid (show 3 ≤ l.length ∧ l.length ≤ 10 by omega)
        have HG := Lib.hid (fun h => goodB_false (l := l) h)
        have HT := Lib.hid (fun h => goodB_true (l := l) h)
        clear hpg hpe KA hR
        have hL1 : ((3 : Int) ≤ (l.length : Int)) := by omega
        have hL2 : ((l.length : Int) ≤ 10) := by omega
        clear hlo hhi
        generalize hN : l.length = n at *
        have HN := Lib.hid hN
        clear hN
        go_enter Try.func86, Try.ntmps86
        go_wp2_with fail
        refine K1.out.mono ?_; rintro e w1 ⟨rfl, hb1⟩
        go_wp2_with fail
        refine (KC.out w1 hb1).mono ?_; rintro e w2 ⟨rfl, hb2, hSC⟩
        have B2 : Below w.heap.size w w2 := hb1.trans (hb2.mono hb1.size)
        have hw1 := hb1.size
        obtain ⟨g, hg⟩ : ∃ g, g = w1.heap.size := ⟨_, rfl⟩
        rw [← hg] at hSC ⊢
        have hgs : g < w2.heap.size := hSC.1
        have CE : Hid (∀ W, Below w2.heap.size w2 W → ∀ i, i < n → (W.cell? ⟨g, i * 6, none⟩ = some (.int .i64 (vx l i).1) ∧ W.cell? ⟨g, i * 6 + 1, none⟩ = some (.int .i64 (vx l i).2) ∧ W.cell? ⟨g, i * 6 + 2, none⟩ = some (.int .i64 (vx l (i + n - 1)).1) ∧ W.cell? ⟨g, i * 6 + 3, none⟩ = some (.int .i64 (vx l (i + n - 1)).2) ∧ W.cell? ⟨g, i * 6 + 4, none⟩ = some (.int .i64 (vx l (i + 1)).1) ∧ W.cell? ⟨g, i * 6 + 5, none⟩ = some (.int .i64 (vx l (i + 1)).2))) := Lib.hid (fun W hW i hi => by
          obtain ⟨c0, c1, c2, c3, c4, c5⟩ := hSC.2.2 i hi
          have hc := (bcell hW).1
          exact ⟨(hc _ _ hgs).trans c0, (hc _ _ hgs).trans c1, (hc _ _ hgs).trans c2, (hc _ _ hgs).trans c3, (hc _ _ hgs).trans c4, (hc _ _ hgs).trans c5⟩)
        have TR : Hid (∀ W, Below w2.heap.size w2 W → Below w.heap.size w W) := Lib.hid (fun W hW => B2.trans (hW.mono B2.size))
        clear K1 KC hb1 hb2 hSC B2 hw1 hg
        go_wp2_with fail
        go_loopg [25] n (fun gg i wr => ∃ k : Nat, k ≤ n ∧ gg = n - k ∧ i = .int .i64 k ∧ Below w2.heap.size w2 wr ∧ Hid (Seen l k))
        case atStart => exact ⟨0, Nat.zero_le _, rfl, rfl, Below.refl _ _, Lib.hid (fun i h => absurd h (Nat.not_lt_zero _))⟩
        case round =>
          obtain ⟨k, hk, hgg, rfl, hB, hF⟩ := hrel
          rename World => wo
          have HGK := Lib.hid hgg
          clear hgg
          by_cases hlt : k < n
          · obtain ⟨x0, x1, x2, x3, x4, x5⟩ := CE.out wo hB k hlt
            have hzB := hB.size
            have hgo : g < wo.heap.size := by omega
            have z1 := sz_of (x := (vx l k).1) (y := (vx l k).2) (HPE.out k hlt)
            have z2 : Sz (vx l (k + n - 1)).1 (vx l (k + n - 1)).2 := sz_of (by rw [← HN.out, ← vx_per]; exact HPE.out _ (by rw [HN.out]; exact Nat.mod_lt _ (by omega)))
            have z3 : Sz (vx l (k + 1)).1 (vx l (k + 1)).2 := sz_of (by rw [← vx_per, HN.out]; exact HPE.out _ (Nat.mod_lt _ (by omega)))
            have T := Lib.hid (fun W => turn_any (vx l k).1 (vx l k).2 (vx l (k + n - 1)).1 (vx l (k + n - 1)).2 (vx l (k + 1)).1 (vx l (k + 1)).2 W z1 z2 z3)
            clear z1 z2 z3
            by_cases hz : twI (vx l (k + n - 1)).1 (vx l (k + n - 1)).2 (vx l k).1 (vx l k).2 (vx l (k + 1)).1 (vx l (k + 1)).2 = 0
            · rw [hz] at T
              have hng : Hid (goodB l = false) := Lib.hid (HG.out (fun h => (good_seen h k (by have := HN.out; omega)).1 (by rw [HN.out]; exact hz)))
              clear hz
              go_wp2_with fail
              refine (T.out _).mono ?_; rintro e w3 ⟨rfl, hb3⟩
              have B3 := Lib.hid (TR.out _ ((Below.alloc hB hzB (.cells #[.int .i64 (vx l k).1, .int .i64 (vx l k).2, .int .i64 (vx l (k + n - 1)).1, .int .i64 (vx l (k + n - 1)).2, .int .i64 (vx l (k + 1)).1, .int .i64 (vx l (k + 1)).2] 92)).trans (hb3.mono (by simp; omega))))
              go_wp2_with fail
              go_ret
              exact ⟨ret_bool hng.out.symm, B3.out⟩
            · have HTW : Hid (twP (vx l (k + l.length - 1)) (vx l k) (vx l (k + 1)) ≠ 0) := Lib.hid (by rw [HN.out]; exact hz)
              have hzb : (twI (vx l (k + n - 1)).1 (vx l (k + n - 1)).2 (vx l k).1 (vx l k).2 (vx l (k + 1)).1 (vx l (k + 1)).2 == 0) = false := by simpa using hz
              generalize twI (vx l (k + n - 1)).1 (vx l (k + n - 1)).2 (vx l k).1 (vx l k).2 (vx l (k + 1)).1 (vx l (k + 1)).2 = t at *
              go_wp2_with fail
              refine (T.out _).mono ?_; rintro e w3 ⟨rfl, hb3⟩
              have B3 := (Below.alloc hB hzB (.cells #[.int .i64 (vx l k).1, .int .i64 (vx l k).2, .int .i64 (vx l (k + n - 1)).1, .int .i64 (vx l (k + n - 1)).2, .int .i64 (vx l (k + 1)).1, .int .i64 (vx l (k + 1)).2] 92)).trans (hb3.mono (by simp; omega))
              have hz1 : wo.heap.size < w3.heap.size := by (have := hb3.size; simp at this; omega)
              have y0 : w3.cell? ⟨wo.heap.size, 0, none⟩ = some (.int .i64 (vx l k).1) := ((bcell hb3).1 _ _ (by simp)).trans (by go_simp)
              have y1 : w3.cell? ⟨wo.heap.size, 1, none⟩ = some (.int .i64 (vx l k).2) := ((bcell hb3).1 _ _ (by simp)).trans (by go_simp)
              have y2 : w3.cell? ⟨wo.heap.size, 2, none⟩ = some (.int .i64 (vx l (k + n - 1)).1) := ((bcell hb3).1 _ _ (by simp)).trans (by go_simp)
              have y3 : w3.cell? ⟨wo.heap.size, 3, none⟩ = some (.int .i64 (vx l (k + n - 1)).2) := ((bcell hb3).1 _ _ (by simp)).trans (by go_simp)
              have y4 : w3.cell? ⟨wo.heap.size, 4, none⟩ = some (.int .i64 (vx l (k + 1)).1) := ((bcell hb3).1 _ _ (by simp)).trans (by go_simp)
              have y5 : w3.cell? ⟨wo.heap.size, 5, none⟩ = some (.int .i64 (vx l (k + 1)).2) := ((bcell hb3).1 _ _ (by simp)).trans (by go_simp)
              clear x0 x1 x2 x3 x4 x5 hb3 T
              go_wp2_with fail
              clear hzb hz
              go_loopg [37] k (fun g2 j wi => ∃ m : Nat, m ≤ k ∧ g2 = k - m ∧ j = .int .i64 m ∧ Below w2.heap.size w2 wi ∧ wo.heap.size < wi.heap.size ∧ wi.cell? ⟨wo.heap.size, 0, none⟩ = some (.int .i64 (vx l k).1) ∧ wi.cell? ⟨wo.heap.size, 1, none⟩ = some (.int .i64 (vx l k).2) ∧ wi.cell? ⟨wo.heap.size, 2, none⟩ = some (.int .i64 (vx l (k + n - 1)).1) ∧ wi.cell? ⟨wo.heap.size, 3, none⟩ = some (.int .i64 (vx l (k + n - 1)).2) ∧ wi.cell? ⟨wo.heap.size, 4, none⟩ = some (.int .i64 (vx l (k + 1)).1) ∧ wi.cell? ⟨wo.heap.size, 5, none⟩ = some (.int .i64 (vx l (k + 1)).2) ∧ Hid (∀ j, j < m → vx l k ≠ vx l j ∧ crP (vx l k) (vx l (k + 1)) (vx l j) (vx l (j + 1)) = false))
              case atStart => exact ⟨0, Nat.zero_le _, rfl, rfl, B3, hz1, y0, y1, y2, y3, y4, y5, Lib.hid (fun j h => absurd h (Nat.not_lt_zero _))⟩
              case round =>
                clear y0 y1 y2 y3 y4 y5 B3 hz1
                obtain ⟨m, hm, hg2, rfl, hBi, hzi, v0, v1, v2, v3, v4, v5, hD⟩ := hrel
                have HGM := Lib.hid hg2
                clear hg2
                by_cases hlm : m < k
                · obtain ⟨q1, q2, r1, r2, s1, s2, hqe, hse, u0, u1, u2, u3, u4, u5⟩ : ∃ q1 q2 r1 r2 s1 s2, vx l m = (q1, q2) ∧ vx l (m + 1) = (s1, s2) ∧ wr.cell? ⟨g, m * 6, none⟩ = some (.int .i64 q1) ∧ wr.cell? ⟨g, m * 6 + 1, none⟩ = some (.int .i64 q2) ∧ wr.cell? ⟨g, m * 6 + 2, none⟩ = some (.int .i64 r1) ∧ wr.cell? ⟨g, m * 6 + 3, none⟩ = some (.int .i64 r2) ∧ wr.cell? ⟨g, m * 6 + 4, none⟩ = some (.int .i64 s1) ∧ wr.cell? ⟨g, m * 6 + 5, none⟩ = some (.int .i64 s2) := by
                    obtain ⟨t0, t1, t2, t3, t4, t5⟩ := CE.out wr hBi m (by omega)
                    exact ⟨_, _, _, _, _, _, rfl, rfl, t0, t1, t2, t3, t4, t5⟩
                  have hzi2 := hBi.size
                  have hgr : g < wr.heap.size := by omega
                  have n1 := HPE.out k hlt
                  have n2 : isPegB (vx l (k + 1)).1 (vx l (k + 1)).2 = true := by rw [← vx_per, HN.out]; exact HPE.out _ (Nat.mod_lt _ (by omega))
                  have n3 : isPegB q1 q2 = true := by have := HPE.out m (by omega); rw [hqe] at this; exact this
                  have n4 : isPegB s1 s2 = true := by have : isPg (vx l (m + 1)) = true := (by rw [← vx_per, HN.out]; exact HPE.out _ (Nat.mod_lt _ (by omega))); rw [hse] at this; exact this
                  have K := Lib.hid (fun W => isCrossing_any (vx l k).1 (vx l k).2 (vx l (k + n - 1)).1 (vx l (k + n - 1)).2 (vx l (k + 1)).1 (vx l (k + 1)).2 q1 q2 r1 r2 s1 s2 W n1 n2 n3 n4)
                  have HQE := Lib.hid hqe
                  have HSE := Lib.hid hse
                  clear n1 n2 n3 n4 hqe hse
                  by_cases heq : (vx l k).1 = q1 ∧ (vx l k).2 = q2
                  · have hng : Hid (goodB l = false) := Lib.hid (HG.out (fun h => h.diff k m hlm (by have := HN.out; omega) (by rw [HQE.out]; exact Prod.ext heq.1 heq.2)))
                    obtain ⟨rfl, rfl⟩ := heq
                    have B5 := Lib.hid (TR.out _ (Below.alloc hBi hzi2 (.cells #[.int .i64 (vx l k).1, .int .i64 (vx l k).2, .int .i64 r1, .int .i64 r2, .int .i64 s1, .int .i64 s2] 92)))
                    go_wp2_with fail
                    go_ret
                    exact ⟨ret_bool hng.out.symm, B5.out⟩
                  · have hne : vx l k ≠ vx l m := fun e => heq (by rw [HQE.out] at e; rw [e]; exact ⟨rfl, rfl⟩)
                    have HNE := Lib.hid hne
                    by_cases hcr : crB (vx l k).1 (vx l k).2 (vx l (k + 1)).1 (vx l (k + 1)).2 q1 q2 s1 s2 = true
                    · have hng : Hid (goodB l = false) := Lib.hid (HG.out (fun h => by
                        have := ((good_seen h k (by have := HN.out; omega)).2 m hlm).2
                        rw [HQE.out, HSE.out] at this
                        unfold crP at this
                        rw [hcr] at this
                        cases this))
                      rw [hcr] at K
                      clear hcr hne
                      by_cases h1 : (vx l k).1 = q1
                      · have h2 : ¬ (vx l k).2 = q2 := fun h => heq ⟨h1, h⟩
                        clear heq
                        subst h1
                        go_wp2_with fail
                        refine (K.out _).mono ?_; rintro e w4 ⟨rfl, hb4⟩
                        have B4 := (Below.alloc hBi hzi2 (.cells #[.int .i64 (vx l k).1, .int .i64 q2, .int .i64 r1, .int .i64 r2, .int .i64 s1, .int .i64 s2] 92)).trans (hb4.mono (by simp; omega))
                        have B5 := Lib.hid (TR.out _ B4)
                        go_wp2_with fail
                        go_ret
                        exact ⟨ret_bool hng.out.symm, B5.out⟩
                      · clear heq
                        go_wp2_with fail
                        refine (K.out _).mono ?_; rintro e w4 ⟨rfl, hb4⟩
                        have B4 := (Below.alloc hBi hzi2 (.cells #[.int .i64 q1, .int .i64 q2, .int .i64 r1, .int .i64 r2, .int .i64 s1, .int .i64 s2] 92)).trans (hb4.mono (by simp; omega))
                        have B5 := Lib.hid (TR.out _ B4)
                        go_wp2_with fail
                        go_ret
                        exact ⟨ret_bool hng.out.symm, B5.out⟩
                    · have hcf : crB (vx l k).1 (vx l k).2 (vx l (k + 1)).1 (vx l (k + 1)).2 q1 q2 s1 s2 = false := by simpa using hcr
                      have hD2 : Hid (∀ j, j < m + 1 → vx l k ≠ vx l j ∧ crP (vx l k) (vx l (k + 1)) (vx l j) (vx l (j + 1)) = false) := Lib.hid (fun j hj => by
                        by_cases hjm : j = m
                        · subst hjm; exact ⟨HNE.out, by rw [HQE.out, HSE.out]; exact hcf⟩
                        · exact hD.out j (by omega))
                      rw [hcf] at K
                      clear hcr hcf hne hD
                      by_cases h1 : (vx l k).1 = q1
                      · have h2 : ¬ (vx l k).2 = q2 := fun h => heq ⟨h1, h⟩
                        clear heq
                        subst h1
                        go_wp2_with fail
                        refine (K.out _).mono ?_; rintro e w4 ⟨rfl, hb4⟩
                        have B4 := (Below.alloc hBi hzi2 (.cells #[.int .i64 (vx l k).1, .int .i64 q2, .int .i64 r1, .int .i64 r2, .int .i64 s1, .int .i64 s2] 92)).trans (hb4.mono (by simp; omega))
                        have zz : wo.heap.size < w4.heap.size := by (have := hb4.size; simp at this; omega)
                        have Y0 := Lib.hid (((bcell hb4).1 _ 0 (by simp; omega)).trans ((World.cell?_alloc_lt wr _ _ hzi).trans v0))
                        have Y1 := Lib.hid (((bcell hb4).1 _ 1 (by simp; omega)).trans ((World.cell?_alloc_lt wr _ _ hzi).trans v1))
                        have Y2 := Lib.hid (((bcell hb4).1 _ 2 (by simp; omega)).trans ((World.cell?_alloc_lt wr _ _ hzi).trans v2))
                        have Y3 := Lib.hid (((bcell hb4).1 _ 3 (by simp; omega)).trans ((World.cell?_alloc_lt wr _ _ hzi).trans v3))
                        have Y4 := Lib.hid (((bcell hb4).1 _ 4 (by simp; omega)).trans ((World.cell?_alloc_lt wr _ _ hzi).trans v4))
                        have Y5 := Lib.hid (((bcell hb4).1 _ 5 (by simp; omega)).trans ((World.cell?_alloc_lt wr _ _ hzi).trans v5))
                        clear hb4
                        go_wp2_with fail
                        go_roundg (k - (m + 1))
                        case measure => have := HGM.out; omega
                        case rel => exact ⟨m + 1, by omega, rfl, by go_num, B4, zz, Y0.out, Y1.out, Y2.out, Y3.out, Y4.out, Y5.out, hD2⟩
                      · clear heq
                        go_wp2_with fail
                        refine (K.out _).mono ?_; rintro e w4 ⟨rfl, hb4⟩
                        have B4 := (Below.alloc hBi hzi2 (.cells #[.int .i64 q1, .int .i64 q2, .int .i64 r1, .int .i64 r2, .int .i64 s1, .int .i64 s2] 92)).trans (hb4.mono (by simp; omega))
                        have zz : wo.heap.size < w4.heap.size := by (have := hb4.size; simp at this; omega)
                        have Y0 := Lib.hid (((bcell hb4).1 _ 0 (by simp; omega)).trans ((World.cell?_alloc_lt wr _ _ hzi).trans v0))
                        have Y1 := Lib.hid (((bcell hb4).1 _ 1 (by simp; omega)).trans ((World.cell?_alloc_lt wr _ _ hzi).trans v1))
                        have Y2 := Lib.hid (((bcell hb4).1 _ 2 (by simp; omega)).trans ((World.cell?_alloc_lt wr _ _ hzi).trans v2))
                        have Y3 := Lib.hid (((bcell hb4).1 _ 3 (by simp; omega)).trans ((World.cell?_alloc_lt wr _ _ hzi).trans v3))
                        have Y4 := Lib.hid (((bcell hb4).1 _ 4 (by simp; omega)).trans ((World.cell?_alloc_lt wr _ _ hzi).trans v4))
                        have Y5 := Lib.hid (((bcell hb4).1 _ 5 (by simp; omega)).trans ((World.cell?_alloc_lt wr _ _ hzi).trans v5))
                        clear hb4
                        go_wp2_with fail
                        go_roundg (k - (m + 1))
                        case measure => have := HGM.out; omega
                        case rel => exact ⟨m + 1, by omega, rfl, by go_num, B4, zz, Y0.out, Y1.out, Y2.out, Y3.out, Y4.out, Y5.out, hD2⟩
                · have hmk : m = k := by omega
                  have hF2 : Hid (Seen l (k + 1)) := Lib.hid (fun i hi => by
                    by_cases hik : i = k
                    · subst hik; exact ⟨HTW.out, fun j hj => hD.out j (by omega)⟩
                    · exact hF.out i (by omega))
                  clear hD hF
                  go_wp2_with fail
                  go_roundg (n - (k + 1))
                  case measure => have := HGK.out; omega
                  case rel => exact ⟨k + 1, by omega, rfl, by go_num, hBi, hF2⟩
          · have hkn : n = k := by omega
            subst hkn
            have hy : Hid (goodB l = true) := Lib.hid (HT.out (seen_good (by have := HFEW.out; have := HN.out; omega) (fun i hi => HPE.out i (by have := HN.out; omega)) (by have := HN.out; rw [this]; exact hF.out)))
            have BB := Lib.hid (TR.out _ hB)
            go_wp2_with fail
            go_ret
            exact ⟨ret_bool hy.out.symm, BB.out⟩
      · have hpf : pegsB l = false := by simpa using hpg
        have hng : Hid (goodB l = false) := Lib.hid (goodB_false (fun h => hpg ((pegsB_iff l).2 h.pegs)))
        have K1 := Lib.hid (KA.out w (Below.refl _ _))
        rw [hpf] at K1
        clear hpf hpg KA hR hlo hhi
        go_enter Try.func86, Try.ntmps86
        go_wp2_with fail
        refine K1.out.mono ?_; rintro e w1 ⟨rfl, hb1⟩
        go_wp2_with fail
        go_ret
        exact ⟨ret_bool hng.out.symm, hb1⟩
end Go.Proofs.Ytgjegildeejghaa
/- contracts: which lists are triangles, on both sides -/
namespace Go.Proofs.Ytgjegildeejghaa
open Go.ChangeShapes Go.WideShapes Go.ChangeAt Go.RowKit Go.Joins
set_option linter.unusedVariables false
set_option linter.unusedSimpArgs false
set_option maxRecDepth 4000
/-- is a list a triangle? -/
noncomputable def tB (l : List (Int × Int)) : Bool := decide (l.length = 3) && goodB l
/-- a triangle with these corners -/
def Tri (l : List (Int × Int)) (a1 a2 b1 b2 c1 c2 : Int) : Prop := l = [(a1, a2), (b1, b2), (c1, c2)] ∧ Good l
theorem tB_true {l : List (Int × Int)} (h : tB l = true) : ∃ a1 a2 b1 b2 c1 c2, Tri l a1 a2 b1 b2 c1 c2 := by
  unfold tB at h
  rw [Bool.and_eq_true, decide_eq_true_eq] at h
  obtain ⟨h1, h2⟩ := h
  obtain ⟨p, q, r, rfl⟩ : ∃ p q r, l = [p, q, r] := by
    match l, h1 with
    | [p, q, r], _ => exact ⟨p, q, r, rfl⟩
  refine ⟨p.1, p.2, q.1, q.2, r.1, r.2, rfl, ?_⟩
  apply Classical.byContradiction
  intro hn
  rw [goodB_false hn] at h2
  cases h2
theorem tri_tB {l : List (Int × Int)} {a1 a2 b1 b2 c1 c2 : Int} (h : Tri l a1 a2 b1 b2 c1 c2) : tB l = true := by
  unfold tB
  rw [goodB_true h.2, h.1]
  rfl
/-- the corners of a triangle are pegs -/
theorem tri_bd {l : List (Int × Int)} {a1 a2 b1 b2 c1 c2 : Int} (h : Tri l a1 a2 b1 b2 c1 c2) :
    (-40 ≤ a1 ∧ a1 ≤ 40) ∧ (-40 ≤ a2 ∧ a2 ≤ 40) ∧ (-40 ≤ b1 ∧ b1 ≤ 40) ∧ (-40 ≤ b2 ∧ b2 ≤ 40) ∧ (-40 ≤ c1 ∧ c1 ≤ 40) ∧ (-40 ≤ c2 ∧ c2 ≤ 40) := by
  obtain ⟨rfl, hg⟩ := h
  have h0 := hg.pegs 0 (by simp)
  have h1 := hg.pegs 1 (by simp)
  have h2 := hg.pegs 2 (by simp)
  have e0 : vx [(a1, a2), (b1, b2), (c1, c2)] 0 = (a1, a2) := rfl
  have e1 : vx [(a1, a2), (b1, b2), (c1, c2)] 1 = (b1, b2) := rfl
  have e2 : vx [(a1, a2), (b1, b2), (c1, c2)] 2 = (c1, c2) := rfl
  rw [e0] at h0; rw [e1] at h1; rw [e2] at h2
  unfold isPg isPegB at h0 h1 h2
  simp only [Bool.and_eq_true, decide_eq_true_eq] at h0 h1 h2
  exact ⟨h0.1, h0.2, h1.1, h1.2, h2.1, h2.2⟩
/-- three points in memory -/
def Rd3 (w : World) (b off : Nat) (a1 a2 b1 b2 c1 c2 : Int) : Prop :=
  w.cell? ⟨b, off, none⟩ = some (.int .i64 a1) ∧ w.cell? ⟨b, off + 1, none⟩ = some (.int .i64 a2) ∧ w.cell? ⟨b, off + 2, none⟩ = some (.int .i64 b1) ∧ w.cell? ⟨b, off + 3, none⟩ = some (.int .i64 b2) ∧ w.cell? ⟨b, off + 4, none⟩ = some (.int .i64 c1) ∧ w.cell? ⟨b, off + 5, none⟩ = some (.int .i64 c2)
theorem rd3_of {w : World} {A : Option Addr} {a1 a2 b1 b2 c1 c2 : Int} (hR : Rd w w.heap.size A [(a1, a2), (b1, b2), (c1, c2)]) :
    ∃ b off, A = some ⟨b, off, none⟩ ∧ b < w.heap.size ∧ Hid (∀ W, Below w.heap.size w W → Rd3 W b off a1 a2 b1 b2 c1 c2) := by
  obtain ⟨b, off, e, hb, hc⟩ := hR (by simp)
  refine ⟨b, off, e, hb, Lib.hid fun W hW => ?_⟩
  have c := fun o => hW.cell (p := ⟨b, o, none⟩) hb
  have h0 := hc 0 _ rfl
  have h1 := hc 1 _ rfl
  have h2 := hc 2 _ rfl
  simp only [Nat.zero_mul, Nat.add_zero, Nat.one_mul] at h0 h1 h2
  exact ⟨(c _).trans h0.1, (c _).trans h0.2, (c _).trans h1.1, (c _).trans h1.2, (c _).trans h2.1, (c _).trans h2.2⟩
theorem trThree_any (A : Option Addr) (c : Nat) (l : List (Int × Int)) (w : World) (hn : l.length ≤ 1048576) (hcap : l.length ≤ c) (hc2 : c ≤ 9223372036854775807) (hR : Rd w w.heap.size A l) :
    Calls Try.prog 53 #[.slice A l.length c] w fun e w' => e = .returned (.bool (tB l)) ∧ Below w.heap.size w w' := by
  have K := Lib.hid (pgGood_any A c l w hn hcap hc2 hR)
  by_cases h3 : l.length = 3
  · have e : tB l = goodB l := by unfold tB; rw [h3]; rfl
    rw [e]
    generalize goodB l = b at *
    rw [h3] at K ⊢
    clear h3 e hR hn hcap
    go_enter Try.func53, Try.ntmps53
    go_wp2_with fail
    refine K.out.mono ?_; rintro e w1 ⟨rfl, hb1⟩
    go_wp2_with fail
    go_ret
    exact ⟨rfl, hb1⟩
  · have e : tB l = false := by unfold tB; rw [decide_eq_false h3]; rfl
    have d1 : ((l.length : Int) == 3) = false := by simp; omega
    rw [e]
    clear h3 e hR K
    go_enter Try.func53, Try.ntmps53
    go_wp2_with fail
    go_ret
    exact ⟨rfl, Below.refl _ _⟩
/-- what the program makes of a list: a triangle, or zeros and no -/
def threeV (b : Bool) (a1 a2 b1 b2 c1 c2 : Int) : Value := .tuple #[.agg #[.int .i64 a1, .int .i64 a2, .int .i64 b1, .int .i64 b2, .int .i64 c1, .int .i64 c2], .bool b]
theorem threeOf_no (A : Option Addr) (c : Nat) (l : List (Int × Int)) (w : World) (hn : l.length ≤ 1048576) (hR : Rd w w.heap.size A l) (ht : tB l = false) :
    Calls Try.prog 56 #[.slice A l.length c] w fun e w' => e = .returned (threeV false 0 0 0 0 0 0) ∧ Below w.heap.size w w' := by
  have HB := Lib.hid (Below.alloc (Below.refl w.heap.size w) (Nat.le_refl _) (.cells #[.int .i64 0, .int .i64 0, .int .i64 0, .int .i64 0, .int .i64 0, .int .i64 0] 67))
  have K := Lib.hid (fun W (hb : Below w.heap.size w W) => implIsPolygon_any A c l W hn (rd_more (rd_below hR hb (Nat.le_refl _)) hb.size))
  by_cases h3 : l.length = 3
  · have e : goodB l = false := by unfold tB at ht; rw [h3] at ht; simpa using ht
    rw [e, h3] at K
    rw [h3]
    clear h3 e hR hn ht
    go_enter Try.func56, Try.ntmps56
    go_wp2_with fail
    refine (K.out _ HB.out).mono ?_; rintro e w1 ⟨rfl, hb1⟩
    have B1 := HB.out.trans (hb1.mono HB.out.size)
    obtain ⟨hc, hf⟩ := bcell hb1
    have hz : w.heap.size < w1.heap.size := by (have := hb1.size; simp at this; omega)
    go_wp2_with fail
    exact bodyPost_ret (v := threeV false 0 0 0 0 0 0) (by simp [results, Try.results56, go_sem, threeV, hc, hz]) rfl ⟨rfl, Below.setCell (Below.setCell (Below.setCell (Below.setCell (Below.setCell (Below.setCell B1 (Nat.le_refl _) _) (Nat.le_refl _) _) (Nat.le_refl _) _) (Nat.le_refl _) _) (Nat.le_refl _) _) (Nat.le_refl _) _⟩
  · have d1 : ((l.length : Int) == 3) = false := by simp; omega
    have d2 : ((l.length : Int) != 3) = true := by simp; omega
    clear h3 hR K ht
    go_enter Try.func56, Try.ntmps56
    go_wp2_with fail
    exact bodyPost_ret (v := threeV false 0 0 0 0 0 0) (by simp [results, Try.results56, go_sem, threeV]) rfl ⟨rfl, HB.out⟩
set_option maxHeartbeats 400000 in
theorem threeOf_yes (A : Option Addr) (c : Nat) (l : List (Int × Int)) (a1 a2 b1 b2 c1 c2 : Int) (w : World) (hR : Rd w w.heap.size A l) (ht : Tri l a1 a2 b1 b2 c1 c2) :
    Calls Try.prog 56 #[.slice A l.length c] w fun e w' => e = .returned (threeV true a1 a2 b1 b2 c1 c2) ∧ Below w.heap.size w w' := by
  have HB := Lib.hid (Below.alloc (Below.refl w.heap.size w) (Nat.le_refl _) (.cells #[.int .i64 0, .int .i64 0, .int .i64 0, .int .i64 0, .int .i64 0, .int .i64 0] 67))
  have K := Lib.hid (fun W (hb : Below w.heap.size w W) => implIsPolygon_any A c l W (by rw [ht.1]; simp) (rd_more (rd_below hR hb (Nat.le_refl _)) hb.size))
  obtain ⟨rfl, hg⟩ := ht
  rw [goodB_true hg] at K
  obtain ⟨b, off, rfl, hb, H3⟩ := rd3_of hR
  clear hg hR
  change Hid (∀ W, Below w.heap.size w W → Calls Try.prog 86 #[.slice (some ⟨b, off, none⟩) 3 c] W fun e w' => e = .returned (.bool true) ∧ Below W.heap.size W w') at K
  change Calls Try.prog 56 #[.slice (some ⟨b, off, none⟩) 3 c] w _
  go_enter Try.func56, Try.ntmps56
  go_wp2_with fail
  refine (K.out _ HB.out).mono ?_; rintro e w1 ⟨rfl, hb1⟩
  have B1 := HB.out.trans (hb1.mono HB.out.size)
  obtain ⟨hc, hf⟩ := bcell hb1
  have hz : w.heap.size < w1.heap.size := by (have := hb1.size; simp at this; omega)
  obtain ⟨x0, x1, x2, x3, x4, x5⟩ := H3.out w1 B1
  have r0 : ∀ o, w1.cell? ⟨w.heap.size, o, none⟩ = (w.alloc (.cells #[.int .i64 0, .int .i64 0, .int .i64 0, .int .i64 0, .int .i64 0, .int .i64 0] 67)).cell? ⟨w.heap.size, o, none⟩ := fun o => hc _ _ (by simp)
  have f0 : ∀ o, w1.frozen? ⟨w.heap.size, o, none⟩ = (w.alloc (.cells #[.int .i64 0, .int .i64 0, .int .i64 0, .int .i64 0, .int .i64 0, .int .i64 0] 67)).frozen? ⟨w.heap.size, o, none⟩ := fun o => hf _ _ (by simp)
  clear hc hf
  go_wp2_with fail
  refine wp_region_still_tail 10 (by kernel_rfl) (by kernel_rfl) ?_
  change wpStill _ _ w1.drew (fun a' => wpList _ _ _ _ a' w1.drew) _ _
  simp only [List.take_succ_cons, List.take_zero, List.drop_succ_cons, List.drop_zero]
  repeat still_step
  try refine wpStill_nil ?_
  go_wp2_with fail
  refine bodyPost_ret (v := threeV true a1 a2 b1 b2 c1 c2) (by simp [results, Try.results56, go_sem, threeV, r0, hz]) rfl ?_
  refine ⟨rfl, ?_⟩
  repeat (first | with_reducible assumption | with_reducible exact Below.refl _ _ | with_reducible apply Below.drew | ((with_reducible refine Below.setCell ?_ ?_ _); rotate_left; (first | exact Nat.le_refl _ | omega | (simp <;> omega))) | ((with_reducible refine Below.alloc ?_ ?_ _); rotate_left; (first | omega | (simp <;> omega))))
end Go.Proofs.Ytgjegildeejghaa
/- A statement that leaves the order of its first operations open, all of which come to one value in every world that meets S and lead to such a world again; the last ones stand in one order: one walk, in the order of the text. -/
namespace Go.Proofs.Ytgjegildeejghaa
open Go.ChangeShapes Go.WideShapes Go.ChangeAt Go.RowKit Go.Joins
set_option linter.unusedVariables false
set_option linter.unusedSimpArgs false
set_option maxRecDepth 4000
section
variable {P : Program} {ops : Array Oper} {md : Region.Mode} {S : World → Prop}
def wpAnyS (P : Program) (md : Region.Mode) (ops : Array Oper) (S : World → Prop) (n : Nat) (L : Array Bool → Act → Prop) : Nat → Array Bool → Act → Prop
  | 0, listed, a => L listed a
  | f + 1, listed, a => Region.ready md ops listed ≠ [] ∧ ∀ i ∈ Region.ready md ops listed, i < n ∧ ∃ oi v, ops[i]? = some oi ∧ Steady P ops S oi v a ∧ wpAnyS P md ops S n L f (listed.setIfInBounds i true) (a.put oi.dst v)
theorem wpAny_of_S {n g : Nat} {L : Array Bool → Act → Prop} {Q : Exit → Act → World → Prop} (hL : ∀ listed a, L listed a → ∀ w, S w → wpAny P md ops Q g listed a w) :
    ∀ (f : Nat) (listed : Array Bool) (a : Act), wpAnyS P md ops S n L f listed a → ∀ w, S w → wpAny P md ops Q (f + g) listed a w
  | 0, listed, a, h, w, hS => by rw [Nat.zero_add]; exact hL _ _ h w hS
  | f + 1, listed, a, h, w, hS => by
    rw [show f + 1 + g = (f + g) + 1 by omega]
    exact ⟨fun h0 => absurd h0 h.1, fun i hi => by
      obtain ⟨_, oi, v, ho, hy, hn⟩ := h.2 i hi
      exact steady_op ho hy hS fun w' hS' => wpAny_of_S hL f _ _ hn w' hS'⟩
theorem wpAnyS_first {n i : Nat} {oi : Oper} {v : Value} {L : Array Bool → Act → Prop} (hi : ops[i]? = some oi) (hsel : ∀ (j : Nat) (o : Oper) cs b, ops[j]? = some o → o.op ≠ .select cs b)
    (hs : Region.sinkB md ops n = true) (hc : Region.chainB md ops n = true) (hn : n < ops.size) (hin : i < n)
    (hdone : ∀ listed a, L listed a → ∀ j ∈ Region.ready md ops listed, n ≤ j) :
    ∀ (f : Nat) (listed : Array Bool) (a : Act), HeadInv md ops n listed →
      (∀ j oj, ops[j]? = some oj → j ≠ i → listed.getD j true = false → (∀ e ∈ oj.after, Region.binds md e = true → e.on ≠ i) → oi.apart ops oj = true) →
      i ∈ Region.ready md ops listed → Steady P ops S oi v a →
      wpAnyS P md ops S n L f (listed.setIfInBounds i true) (a.put oi.dst v) → wpAnyS P md ops S n L (f + 1) listed a := by
  intro f
  induction f with
  | zero =>
    intro listed a inv _ hr hy H
    have hun := (mem_ready.1 hr).1
    refine ⟨fun h => (by rw [h] at hr; cases hr), fun j hj => ?_⟩
    have hjn : j < n := by
      rcases Nat.lt_or_ge j n with h | h
      · exact h
      · exact absurd hj (tail_waits hs hc hn inv _ i rfl hin hun j h)
    refine ⟨hjn, ?_⟩
    by_cases hji : j = i
    · subst hji; exact ⟨oi, v, hi, hy, H⟩
    · have := hdone _ _ H j (ready_mono hj hji)
      omega
  | succ f ih =>
    intro listed a inv hfree hr hy H
    have hun := (mem_ready.1 hr).1
    refine ⟨fun h => (by rw [h] at hr; cases hr), fun j hj => ?_⟩
    have hjn : j < n := by
      rcases Nat.lt_or_ge j n with h | h
      · exact h
      · exact absurd hj (tail_waits hs hc hn inv _ i rfl hin hun j h)
    refine ⟨hjn, ?_⟩
    by_cases hji : j = i
    · subst hji; exact ⟨oi, v, hi, hy, H⟩
    · obtain ⟨_, oj, u, hoj, hsj, Hj⟩ := H.2 j (ready_mono hj hji)
      obtain ⟨hjun, oj', hoj', hall⟩ := mem_ready.1 hj
      obtain rfl : oj' = oj := Option.some.inj (hoj'.symm.trans hoj)
      have hnot : ∀ e ∈ oj'.after, Region.binds md e = true → e.on ≠ i := fun e he hb heq => by
        have h1 := hall e he hb
        rw [heq, getD_both hun] at h1
        cases h1
      obtain ⟨h1, h2, h3⟩ := Oper.apart_spec (hfree j oj' hoj hji hjun hnot)
      have k1 : Steady P ops S oj' u a := steady_same hsj (execOp_put oj' (fun cs b => hsel j oj' cs b hoj) a oi.dst v h1).symm (wanted_put oj' a oi.dst v h1).symm
      have k2 : Steady P ops S oi v (a.put oj'.dst u) := steady_same hy (execOp_put oi (fun cs b => hsel i oi cs b hi) a oj'.dst u h3) (wanted_put oi a oj'.dst u h3)
      refine ⟨oj', u, hoj, k1, ih _ _ (inv.set hj hjn) (fun k ok hk hki hun hno => ?_) (ready_mono hr (Ne.symm hji)) k2 ?_⟩
      · refine hfree k ok hk hki ?_ hno
        by_cases hjk : j = k
        · subst hjk; exact hjun
        · rw [getD_set_ne true hjk] at hun; exact hun
      · rw [Array.setIfInBounds_comm _ _ hji, ← Act.put_comm a v u h2]
        exact Hj
/-- the head, in the text's order -/
def wpH (P : Program) (ops : Array Oper) (S : World → Prop) (T : Act → Prop) : List Oper → Act → Prop
  | [], a => T a
  | o :: rest, a => ∃ v, Steady P ops S o v a ∧ wpH P ops S T rest (a.put o.dst v)
theorem wpAnyS_lex {n g : Nat} {T : Act → Prop} (hsel : Region.noSelect ops = true) (hs : Region.sinkB md ops n = true) (hc : Region.chainB md ops n = true) (hn : n < ops.size) :
    ∀ (l : List Oper) (k : Nat) (listed : Array Bool) (a : Act), (∀ j, j < l.length → l[j]? = ops[k + j]?) → k + l.length = n → HeadInv md ops n listed →
    Region.lexHead md ops g l.length k listed = true → wpH P ops S T l a →
    wpAnyS P md ops S n (fun listed' a' => Region.seqB md ops g n listed' = true ∧ T a') l.length listed a
  | [], k, listed, a, _, hk, _, hB, h => by
    have : k = n := by simpa using hk
    subst this
    exact ⟨by simpa [Region.lexHead] using hB, h⟩
  | o :: l, k, listed, a, hl, hk, inv, hB, h => by
    have h0 : ops[k]? = some o := by simpa using (hl 0 (by simp)).symm
    simp only [List.length_cons, Region.lexHead, Bool.and_eq_true] at hB
    obtain ⟨⟨hr, hf⟩, hB'⟩ := hB
    have hkn : k < n := by simp only [List.length_cons] at hk; omega
    have hr' : k ∈ Region.ready md ops listed := by simpa using hr
    obtain ⟨v, hy, hK⟩ := h
    exact wpAnyS_first h0 (Region.noSelect_spec hsel) hs hc hn hkn (fun listed' a' hL => seqB_ready hL.1) l.length listed a inv (Region.free_spec h0 hf) hr' hy
      (wpAnyS_lex hsel hs hc hn l (k + 1) _ _ (fun j hj => by have := hl (j + 1) (by simp; omega); simpa [Nat.add_assoc, Nat.add_comm 1 j] using this) (by simp only [List.length_cons] at hk; omega) (inv.set hr' hkn) hB' hK)
theorem wp_region_BT {id : Nat} {Q : Exit → Act → World → Prop} {a : Act} {w : World} {l : List Oper} (n : Nat) (S : World → Prop) (hm : P.follows .mixedOrders = true) (hB : Region.lexTailB .any l.toArray n = true) (hS : S w.drew)
    (h : wpH P l.toArray S (fun a' => ∀ W, S W → wpList P l.toArray Q (l.drop n) a' W) (l.take n) a) : (Code.region id l.toArray true).wp P Q a w := by
  simp only [Region.lexTailB, Bool.and_eq_true, decide_eq_true_eq] at hB
  obtain ⟨⟨⟨⟨hsel, hn⟩, hs⟩, hc⟩, hlex⟩ := hB
  have hn' : n < l.length := by simpa using hn
  have htl : (l.take n).length = n := by simp; omega
  have hdl : (l.drop n).length = l.toArray.size - n := by simp
  have inv0 : HeadInv .any l.toArray n (Array.replicate l.toArray.size false) :=
    ⟨by simp, fun j oj _ hl => (by rw [getD_replicate_false] at hl; cases hl), fun t _ ht => getD_in (by simpa using ht) (getD_replicate_false _ _)⟩
  have H := wpAnyS_lex (md := .any) (g := l.toArray.size - n) hsel hs hc hn (l.take n) 0 _ a (fun j hj => by
    have hj' : j < n := by rw [htl] at hj; exact hj
    simp [hj']) (by simpa using htl) inv0 (by rw [htl]; exact hlex) h
  refine wp_region_any hm ?_
  have := wpAny_of_S (Q := Q) (g := l.toArray.size - n) (fun listed a' hL W hW => by
    have := wpAny_of_seq (md := .any) (Q' := Q) (l.drop n) n listed a' W (fun j => by simp [List.getElem?_drop]) (by rw [hdl]; exact hL.1) (hL.2 W hW)
    rwa [hdl] at this) _ _ _ H w.drew hS
  rw [htl, show n + (l.toArray.size - n) = l.toArray.size by omega] at this
  exact this
theorem wpH_text {T : Act → Prop} {o : Oper} {rest : List Oper} {a : Act} {v : Value} (hw : Region.wanted o (yielded ops a.tmps) = true) (hy : ∀ w, S w → Comes P S v ((execOp a.eval o).run P w))
    (h : wpH P ops S T rest (a.put o.dst v)) : wpH P ops S T (o :: rest) a := ⟨v, Or.inl ⟨hw, hy⟩, h⟩
theorem wpH_skip {T : Act → Prop} {o : Oper} {rest : List Oper} {a : Act} (hw : Region.wanted o (yielded ops a.tmps) = false)
    (h : wpH P ops S T rest (a.put o.dst undef)) : wpH P ops S T (o :: rest) a := ⟨undef, Or.inr ⟨hw, rfl⟩, h⟩
theorem wpH_nil {T : Act → Prop} {a : Act} (h : T a) : wpH P ops S T [] a := h
end
end Go.Proofs.Ytgjegildeejghaa

