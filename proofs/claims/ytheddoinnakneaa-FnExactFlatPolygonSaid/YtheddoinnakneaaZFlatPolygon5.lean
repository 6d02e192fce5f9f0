/- joined: Qg Ta Tb0 Te Tw0 U3 U4 Lk Na Nb Ha Wm3 Rn -/
import Derived.Test.YtheddoinnakneaaZFlatPolygon4
import Derived.StillTailTactics
import Derived.BigRegion
import Derived.OwnWalk
import Derived.WideShapes
import Derived.Laws.OwnMore
import Derived.Laws.AppendOwnNone
/- contract: the model's test of a polygon -/
namespace Go.Proofs.Ytheddoinnakneaa
open Go.ChangeShapes Go.WideShapes Go.ChangeAt Go.RowKit Go.Joins
set_option linter.unusedVariables false
set_option linter.unusedSimpArgs false
set_option maxRecDepth 4000
set_option maxRecDepth 100000 in
set_option maxHeartbeats 4000000 in
theorem pgGood_any (A : Option Addr) (c : Nat) (l : List (Int × Int)) (w : World) (hn : l.length ≤ 1048576) (hcap : l.length ≤ c) (hc2 : c ≤ 9223372036854775807) (hR : Rd w w.heap.size A l) :
    Calls Try.prog 52 #[.slice A l.length c] w fun e w' => e = .returned (.bool (goodB l)) ∧ Below w.heap.size w w' := by
  by_cases hfew : 3 ≤ l.length ∧ l.length ≤ 10
  · have HR := Lib.hid hR
    clear hR
    have hL1 : ((3 : Int) ≤ (l.length : Int)) := by omega
    have hL2 : ((l.length : Int) ≤ 10) := by omega
    have HG := Lib.hid (fun h => goodB_false (l := l) h)
    have HT := Lib.hid (fun h => goodB_true (l := l) h)
    clear hfew
    have hrd : ∀ i, i < l.length → ∃ b off, A = some ⟨b, off, none⟩ ∧ b < w.heap.size ∧ ∀ i, i < l.length → w.cell? ⟨b, off + i * 2, none⟩ = some (.int .i64 (vx l i).1) ∧ w.cell? ⟨b, off + i * 2 + 1, none⟩ = some (.int .i64 (vx l i).2) := fun i hi => by
      obtain ⟨b, off, e, hb, hc⟩ := HR.out (by omega)
      exact ⟨b, off, e, hb, fun i hi => hc i _ (vx_get hi)⟩
    obtain ⟨b, off, rfl, hb, hcell⟩ := hrd 0 (by omega)
    have HC := Lib.hid hcell
    clear hrd hcell HR
    generalize hN : l.length = n at *
    have HN := Lib.hid hN
    clear hN
    go_enter Try.func52, Try.ntmps52
    go_wp2_with fail
    refine (l1In_any _ _ _ _).mono ?_; rintro e _ ⟨rfl, rfl⟩
    go_wp2_with fail
    go_loopg [19] n (fun g i wr => ∃ k : Nat, k ≤ n ∧ g = n - k ∧ i = .int .i64 k ∧ Below w.heap.size w wr ∧ Hid (Fine l k))
    case atStart => exact ⟨0, Nat.zero_le _, rfl, rfl, Below.refl _ _, Lib.hid (fun i h => absurd h (Nat.not_lt_zero _))⟩
    case round =>
      obtain ⟨k, hk, hg, rfl, hB, hF⟩ := hrel
      rename World => wo
      have HGK := Lib.hid hg
      clear hg
      by_cases hlt : k < n
      · have hq1 : wo.cell? ⟨b, off + k * 2, none⟩ = some (.int .i64 (vx l k).1) := (hB.cell (p := ⟨b, off + k * 2, none⟩) hb).trans (HC.out k hlt).1
        have hq2 : wo.cell? ⟨b, off + k * 2 + 1, none⟩ = some (.int .i64 (vx l k).2) := (hB.cell (p := ⟨b, off + k * 2 + 1, none⟩) hb).trans (HC.out k hlt).2
        have K1 := Lib.hid (fun W => pgIs_any (vx l k).1 (vx l k).2 W)
        have hzB := hB.size
        by_cases hpg : isPegB (vx l k).1 (vx l k).2 = true
        · rw [hpg] at K1
          have HPG := Lib.hid hpg
          clear hpg
          go_wp2_with fail
          refine (K1.out _).mono ?_; rintro e w1 ⟨rfl, hb1⟩
          have B1 := (Below.alloc hB hzB (.cells #[.int .i64 (vx l k).1, .int .i64 (vx l k).2] 56)).trans (hb1.mono (by simp; omega))
          have hz1 : wo.heap.size < w1.heap.size := by (have := hb1.size; simp at this; omega)
          have x1 : w1.cell? ⟨wo.heap.size, 0, none⟩ = some (.int .i64 (vx l k).1) := ((bcell hb1).1 _ _ (by simp)).trans (by go_simp)
          have x2 : w1.cell? ⟨wo.heap.size, 1, none⟩ = some (.int .i64 (vx l k).2) := ((bcell hb1).1 _ _ (by simp)).trans (by go_simp)
          clear hq1 hq2 K1 hb1
          go_wp2_with fail
          go_loopg [31] k (fun g2 j wi => ∃ m : Nat, m ≤ k ∧ g2 = k - m ∧ j = .int .i64 m ∧ Below w.heap.size w wi ∧ wo.heap.size < wi.heap.size ∧ wi.cell? ⟨wo.heap.size, 0, none⟩ = some (.int .i64 (vx l k).1) ∧ wi.cell? ⟨wo.heap.size, 1, none⟩ = some (.int .i64 (vx l k).2) ∧ Hid (∀ j, j < m → vx l k ≠ vx l j))
          case atStart => exact ⟨0, Nat.zero_le _, rfl, rfl, B1, hz1, x1, x2, Lib.hid (fun j h => absurd h (Nat.not_lt_zero _))⟩
          case round =>
            obtain ⟨m, hm, hg2, rfl, hBi, hzi, y1, y2, hD⟩ := hrel
            have HGM := Lib.hid hg2
            clear hg2 x1 x2 B1 hz1
            by_cases hlm : m < k
            · obtain ⟨q1, q2, hqe, hq1, hq2⟩ : ∃ q1 q2, vx l m = (q1, q2) ∧ wr.cell? ⟨b, off + m * 2, none⟩ = some (.int .i64 q1) ∧ wr.cell? ⟨b, off + m * 2 + 1, none⟩ = some (.int .i64 q2) :=
                ⟨(vx l m).1, (vx l m).2, rfl, (hBi.cell (p := ⟨b, off + m * 2, none⟩) hb).trans (HC.out m (by omega)).1, (hBi.cell (p := ⟨b, off + m * 2 + 1, none⟩) hb).trans (HC.out m (by omega)).2⟩
              have HQE := Lib.hid hqe
              clear hqe
              by_cases heq : (vx l k).1 = q1 ∧ (vx l k).2 = q2
              · have hng : Hid (goodB l = false) := Lib.hid (HG.out (fun h => h.diff k m hlm (by have := HN.out; omega) (by rw [HQE.out]; exact Prod.ext heq.1 heq.2)))
                obtain ⟨rfl, rfl⟩ := heq
                have B2 := Below.alloc hBi hBi.size (.cells #[.int .i64 (vx l k).1, .int .i64 (vx l k).2] 56)
                go_wp2_with fail
                go_ret
                exact ⟨ret_bool hng.out.symm, B2⟩
              · have hD2 : Hid (∀ j, j < m + 1 → vx l k ≠ vx l j) := Lib.hid (fun j hj => by
                  by_cases hjm : j = m
                  · subst hjm; intro e; rw [HQE.out] at e; exact heq ⟨by rw [e], by rw [e]⟩
                  · exact hD.out j (by omega))
                have B2 := Below.alloc hBi hBi.size (.cells #[.int .i64 q1, .int .i64 q2] 56)
                have z2 : wo.heap.size < (wr.alloc (.cells #[.int .i64 q1, .int .i64 q2] 56)).heap.size := by simp; omega
                have Y3 := Lib.hid ((World.cell?_alloc_lt wr (.cells #[.int .i64 q1, .int .i64 q2] 56) ⟨wo.heap.size, 0, none⟩ hzi).trans y1)
                have Y4 := Lib.hid ((World.cell?_alloc_lt wr (.cells #[.int .i64 q1, .int .i64 q2] 56) ⟨wo.heap.size, 1, none⟩ hzi).trans y2)
                clear hD
                by_cases h1 : (vx l k).1 = q1
                · have h2 : ¬ (vx l k).2 = q2 := fun h => heq ⟨h1, h⟩
                  clear heq
                  subst h1
                  go_wp2_with fail
                  go_roundg (k - (m + 1))
                  case measure => have := HGM.out; omega
                  case rel => exact ⟨m + 1, by omega, rfl, by go_num, B2, z2, Y3.out, Y4.out, hD2⟩
                · clear heq
                  go_wp2_with fail
                  go_roundg (k - (m + 1))
                  case measure => have := HGM.out; omega
                  case rel => exact ⟨m + 1, by omega, rfl, by go_num, B2, z2, Y3.out, Y4.out, hD2⟩
            · have hmk : m = k := by omega
              have hF2 : Hid (Fine l (k + 1)) := Lib.hid (fun i hi => by
                by_cases hik : i = k
                · subst hik; exact ⟨HPG.out, fun j hj => hD.out j (by omega)⟩
                · exact hF.out i (by omega))
              clear hD hF
              go_wp2_with fail
              go_roundg (n - (k + 1))
              case measure => have := HGK.out; omega
              case rel => exact ⟨k + 1, by omega, rfl, by go_num, hBi, hF2⟩
        · have hpf : isPegB (vx l k).1 (vx l k).2 = false := by simpa using hpg
          rw [hpf] at K1
          have hng : Hid (goodB l = false) := Lib.hid (HG.out (fun h => hpg (h.pegs k (by have := HN.out; omega))))
          clear hpg hpf
          go_wp2_with fail
          refine (K1.out _).mono ?_; rintro e w1 ⟨rfl, hb1⟩
          have B1 := (Below.alloc hB hzB (.cells #[.int .i64 (vx l k).1, .int .i64 (vx l k).2] 56)).trans (hb1.mono (by simp; omega))
          go_wp2_with fail
          go_ret
          exact ⟨ret_bool hng.out.symm, B1⟩
      · have hkn : n = k := by omega
        subst hkn
        have HF := hF
        clear hF HGK hlt hk HG
        have HG := Lib.hid (fun h => goodB_false (l := l) h)
        go_wp2_with fail
        go_loopg [42] n (fun g i wr => ∃ k : Nat, k ≤ n ∧ g = n - k ∧ i = .int .i64 k ∧ Below w.heap.size w wr ∧ Hid (Apart l k))
        case atStart => exact ⟨0, Nat.zero_le _, rfl, rfl, hB, Lib.hid (fun i h => absurd h (Nat.not_lt_zero _))⟩
        case round =>
          clear hB
          obtain ⟨k, hk, hg, rfl, hB, hA⟩ := hrel
          rename World => wo
          have HGK := Lib.hid hg
          clear hg
          by_cases hlt : k < n
          · have m1 : (k + 1) % n < n := Nat.mod_lt _ (by omega)
            have m2 : (k + 2) % n < n := Nat.mod_lt _ (by omega)
            have p1 : wo.cell? ⟨b, off + k * 2, none⟩ = some (.int .i64 (vx l k).1) := (hB.cell (p := ⟨b, off + k * 2, none⟩) hb).trans (HC.out k hlt).1
            have p2 : wo.cell? ⟨b, off + k * 2 + 1, none⟩ = some (.int .i64 (vx l k).2) := (hB.cell (p := ⟨b, off + k * 2 + 1, none⟩) hb).trans (HC.out k hlt).2
            have p3 : wo.cell? ⟨b, off + (k + 1) % n * 2, none⟩ = some (.int .i64 (vx l ((k + 1) % n)).1) := (hB.cell (p := ⟨b, off + (k + 1) % n * 2, none⟩) hb).trans (HC.out _ m1).1
            have p4 : wo.cell? ⟨b, off + (k + 1) % n * 2 + 1, none⟩ = some (.int .i64 (vx l ((k + 1) % n)).2) := (hB.cell (p := ⟨b, off + (k + 1) % n * 2 + 1, none⟩) hb).trans (HC.out _ m1).2
            have hzB := hB.size
            have hbo : b < wo.heap.size := by omega
            have i1 : (0 : Int) ≤ ((k : Int) + 1) % (n : Int) := Int.emod_nonneg _ (by omega)
            have i2 : ((k : Int) + 1) % (n : Int) < (n : Int) := Int.emod_lt_of_pos _ (by omega)
            have kp : ∀ W W', (Below w.heap.size w W ∧ wo.heap.size + 1 < W.heap.size ∧ W.cell? ⟨wo.heap.size, 0, none⟩ = some (.int .i64 (vx l k).1) ∧ W.cell? ⟨wo.heap.size, 1, none⟩ = some (.int .i64 (vx l k).2) ∧ W.cell? ⟨wo.heap.size + 1, 0, none⟩ = some (.int .i64 (vx l ((k + 1) % n)).1) ∧ W.cell? ⟨wo.heap.size + 1, 1, none⟩ = some (.int .i64 (vx l ((k + 1) % n)).2)) → Below W.heap.size W W' → (Below w.heap.size w W' ∧ wo.heap.size + 1 < W'.heap.size ∧ W'.cell? ⟨wo.heap.size, 0, none⟩ = some (.int .i64 (vx l k).1) ∧ W'.cell? ⟨wo.heap.size, 1, none⟩ = some (.int .i64 (vx l k).2) ∧ W'.cell? ⟨wo.heap.size + 1, 0, none⟩ = some (.int .i64 (vx l ((k + 1) % n)).1) ∧ W'.cell? ⟨wo.heap.size + 1, 1, none⟩ = some (.int .i64 (vx l ((k + 1) % n)).2)) := fun W W' h hb => by
              obtain ⟨h1, h2, h3, h4, h5, h6⟩ := h
              have hc := (bcell hb).1
              have hz := hb.size
              exact ⟨h1.trans (hb.mono h1.size), by omega, by rw [hc _ _ (by omega), h3], by rw [hc _ _ (by omega), h4], by rw [hc _ _ (by omega), h5], by rw [hc _ _ (by omega), h6]⟩
            have KP := Lib.hid kp
            clear kp
            have bx : (Below w.heap.size w ((wo.alloc (.cells #[.int .i64 (vx l k).1, .int .i64 (vx l k).2] 56)).alloc (.cells #[.int .i64 (vx l ((k + 1) % n)).1, .int .i64 (vx l ((k + 1) % n)).2] 56)) ∧ wo.heap.size + 1 < ((wo.alloc (.cells #[.int .i64 (vx l k).1, .int .i64 (vx l k).2] 56)).alloc (.cells #[.int .i64 (vx l ((k + 1) % n)).1, .int .i64 (vx l ((k + 1) % n)).2] 56)).heap.size ∧ ((wo.alloc (.cells #[.int .i64 (vx l k).1, .int .i64 (vx l k).2] 56)).alloc (.cells #[.int .i64 (vx l ((k + 1) % n)).1, .int .i64 (vx l ((k + 1) % n)).2] 56)).cell? ⟨wo.heap.size, 0, none⟩ = some (.int .i64 (vx l k).1) ∧ ((wo.alloc (.cells #[.int .i64 (vx l k).1, .int .i64 (vx l k).2] 56)).alloc (.cells #[.int .i64 (vx l ((k + 1) % n)).1, .int .i64 (vx l ((k + 1) % n)).2] 56)).cell? ⟨wo.heap.size, 1, none⟩ = some (.int .i64 (vx l k).2) ∧ ((wo.alloc (.cells #[.int .i64 (vx l k).1, .int .i64 (vx l k).2] 56)).alloc (.cells #[.int .i64 (vx l ((k + 1) % n)).1, .int .i64 (vx l ((k + 1) % n)).2] 56)).cell? ⟨wo.heap.size + 1, 0, none⟩ = some (.int .i64 (vx l ((k + 1) % n)).1) ∧ ((wo.alloc (.cells #[.int .i64 (vx l k).1, .int .i64 (vx l k).2] 56)).alloc (.cells #[.int .i64 (vx l ((k + 1) % n)).1, .int .i64 (vx l ((k + 1) % n)).2] 56)).cell? ⟨wo.heap.size + 1, 1, none⟩ = some (.int .i64 (vx l ((k + 1) % n)).2)) :=
              ⟨Below.alloc (Below.alloc hB hzB _) (by simp; omega) _, by simp, by go_simp, by go_simp, by go_simp, by go_simp⟩
            have BX := Lib.hid bx
            clear bx
            have c3 : ∀ W, Below w.heap.size w W → W.cell? ⟨b, off + (k + 2) % n * 2, none⟩ = some (.int .i64 (vx l ((k + 2) % n)).1) ∧ W.cell? ⟨b, off + (k + 2) % n * 2 + 1, none⟩ = some (.int .i64 (vx l ((k + 2) % n)).2) := fun W hW =>
              ⟨(hW.cell (p := ⟨b, off + (k + 2) % n * 2, none⟩) hb).trans (HC.out _ m2).1, (hW.cell (p := ⟨b, off + (k + 2) % n * 2 + 1, none⟩) hb).trans (HC.out _ m2).2⟩
            have C3 := Lib.hid c3
            clear c3
            go_wp2_with fail
            clear p1 p2 p3 p4 i1 i2
            have e1 : IntKind.i64.wrap ((k : Int) + 2) = (k : Int) + 2 := IntWalk.i64_in _ (by omega)
            have e2 : ¬ n = 0 := by omega
            have e3 : (0 : Int) ≤ ((k : Int) + 2) % (n : Int) := Int.emod_nonneg _ (by omega)
            have e4 : ((k : Int) + 2) % (n : Int) < (n : Int) := Int.emod_lt_of_pos _ (by omega)
            have e5 : ((k : Int) + 2).tmod (n : Int) = ((k : Int) + 2) % (n : Int) := Int.tmod_eq_emod_of_nonneg (by omega)
            have e6 : (((k : Int) + 2) % (n : Int)).toNat = (k + 2) % n := by rw [show ((k : Int) + 2) % (n : Int) = (((k + 2) % n : Nat) : Int) by simp]; exact Int.toNat_natCast _
            have z1 := sz_of (x := (vx l k).1) (y := (vx l k).2) (HF.out k hlt).1
            have z2 := sz_of (x := (vx l ((k + 1) % n)).1) (y := (vx l ((k + 1) % n)).2) (HF.out _ m1).1
            have z3 := sz_of (x := (vx l ((k + 2) % n)).1) (y := (vx l ((k + 2) % n)).2) (HF.out _ m2).1
            have T := Lib.hid (fun W => pgTurn_any (vx l k).1 (vx l k).2 (vx l ((k + 1) % n)).1 (vx l ((k + 1) % n)).2 (vx l ((k + 2) % n)).1 (vx l ((k + 2) % n)).2 W z1 z2 z3)
            have ht : twI (vx l k).1 (vx l k).2 (vx l ((k + 1) % n)).1 (vx l ((k + 1) % n)).2 (vx l ((k + 2) % n)).1 (vx l ((k + 2) % n)).2 = twP (vx l k) (vx l (k + 1)) (vx l (k + 2)) := by
              unfold twP; rw [← HN.out, vx_per, vx_per]
            rw [ht] at T
            clear z1 z2 z3 ht
            by_cases hz : twP (vx l k) (vx l (k + 1)) (vx l (k + 2)) = 0
            · rw [hz] at T
              have hng : Hid (goodB l = false) := Lib.hid (HG.out (fun h => h.turn k (by have := HN.out; omega) hz))
              clear hz
              refine wp_region_B (fun W => (Below w.heap.size w W ∧ wo.heap.size + 1 < W.heap.size ∧ W.cell? ⟨wo.heap.size, 0, none⟩ = some (.int .i64 (vx l k).1) ∧ W.cell? ⟨wo.heap.size, 1, none⟩ = some (.int .i64 (vx l k).2) ∧ W.cell? ⟨wo.heap.size + 1, 0, none⟩ = some (.int .i64 (vx l ((k + 1) % n)).1) ∧ W.cell? ⟨wo.heap.size + 1, 1, none⟩ = some (.int .i64 (vx l ((k + 1) % n)).2))) (by kernel_rfl) (KP.out _ _ BX.out ((Below.refl _ _).drew)) ?_
              first | refine wpB_skip 0 rfl (by kernel_rfl) (by kernel_rfl) (by kernel_rfl) (by rfl) ?_ | (refine wpB_text 0 (v := ?_) rfl (by kernel_rfl) (by kernel_rfl) (by kernel_rfl) (by rfl) (fun W hW => ?_) ?_; rotate_left; (obtain ⟨k1, k2, k3, k4, k5, k6⟩ := hW; have c4 := C3.out W k1; go_simp; refine comes_v ?_; exact ⟨k1, k2, k3, k4, k5, k6⟩))
              (try simp only [Act.put, List.setIfInBounds_toArray, List.set_cons_zero, List.set_cons_succ])
              first | refine wpB_skip 1 rfl (by kernel_rfl) (by kernel_rfl) (by kernel_rfl) (by rfl) ?_ | (refine wpB_text 1 (v := ?_) rfl (by kernel_rfl) (by kernel_rfl) (by kernel_rfl) (by rfl) (fun W hW => ?_) ?_; rotate_left; (obtain ⟨k1, k2, k3, k4, k5, k6⟩ := hW; have c4 := C3.out W k1; go_simp; refine comes_v ?_; exact ⟨k1, k2, k3, k4, k5, k6⟩))
              (try simp only [Act.put, List.setIfInBounds_toArray, List.set_cons_zero, List.set_cons_succ])
              first | refine wpB_skip 2 rfl (by kernel_rfl) (by kernel_rfl) (by kernel_rfl) (by rfl) ?_ | (refine wpB_text 2 (v := ?_) rfl (by kernel_rfl) (by kernel_rfl) (by kernel_rfl) (by rfl) (fun W hW => ?_) ?_; rotate_left; (obtain ⟨k1, k2, k3, k4, k5, k6⟩ := hW; have c4 := C3.out W k1; go_simp; refine comes_v ?_; exact ⟨k1, k2, k3, k4, k5, k6⟩))
              (try simp only [Act.put, List.setIfInBounds_toArray, List.set_cons_zero, List.set_cons_succ])
              first | refine wpB_skip 3 rfl (by kernel_rfl) (by kernel_rfl) (by kernel_rfl) (by rfl) ?_ | (refine wpB_text 3 (v := ?_) rfl (by kernel_rfl) (by kernel_rfl) (by kernel_rfl) (by rfl) (fun W hW => ?_) ?_; rotate_left; (obtain ⟨k1, k2, k3, k4, k5, k6⟩ := hW; have c4 := C3.out W k1; go_simp; refine comes_v ?_; exact ⟨k1, k2, k3, k4, k5, k6⟩))
              (try simp only [Act.put, List.setIfInBounds_toArray, List.set_cons_zero, List.set_cons_succ])
              first | refine wpB_skip 4 rfl (by kernel_rfl) (by kernel_rfl) (by kernel_rfl) (by rfl) ?_ | (refine wpB_text 4 (v := ?_) rfl (by kernel_rfl) (by kernel_rfl) (by kernel_rfl) (by rfl) (fun W hW => ?_) ?_; rotate_left; (obtain ⟨k1, k2, k3, k4, k5, k6⟩ := hW; have c4 := C3.out W k1; go_simp; refine comes_v ?_; exact ⟨k1, k2, k3, k4, k5, k6⟩))
              (try simp only [Act.put, List.setIfInBounds_toArray, List.set_cons_zero, List.set_cons_succ])
              first | refine wpB_skip 5 rfl (by kernel_rfl) (by kernel_rfl) (by kernel_rfl) (by rfl) ?_ | (refine wpB_text 5 (v := ?_) rfl (by kernel_rfl) (by kernel_rfl) (by kernel_rfl) (by rfl) (fun W hW => ?_) ?_; rotate_left; (obtain ⟨k1, k2, k3, k4, k5, k6⟩ := hW; have c4 := C3.out W k1; go_simp; refine comes_v ?_; exact ⟨k1, k2, k3, k4, k5, k6⟩))
              (try simp only [Act.put, List.setIfInBounds_toArray, List.set_cons_zero, List.set_cons_succ])
              first | refine wpB_skip 6 rfl (by kernel_rfl) (by kernel_rfl) (by kernel_rfl) (by rfl) ?_ | (refine wpB_text 6 (v := ?_) rfl (by kernel_rfl) (by kernel_rfl) (by kernel_rfl) (by rfl) (fun W hW => ?_) ?_; rotate_left; (obtain ⟨k1, k2, k3, k4, k5, k6⟩ := hW; have c4 := C3.out W k1; go_simp; refine comes_v ?_; exact ⟨k1, k2, k3, k4, k5, k6⟩))
              (try simp only [Act.put, List.setIfInBounds_toArray, List.set_cons_zero, List.set_cons_succ])
              first | refine wpB_skip 7 rfl (by kernel_rfl) (by kernel_rfl) (by kernel_rfl) (by rfl) ?_ | (refine wpB_text 7 (v := ?_) rfl (by kernel_rfl) (by kernel_rfl) (by kernel_rfl) (by rfl) (fun W hW => ?_) ?_; rotate_left; (obtain ⟨k1, k2, k3, k4, k5, k6⟩ := hW; have c4 := C3.out W k1; go_simp; refine comes_v ?_; exact ⟨k1, k2, k3, k4, k5, k6⟩))
              (try simp only [Act.put, List.setIfInBounds_toArray, List.set_cons_zero, List.set_cons_succ])
              first | refine wpB_skip 8 rfl (by kernel_rfl) (by kernel_rfl) (by kernel_rfl) (by rfl) ?_ | (refine wpB_text 8 (v := ?_) rfl (by kernel_rfl) (by kernel_rfl) (by kernel_rfl) (by rfl) (fun W hW => ?_) ?_; rotate_left; (obtain ⟨k1, k2, k3, k4, k5, k6⟩ := hW; have c4 := C3.out W k1; go_simp; refine comes_v ?_; exact ⟨k1, k2, k3, k4, k5, k6⟩))
              (try simp only [Act.put, List.setIfInBounds_toArray, List.set_cons_zero, List.set_cons_succ])
              first | refine wpB_skip 9 rfl (by kernel_rfl) (by kernel_rfl) (by kernel_rfl) (by rfl) ?_ | (refine wpB_text 9 (v := .int .i64 0) rfl (by kernel_rfl) (by kernel_rfl) (by kernel_rfl) (by rfl) (fun W hW => ?_) ?_; (obtain ⟨k1, k2, k3, k4, k5, k6⟩ := hW; have c4 := C3.out W k1; go_simp; exact comes_c ( T.out _) (fun wn hbn => KP.out _ _ ⟨k1, k2, k3, k4, k5, k6⟩ hbn)))
              (try simp only [Act.put, List.setIfInBounds_toArray, List.set_cons_zero, List.set_cons_succ])
              first | refine wpB_skip 10 rfl (by kernel_rfl) (by kernel_rfl) (by kernel_rfl) (by rfl) ?_ | (refine wpB_text 10 (v := ?_) rfl (by kernel_rfl) (by kernel_rfl) (by kernel_rfl) (by rfl) (fun W hW => ?_) ?_; rotate_left; (obtain ⟨k1, k2, k3, k4, k5, k6⟩ := hW; have c4 := C3.out W k1; go_simp; refine comes_v ?_; exact ⟨k1, k2, k3, k4, k5, k6⟩))
              (try simp only [Act.put, List.setIfInBounds_toArray, List.set_cons_zero, List.set_cons_succ])
              refine wpB_done (by kernel_rfl) ?_ _
              intro W hW; obtain ⟨k1, k2, k3, k4, k5, k6⟩ := hW
              go_wp2_with fail
              go_ret
              exact ⟨ret_bool hng.out.symm, k1⟩
            · have HTW : Hid (Turns l k) := Lib.hid hz
              have hzb : (twP (vx l k) (vx l (k + 1)) (vx l (k + 2)) == 0) = false := by simpa using hz
              generalize twP (vx l k) (vx l (k + 1)) (vx l (k + 2)) = t at *
              refine wp_region_B (fun W => (Below w.heap.size w W ∧ wo.heap.size + 1 < W.heap.size ∧ W.cell? ⟨wo.heap.size, 0, none⟩ = some (.int .i64 (vx l k).1) ∧ W.cell? ⟨wo.heap.size, 1, none⟩ = some (.int .i64 (vx l k).2) ∧ W.cell? ⟨wo.heap.size + 1, 0, none⟩ = some (.int .i64 (vx l ((k + 1) % n)).1) ∧ W.cell? ⟨wo.heap.size + 1, 1, none⟩ = some (.int .i64 (vx l ((k + 1) % n)).2))) (by kernel_rfl) (KP.out _ _ BX.out ((Below.refl _ _).drew)) ?_
              first | refine wpB_skip 0 rfl (by kernel_rfl) (by kernel_rfl) (by kernel_rfl) (by rfl) ?_ | (refine wpB_text 0 (v := ?_) rfl (by kernel_rfl) (by kernel_rfl) (by kernel_rfl) (by rfl) (fun W hW => ?_) ?_; rotate_left; (obtain ⟨k1, k2, k3, k4, k5, k6⟩ := hW; have c4 := C3.out W k1; go_simp; refine comes_v ?_; exact ⟨k1, k2, k3, k4, k5, k6⟩))
              (try simp only [Act.put, List.setIfInBounds_toArray, List.set_cons_zero, List.set_cons_succ])
              first | refine wpB_skip 1 rfl (by kernel_rfl) (by kernel_rfl) (by kernel_rfl) (by rfl) ?_ | (refine wpB_text 1 (v := ?_) rfl (by kernel_rfl) (by kernel_rfl) (by kernel_rfl) (by rfl) (fun W hW => ?_) ?_; rotate_left; (obtain ⟨k1, k2, k3, k4, k5, k6⟩ := hW; have c4 := C3.out W k1; go_simp; refine comes_v ?_; exact ⟨k1, k2, k3, k4, k5, k6⟩))
              (try simp only [Act.put, List.setIfInBounds_toArray, List.set_cons_zero, List.set_cons_succ])
              first | refine wpB_skip 2 rfl (by kernel_rfl) (by kernel_rfl) (by kernel_rfl) (by rfl) ?_ | (refine wpB_text 2 (v := ?_) rfl (by kernel_rfl) (by kernel_rfl) (by kernel_rfl) (by rfl) (fun W hW => ?_) ?_; rotate_left; (obtain ⟨k1, k2, k3, k4, k5, k6⟩ := hW; have c4 := C3.out W k1; go_simp; refine comes_v ?_; exact ⟨k1, k2, k3, k4, k5, k6⟩))
              (try simp only [Act.put, List.setIfInBounds_toArray, List.set_cons_zero, List.set_cons_succ])
              first | refine wpB_skip 3 rfl (by kernel_rfl) (by kernel_rfl) (by kernel_rfl) (by rfl) ?_ | (refine wpB_text 3 (v := ?_) rfl (by kernel_rfl) (by kernel_rfl) (by kernel_rfl) (by rfl) (fun W hW => ?_) ?_; rotate_left; (obtain ⟨k1, k2, k3, k4, k5, k6⟩ := hW; have c4 := C3.out W k1; go_simp; refine comes_v ?_; exact ⟨k1, k2, k3, k4, k5, k6⟩))
              (try simp only [Act.put, List.setIfInBounds_toArray, List.set_cons_zero, List.set_cons_succ])
              first | refine wpB_skip 4 rfl (by kernel_rfl) (by kernel_rfl) (by kernel_rfl) (by rfl) ?_ | (refine wpB_text 4 (v := ?_) rfl (by kernel_rfl) (by kernel_rfl) (by kernel_rfl) (by rfl) (fun W hW => ?_) ?_; rotate_left; (obtain ⟨k1, k2, k3, k4, k5, k6⟩ := hW; have c4 := C3.out W k1; go_simp; refine comes_v ?_; exact ⟨k1, k2, k3, k4, k5, k6⟩))
              (try simp only [Act.put, List.setIfInBounds_toArray, List.set_cons_zero, List.set_cons_succ])
              first | refine wpB_skip 5 rfl (by kernel_rfl) (by kernel_rfl) (by kernel_rfl) (by rfl) ?_ | (refine wpB_text 5 (v := ?_) rfl (by kernel_rfl) (by kernel_rfl) (by kernel_rfl) (by rfl) (fun W hW => ?_) ?_; rotate_left; (obtain ⟨k1, k2, k3, k4, k5, k6⟩ := hW; have c4 := C3.out W k1; go_simp; refine comes_v ?_; exact ⟨k1, k2, k3, k4, k5, k6⟩))
              (try simp only [Act.put, List.setIfInBounds_toArray, List.set_cons_zero, List.set_cons_succ])
              first | refine wpB_skip 6 rfl (by kernel_rfl) (by kernel_rfl) (by kernel_rfl) (by rfl) ?_ | (refine wpB_text 6 (v := ?_) rfl (by kernel_rfl) (by kernel_rfl) (by kernel_rfl) (by rfl) (fun W hW => ?_) ?_; rotate_left; (obtain ⟨k1, k2, k3, k4, k5, k6⟩ := hW; have c4 := C3.out W k1; go_simp; refine comes_v ?_; exact ⟨k1, k2, k3, k4, k5, k6⟩))
              (try simp only [Act.put, List.setIfInBounds_toArray, List.set_cons_zero, List.set_cons_succ])
              first | refine wpB_skip 7 rfl (by kernel_rfl) (by kernel_rfl) (by kernel_rfl) (by rfl) ?_ | (refine wpB_text 7 (v := ?_) rfl (by kernel_rfl) (by kernel_rfl) (by kernel_rfl) (by rfl) (fun W hW => ?_) ?_; rotate_left; (obtain ⟨k1, k2, k3, k4, k5, k6⟩ := hW; have c4 := C3.out W k1; go_simp; refine comes_v ?_; exact ⟨k1, k2, k3, k4, k5, k6⟩))
              (try simp only [Act.put, List.setIfInBounds_toArray, List.set_cons_zero, List.set_cons_succ])
              first | refine wpB_skip 8 rfl (by kernel_rfl) (by kernel_rfl) (by kernel_rfl) (by rfl) ?_ | (refine wpB_text 8 (v := ?_) rfl (by kernel_rfl) (by kernel_rfl) (by kernel_rfl) (by rfl) (fun W hW => ?_) ?_; rotate_left; (obtain ⟨k1, k2, k3, k4, k5, k6⟩ := hW; have c4 := C3.out W k1; go_simp; refine comes_v ?_; exact ⟨k1, k2, k3, k4, k5, k6⟩))
              (try simp only [Act.put, List.setIfInBounds_toArray, List.set_cons_zero, List.set_cons_succ])
              first | refine wpB_skip 9 rfl (by kernel_rfl) (by kernel_rfl) (by kernel_rfl) (by rfl) ?_ | (refine wpB_text 9 (v := .int .i64 t) rfl (by kernel_rfl) (by kernel_rfl) (by kernel_rfl) (by rfl) (fun W hW => ?_) ?_; (obtain ⟨k1, k2, k3, k4, k5, k6⟩ := hW; have c4 := C3.out W k1; go_simp; exact comes_c ( T.out _) (fun wn hbn => KP.out _ _ ⟨k1, k2, k3, k4, k5, k6⟩ hbn)))
              (try simp only [Act.put, List.setIfInBounds_toArray, List.set_cons_zero, List.set_cons_succ])
              first | refine wpB_skip 10 rfl (by kernel_rfl) (by kernel_rfl) (by kernel_rfl) (by rfl) ?_ | (refine wpB_text 10 (v := ?_) rfl (by kernel_rfl) (by kernel_rfl) (by kernel_rfl) (by rfl) (fun W hW => ?_) ?_; rotate_left; (obtain ⟨k1, k2, k3, k4, k5, k6⟩ := hW; have c4 := C3.out W k1; go_simp; refine comes_v ?_; exact ⟨k1, k2, k3, k4, k5, k6⟩))
              (try simp only [Act.put, List.setIfInBounds_toArray, List.set_cons_zero, List.set_cons_succ])
              refine wpB_done (by kernel_rfl) ?_ _
              intro W hW; obtain ⟨k1, k2, k3, k4, k5, k6⟩ := hW
              go_wp2_with fail
              clear e1 e2 e3 e4 e5 e6 T hzb
              go_loopg [11] (n + 1 - (k + 2)) (fun g2 j wi => ∃ m : Nat, k + 2 ≤ m ∧ m ≤ n + 1 ∧ g2 = n + 1 - m ∧ j = .int .i64 m ∧ (Below w.heap.size w wi ∧ wo.heap.size + 1 < wi.heap.size ∧ wi.cell? ⟨wo.heap.size, 0, none⟩ = some (.int .i64 (vx l k).1) ∧ wi.cell? ⟨wo.heap.size, 1, none⟩ = some (.int .i64 (vx l k).2) ∧ wi.cell? ⟨wo.heap.size + 1, 0, none⟩ = some (.int .i64 (vx l ((k + 1) % n)).1) ∧ wi.cell? ⟨wo.heap.size + 1, 1, none⟩ = some (.int .i64 (vx l ((k + 1) % n)).2)) ∧ Hid (∀ q, k + 2 ≤ q → q < m → q < n → q + 1 < n + k → meP (vx l k) (vx l (k + 1)) (vx l q) (vx l (q + 1)) = false))
              case atStart => exact ⟨k + 2, by omega, by omega, rfl, by go_num, ⟨k1, k2, k3, k4, k5, k6⟩, Lib.hid (fun q h1 h2 => absurd h2 (by omega))⟩
              case round =>
                clear k1 k2 k3 k4 k5 k6 BX
                obtain ⟨m, hm1, hm2, hg2, rfl, ⟨k1, k2, k3, k4, k5, k6⟩, hM⟩ := hrel
                have HGM := Lib.hid hg2
                clear hg2
                by_cases c1 : m < n
                · by_cases c2 : m + 1 < n + k
                  · have d1 : ((m : Int) < (n : Int)) := by omega
                    have d2 : ((m : Int) - (k : Int) < (n : Int) - 1) := by omega
                    have m3 : (m + 1) % n < n := Nat.mod_lt _ (by omega)
                    have c3 : ∀ W, Below w.heap.size w W → (W.cell? ⟨b, off + m * 2, none⟩ = some (.int .i64 (vx l m).1) ∧ W.cell? ⟨b, off + m * 2 + 1, none⟩ = some (.int .i64 (vx l m).2)) ∧ W.cell? ⟨b, off + (m + 1) % n * 2, none⟩ = some (.int .i64 (vx l ((m + 1) % n)).1) ∧ W.cell? ⟨b, off + (m + 1) % n * 2 + 1, none⟩ = some (.int .i64 (vx l ((m + 1) % n)).2) := fun W hW =>
                      ⟨⟨(hW.cell (p := ⟨b, off + m * 2, none⟩) hb).trans (HC.out _ c1).1, (hW.cell (p := ⟨b, off + m * 2 + 1, none⟩) hb).trans (HC.out _ c1).2⟩, (hW.cell (p := ⟨b, off + (m + 1) % n * 2, none⟩) hb).trans (HC.out _ m3).1, (hW.cell (p := ⟨b, off + (m + 1) % n * 2 + 1, none⟩) hb).trans (HC.out _ m3).2⟩
                    have C5 := Lib.hid c3
                    clear c3
                    have z1 := sz_of (x := (vx l k).1) (y := (vx l k).2) (HF.out k hlt).1
                    have z2 := sz_of (x := (vx l ((k + 1) % n)).1) (y := (vx l ((k + 1) % n)).2) (HF.out _ m1).1
                    have z3 := sz_of (x := (vx l m).1) (y := (vx l m).2) (HF.out _ c1).1
                    have z4 := sz_of (x := (vx l ((m + 1) % n)).1) (y := (vx l ((m + 1) % n)).2) (HF.out _ m3).1
                    have M := Lib.hid (fun W => pgMeet_any (vx l k).1 (vx l k).2 (vx l ((k + 1) % n)).1 (vx l ((k + 1) % n)).2 (vx l m).1 (vx l m).2 (vx l ((m + 1) % n)).1 (vx l ((m + 1) % n)).2 W z1 z2 z3 z4)
                    have ht : meetB (vx l k).1 (vx l k).2 (vx l ((k + 1) % n)).1 (vx l ((k + 1) % n)).2 (vx l m).1 (vx l m).2 (vx l ((m + 1) % n)).1 (vx l ((m + 1) % n)).2 = meP (vx l k) (vx l (k + 1)) (vx l m) (vx l (m + 1)) := by
                      unfold meP; rw [← HN.out, vx_per, vx_per]
                    rw [ht] at M
                    clear z1 z2 z3 z4 ht
                    have hk0 : (Below w.heap.size w wr ∧ wo.heap.size + 1 < wr.heap.size ∧ wr.cell? ⟨wo.heap.size, 0, none⟩ = some (.int .i64 (vx l k).1) ∧ wr.cell? ⟨wo.heap.size, 1, none⟩ = some (.int .i64 (vx l k).2) ∧ wr.cell? ⟨wo.heap.size + 1, 0, none⟩ = some (.int .i64 (vx l ((k + 1) % n)).1) ∧ wr.cell? ⟨wo.heap.size + 1, 1, none⟩ = some (.int .i64 (vx l ((k + 1) % n)).2))
                      := ⟨k1, k2, k3, k4, k5, k6⟩
                    have HK0 := Lib.hid hk0
                    clear hk0
                    by_cases hmt : meP (vx l k) (vx l (k + 1)) (vx l m) (vx l (m + 1)) = true
                    · rw [hmt] at M
                      have hng : Hid (goodB l = false) := Lib.hid (HG.out (fun h => by have := h.apart k m hm1 (by have := HN.out; omega) (by have := HN.out; omega); rw [hmt] at this; cases this))
                      clear hmt
                      go_wp2_with fail
                      have e1 : IntKind.i64.wrap ((m : Int) + 1) = (m : Int) + 1 := IntWalk.i64_in _ (by omega)
                      have e2 : ¬ n = 0 := by omega
                      have e3 : (0 : Int) ≤ ((m : Int) + 1) % (n : Int) := Int.emod_nonneg _ (by omega)
                      have e4 : ((m : Int) + 1) % (n : Int) < (n : Int) := Int.emod_lt_of_pos _ (by omega)
                      have e5 : ((m : Int) + 1).tmod (n : Int) = ((m : Int) + 1) % (n : Int) := Int.tmod_eq_emod_of_nonneg (by omega)
                      have e6 : (((m : Int) + 1) % (n : Int)).toNat = (m + 1) % n := by rw [show ((m : Int) + 1) % (n : Int) = (((m + 1) % n : Nat) : Int) by simp]; exact Int.toNat_natCast _
                      refine wp_region_B (fun W => (Below w.heap.size w W ∧ wo.heap.size + 1 < W.heap.size ∧ W.cell? ⟨wo.heap.size, 0, none⟩ = some (.int .i64 (vx l k).1) ∧ W.cell? ⟨wo.heap.size, 1, none⟩ = some (.int .i64 (vx l k).2) ∧ W.cell? ⟨wo.heap.size + 1, 0, none⟩ = some (.int .i64 (vx l ((k + 1) % n)).1) ∧ W.cell? ⟨wo.heap.size + 1, 1, none⟩ = some (.int .i64 (vx l ((k + 1) % n)).2))) (by kernel_rfl) (KP.out _ _ HK0.out ((Below.refl _ _).drew)) ?_
                      clear k1 k2 k3 k4 k5 k6
                      first | refine wpB_skip 0 rfl (by kernel_rfl) (by kernel_rfl) (by kernel_rfl) (by rfl) ?_ | (refine wpB_text 0 (v := ?_) rfl (by kernel_rfl) (by kernel_rfl) (by kernel_rfl) (by rfl) (fun W hW => ?_) ?_; rotate_left; (obtain ⟨k1, k2, k3, k4, k5, k6⟩ := hW; have c4 := (C5.out W k1).1; have c5 := (C5.out W k1).2; go_simp; refine comes_v ?_; exact ⟨k1, k2, k3, k4, k5, k6⟩))
                      (try simp only [Act.put, List.setIfInBounds_toArray, List.set_cons_zero, List.set_cons_succ])
                      first | refine wpB_skip 1 rfl (by kernel_rfl) (by kernel_rfl) (by kernel_rfl) (by rfl) ?_ | (refine wpB_text 1 (v := ?_) rfl (by kernel_rfl) (by kernel_rfl) (by kernel_rfl) (by rfl) (fun W hW => ?_) ?_; rotate_left; (obtain ⟨k1, k2, k3, k4, k5, k6⟩ := hW; have c4 := (C5.out W k1).1; have c5 := (C5.out W k1).2; go_simp; refine comes_v ?_; exact ⟨k1, k2, k3, k4, k5, k6⟩))
                      (try simp only [Act.put, List.setIfInBounds_toArray, List.set_cons_zero, List.set_cons_succ])
                      first | refine wpB_skip 2 rfl (by kernel_rfl) (by kernel_rfl) (by kernel_rfl) (by rfl) ?_ | (refine wpB_text 2 (v := ?_) rfl (by kernel_rfl) (by kernel_rfl) (by kernel_rfl) (by rfl) (fun W hW => ?_) ?_; rotate_left; (obtain ⟨k1, k2, k3, k4, k5, k6⟩ := hW; have c4 := (C5.out W k1).1; have c5 := (C5.out W k1).2; go_simp; refine comes_v ?_; exact ⟨k1, k2, k3, k4, k5, k6⟩))
                      (try simp only [Act.put, List.setIfInBounds_toArray, List.set_cons_zero, List.set_cons_succ])
                      first | refine wpB_skip 3 rfl (by kernel_rfl) (by kernel_rfl) (by kernel_rfl) (by rfl) ?_ | (refine wpB_text 3 (v := ?_) rfl (by kernel_rfl) (by kernel_rfl) (by kernel_rfl) (by rfl) (fun W hW => ?_) ?_; rotate_left; (obtain ⟨k1, k2, k3, k4, k5, k6⟩ := hW; have c4 := (C5.out W k1).1; have c5 := (C5.out W k1).2; go_simp; refine comes_v ?_; exact ⟨k1, k2, k3, k4, k5, k6⟩))
                      (try simp only [Act.put, List.setIfInBounds_toArray, List.set_cons_zero, List.set_cons_succ])
                      first | refine wpB_skip 4 rfl (by kernel_rfl) (by kernel_rfl) (by kernel_rfl) (by rfl) ?_ | (refine wpB_text 4 (v := ?_) rfl (by kernel_rfl) (by kernel_rfl) (by kernel_rfl) (by rfl) (fun W hW => ?_) ?_; rotate_left; (obtain ⟨k1, k2, k3, k4, k5, k6⟩ := hW; have c4 := (C5.out W k1).1; have c5 := (C5.out W k1).2; go_simp; refine comes_v ?_; exact ⟨k1, k2, k3, k4, k5, k6⟩))
                      (try simp only [Act.put, List.setIfInBounds_toArray, List.set_cons_zero, List.set_cons_succ])
                      first | refine wpB_skip 5 rfl (by kernel_rfl) (by kernel_rfl) (by kernel_rfl) (by rfl) ?_ | (refine wpB_text 5 (v := ?_) rfl (by kernel_rfl) (by kernel_rfl) (by kernel_rfl) (by rfl) (fun W hW => ?_) ?_; rotate_left; (obtain ⟨k1, k2, k3, k4, k5, k6⟩ := hW; have c4 := (C5.out W k1).1; have c5 := (C5.out W k1).2; go_simp; refine comes_v ?_; exact ⟨k1, k2, k3, k4, k5, k6⟩))
                      (try simp only [Act.put, List.setIfInBounds_toArray, List.set_cons_zero, List.set_cons_succ])
                      first | refine wpB_skip 6 rfl (by kernel_rfl) (by kernel_rfl) (by kernel_rfl) (by rfl) ?_ | (refine wpB_text 6 (v := ?_) rfl (by kernel_rfl) (by kernel_rfl) (by kernel_rfl) (by rfl) (fun W hW => ?_) ?_; rotate_left; (obtain ⟨k1, k2, k3, k4, k5, k6⟩ := hW; have c4 := (C5.out W k1).1; have c5 := (C5.out W k1).2; go_simp; refine comes_v ?_; exact ⟨k1, k2, k3, k4, k5, k6⟩))
                      (try simp only [Act.put, List.setIfInBounds_toArray, List.set_cons_zero, List.set_cons_succ])
                      first | refine wpB_skip 7 rfl (by kernel_rfl) (by kernel_rfl) (by kernel_rfl) (by rfl) ?_ | (refine wpB_text 7 (v := ?_) rfl (by kernel_rfl) (by kernel_rfl) (by kernel_rfl) (by rfl) (fun W hW => ?_) ?_; rotate_left; (obtain ⟨k1, k2, k3, k4, k5, k6⟩ := hW; have c4 := (C5.out W k1).1; have c5 := (C5.out W k1).2; go_simp; refine comes_v ?_; exact ⟨k1, k2, k3, k4, k5, k6⟩))
                      (try simp only [Act.put, List.setIfInBounds_toArray, List.set_cons_zero, List.set_cons_succ])
                      first | refine wpB_skip 8 rfl (by kernel_rfl) (by kernel_rfl) (by kernel_rfl) (by rfl) ?_ | (refine wpB_text 8 (v := ?_) rfl (by kernel_rfl) (by kernel_rfl) (by kernel_rfl) (by rfl) (fun W hW => ?_) ?_; rotate_left; (obtain ⟨k1, k2, k3, k4, k5, k6⟩ := hW; have c4 := (C5.out W k1).1; have c5 := (C5.out W k1).2; go_simp; refine comes_v ?_; exact ⟨k1, k2, k3, k4, k5, k6⟩))
                      (try simp only [Act.put, List.setIfInBounds_toArray, List.set_cons_zero, List.set_cons_succ])
                      first | refine wpB_skip 9 rfl (by kernel_rfl) (by kernel_rfl) (by kernel_rfl) (by rfl) ?_ | (refine wpB_text 9 (v := ?_) rfl (by kernel_rfl) (by kernel_rfl) (by kernel_rfl) (by rfl) (fun W hW => ?_) ?_; rotate_left; (obtain ⟨k1, k2, k3, k4, k5, k6⟩ := hW; have c4 := (C5.out W k1).1; have c5 := (C5.out W k1).2; go_simp; refine comes_v ?_; exact ⟨k1, k2, k3, k4, k5, k6⟩))
                      (try simp only [Act.put, List.setIfInBounds_toArray, List.set_cons_zero, List.set_cons_succ])
                      first | refine wpB_skip 10 rfl (by kernel_rfl) (by kernel_rfl) (by kernel_rfl) (by rfl) ?_ | (refine wpB_text 10 (v := ?_) rfl (by kernel_rfl) (by kernel_rfl) (by kernel_rfl) (by rfl) (fun W hW => ?_) ?_; rotate_left; (obtain ⟨k1, k2, k3, k4, k5, k6⟩ := hW; have c4 := (C5.out W k1).1; have c5 := (C5.out W k1).2; go_simp; refine comes_v ?_; exact ⟨k1, k2, k3, k4, k5, k6⟩))
                      (try simp only [Act.put, List.setIfInBounds_toArray, List.set_cons_zero, List.set_cons_succ])
                      first | refine wpB_skip 11 rfl (by kernel_rfl) (by kernel_rfl) (by kernel_rfl) (by rfl) ?_ | (refine wpB_text 11 (v := ?_) rfl (by kernel_rfl) (by kernel_rfl) (by kernel_rfl) (by rfl) (fun W hW => ?_) ?_; rotate_left; (obtain ⟨k1, k2, k3, k4, k5, k6⟩ := hW; have c4 := (C5.out W k1).1; have c5 := (C5.out W k1).2; go_simp; refine comes_v ?_; exact ⟨k1, k2, k3, k4, k5, k6⟩))
                      (try simp only [Act.put, List.setIfInBounds_toArray, List.set_cons_zero, List.set_cons_succ])
                      first | refine wpB_skip 12 rfl (by kernel_rfl) (by kernel_rfl) (by kernel_rfl) (by rfl) ?_ | (refine wpB_text 12 (v := ?_) rfl (by kernel_rfl) (by kernel_rfl) (by kernel_rfl) (by rfl) (fun W hW => ?_) ?_; rotate_left; (obtain ⟨k1, k2, k3, k4, k5, k6⟩ := hW; have c4 := (C5.out W k1).1; have c5 := (C5.out W k1).2; go_simp; refine comes_v ?_; exact ⟨k1, k2, k3, k4, k5, k6⟩))
                      (try simp only [Act.put, List.setIfInBounds_toArray, List.set_cons_zero, List.set_cons_succ])
                      first | refine wpB_skip 13 rfl (by kernel_rfl) (by kernel_rfl) (by kernel_rfl) (by rfl) ?_ | (refine wpB_text 13 (v := .bool true) rfl (by kernel_rfl) (by kernel_rfl) (by kernel_rfl) (by rfl) (fun W hW => ?_) ?_; (obtain ⟨k1, k2, k3, k4, k5, k6⟩ := hW; have c4 := (C5.out W k1).1; have c5 := (C5.out W k1).2; go_simp; exact comes_c ( M.out _) (fun wn hbn => KP.out _ _ ⟨k1, k2, k3, k4, k5, k6⟩ hbn)))
                      (try simp only [Act.put, List.setIfInBounds_toArray, List.set_cons_zero, List.set_cons_succ])
                      refine wpB_done (by kernel_rfl) ?_ _
                      intro W hW; obtain ⟨k1, k2, k3, k4, k5, k6⟩ := hW
                      clear e1 e2 e3 e4 e5 e6
                      go_wp2_with fail
                      go_ret
                      exact ⟨ret_bool hng.out.symm, k1⟩
                    · have hmf : meP (vx l k) (vx l (k + 1)) (vx l m) (vx l (m + 1)) = false := by simpa using hmt
                      rw [hmf] at M
                      have hM2 : Hid (∀ q, k + 2 ≤ q → q < m + 1 → q < n → q + 1 < n + k → meP (vx l k) (vx l (k + 1)) (vx l q) (vx l (q + 1)) = false) := Lib.hid (fun q h1 h2 h3 h4 => by
                        by_cases hqm : q = m
                        · subst hqm; exact hmf
                        · exact hM.out q h1 (by omega) h3 h4)
                      clear hmt hmf hM
                      go_wp2_with fail
                      have e1 : IntKind.i64.wrap ((m : Int) + 1) = (m : Int) + 1 := IntWalk.i64_in _ (by omega)
                      have e2 : ¬ n = 0 := by omega
                      have e3 : (0 : Int) ≤ ((m : Int) + 1) % (n : Int) := Int.emod_nonneg _ (by omega)
                      have e4 : ((m : Int) + 1) % (n : Int) < (n : Int) := Int.emod_lt_of_pos _ (by omega)
                      have e5 : ((m : Int) + 1).tmod (n : Int) = ((m : Int) + 1) % (n : Int) := Int.tmod_eq_emod_of_nonneg (by omega)
                      have e6 : (((m : Int) + 1) % (n : Int)).toNat = (m + 1) % n := by rw [show ((m : Int) + 1) % (n : Int) = (((m + 1) % n : Nat) : Int) by simp]; exact Int.toNat_natCast _
                      refine wp_region_B (fun W => (Below w.heap.size w W ∧ wo.heap.size + 1 < W.heap.size ∧ W.cell? ⟨wo.heap.size, 0, none⟩ = some (.int .i64 (vx l k).1) ∧ W.cell? ⟨wo.heap.size, 1, none⟩ = some (.int .i64 (vx l k).2) ∧ W.cell? ⟨wo.heap.size + 1, 0, none⟩ = some (.int .i64 (vx l ((k + 1) % n)).1) ∧ W.cell? ⟨wo.heap.size + 1, 1, none⟩ = some (.int .i64 (vx l ((k + 1) % n)).2))) (by kernel_rfl) (KP.out _ _ HK0.out ((Below.refl _ _).drew)) ?_
                      clear k1 k2 k3 k4 k5 k6
                      first | refine wpB_skip 0 rfl (by kernel_rfl) (by kernel_rfl) (by kernel_rfl) (by rfl) ?_ | (refine wpB_text 0 (v := ?_) rfl (by kernel_rfl) (by kernel_rfl) (by kernel_rfl) (by rfl) (fun W hW => ?_) ?_; rotate_left; (obtain ⟨k1, k2, k3, k4, k5, k6⟩ := hW; have c4 := (C5.out W k1).1; have c5 := (C5.out W k1).2; go_simp; refine comes_v ?_; exact ⟨k1, k2, k3, k4, k5, k6⟩))
                      (try simp only [Act.put, List.setIfInBounds_toArray, List.set_cons_zero, List.set_cons_succ])
                      first | refine wpB_skip 1 rfl (by kernel_rfl) (by kernel_rfl) (by kernel_rfl) (by rfl) ?_ | (refine wpB_text 1 (v := ?_) rfl (by kernel_rfl) (by kernel_rfl) (by kernel_rfl) (by rfl) (fun W hW => ?_) ?_; rotate_left; (obtain ⟨k1, k2, k3, k4, k5, k6⟩ := hW; have c4 := (C5.out W k1).1; have c5 := (C5.out W k1).2; go_simp; refine comes_v ?_; exact ⟨k1, k2, k3, k4, k5, k6⟩))
                      (try simp only [Act.put, List.setIfInBounds_toArray, List.set_cons_zero, List.set_cons_succ])
                      first | refine wpB_skip 2 rfl (by kernel_rfl) (by kernel_rfl) (by kernel_rfl) (by rfl) ?_ | (refine wpB_text 2 (v := ?_) rfl (by kernel_rfl) (by kernel_rfl) (by kernel_rfl) (by rfl) (fun W hW => ?_) ?_; rotate_left; (obtain ⟨k1, k2, k3, k4, k5, k6⟩ := hW; have c4 := (C5.out W k1).1; have c5 := (C5.out W k1).2; go_simp; refine comes_v ?_; exact ⟨k1, k2, k3, k4, k5, k6⟩))
                      (try simp only [Act.put, List.setIfInBounds_toArray, List.set_cons_zero, List.set_cons_succ])
                      first | refine wpB_skip 3 rfl (by kernel_rfl) (by kernel_rfl) (by kernel_rfl) (by rfl) ?_ | (refine wpB_text 3 (v := ?_) rfl (by kernel_rfl) (by kernel_rfl) (by kernel_rfl) (by rfl) (fun W hW => ?_) ?_; rotate_left; (obtain ⟨k1, k2, k3, k4, k5, k6⟩ := hW; have c4 := (C5.out W k1).1; have c5 := (C5.out W k1).2; go_simp; refine comes_v ?_; exact ⟨k1, k2, k3, k4, k5, k6⟩))
                      (try simp only [Act.put, List.setIfInBounds_toArray, List.set_cons_zero, List.set_cons_succ])
                      first | refine wpB_skip 4 rfl (by kernel_rfl) (by kernel_rfl) (by kernel_rfl) (by rfl) ?_ | (refine wpB_text 4 (v := ?_) rfl (by kernel_rfl) (by kernel_rfl) (by kernel_rfl) (by rfl) (fun W hW => ?_) ?_; rotate_left; (obtain ⟨k1, k2, k3, k4, k5, k6⟩ := hW; have c4 := (C5.out W k1).1; have c5 := (C5.out W k1).2; go_simp; refine comes_v ?_; exact ⟨k1, k2, k3, k4, k5, k6⟩))
                      (try simp only [Act.put, List.setIfInBounds_toArray, List.set_cons_zero, List.set_cons_succ])
                      first | refine wpB_skip 5 rfl (by kernel_rfl) (by kernel_rfl) (by kernel_rfl) (by rfl) ?_ | (refine wpB_text 5 (v := ?_) rfl (by kernel_rfl) (by kernel_rfl) (by kernel_rfl) (by rfl) (fun W hW => ?_) ?_; rotate_left; (obtain ⟨k1, k2, k3, k4, k5, k6⟩ := hW; have c4 := (C5.out W k1).1; have c5 := (C5.out W k1).2; go_simp; refine comes_v ?_; exact ⟨k1, k2, k3, k4, k5, k6⟩))
                      (try simp only [Act.put, List.setIfInBounds_toArray, List.set_cons_zero, List.set_cons_succ])
                      first | refine wpB_skip 6 rfl (by kernel_rfl) (by kernel_rfl) (by kernel_rfl) (by rfl) ?_ | (refine wpB_text 6 (v := ?_) rfl (by kernel_rfl) (by kernel_rfl) (by kernel_rfl) (by rfl) (fun W hW => ?_) ?_; rotate_left; (obtain ⟨k1, k2, k3, k4, k5, k6⟩ := hW; have c4 := (C5.out W k1).1; have c5 := (C5.out W k1).2; go_simp; refine comes_v ?_; exact ⟨k1, k2, k3, k4, k5, k6⟩))
                      (try simp only [Act.put, List.setIfInBounds_toArray, List.set_cons_zero, List.set_cons_succ])
                      first | refine wpB_skip 7 rfl (by kernel_rfl) (by kernel_rfl) (by kernel_rfl) (by rfl) ?_ | (refine wpB_text 7 (v := ?_) rfl (by kernel_rfl) (by kernel_rfl) (by kernel_rfl) (by rfl) (fun W hW => ?_) ?_; rotate_left; (obtain ⟨k1, k2, k3, k4, k5, k6⟩ := hW; have c4 := (C5.out W k1).1; have c5 := (C5.out W k1).2; go_simp; refine comes_v ?_; exact ⟨k1, k2, k3, k4, k5, k6⟩))
                      (try simp only [Act.put, List.setIfInBounds_toArray, List.set_cons_zero, List.set_cons_succ])
                      first | refine wpB_skip 8 rfl (by kernel_rfl) (by kernel_rfl) (by kernel_rfl) (by rfl) ?_ | (refine wpB_text 8 (v := ?_) rfl (by kernel_rfl) (by kernel_rfl) (by kernel_rfl) (by rfl) (fun W hW => ?_) ?_; rotate_left; (obtain ⟨k1, k2, k3, k4, k5, k6⟩ := hW; have c4 := (C5.out W k1).1; have c5 := (C5.out W k1).2; go_simp; refine comes_v ?_; exact ⟨k1, k2, k3, k4, k5, k6⟩))
                      (try simp only [Act.put, List.setIfInBounds_toArray, List.set_cons_zero, List.set_cons_succ])
                      first | refine wpB_skip 9 rfl (by kernel_rfl) (by kernel_rfl) (by kernel_rfl) (by rfl) ?_ | (refine wpB_text 9 (v := ?_) rfl (by kernel_rfl) (by kernel_rfl) (by kernel_rfl) (by rfl) (fun W hW => ?_) ?_; rotate_left; (obtain ⟨k1, k2, k3, k4, k5, k6⟩ := hW; have c4 := (C5.out W k1).1; have c5 := (C5.out W k1).2; go_simp; refine comes_v ?_; exact ⟨k1, k2, k3, k4, k5, k6⟩))
                      (try simp only [Act.put, List.setIfInBounds_toArray, List.set_cons_zero, List.set_cons_succ])
                      first | refine wpB_skip 10 rfl (by kernel_rfl) (by kernel_rfl) (by kernel_rfl) (by rfl) ?_ | (refine wpB_text 10 (v := ?_) rfl (by kernel_rfl) (by kernel_rfl) (by kernel_rfl) (by rfl) (fun W hW => ?_) ?_; rotate_left; (obtain ⟨k1, k2, k3, k4, k5, k6⟩ := hW; have c4 := (C5.out W k1).1; have c5 := (C5.out W k1).2; go_simp; refine comes_v ?_; exact ⟨k1, k2, k3, k4, k5, k6⟩))
                      (try simp only [Act.put, List.setIfInBounds_toArray, List.set_cons_zero, List.set_cons_succ])
                      first | refine wpB_skip 11 rfl (by kernel_rfl) (by kernel_rfl) (by kernel_rfl) (by rfl) ?_ | (refine wpB_text 11 (v := ?_) rfl (by kernel_rfl) (by kernel_rfl) (by kernel_rfl) (by rfl) (fun W hW => ?_) ?_; rotate_left; (obtain ⟨k1, k2, k3, k4, k5, k6⟩ := hW; have c4 := (C5.out W k1).1; have c5 := (C5.out W k1).2; go_simp; refine comes_v ?_; exact ⟨k1, k2, k3, k4, k5, k6⟩))
                      (try simp only [Act.put, List.setIfInBounds_toArray, List.set_cons_zero, List.set_cons_succ])
                      first | refine wpB_skip 12 rfl (by kernel_rfl) (by kernel_rfl) (by kernel_rfl) (by rfl) ?_ | (refine wpB_text 12 (v := ?_) rfl (by kernel_rfl) (by kernel_rfl) (by kernel_rfl) (by rfl) (fun W hW => ?_) ?_; rotate_left; (obtain ⟨k1, k2, k3, k4, k5, k6⟩ := hW; have c4 := (C5.out W k1).1; have c5 := (C5.out W k1).2; go_simp; refine comes_v ?_; exact ⟨k1, k2, k3, k4, k5, k6⟩))
                      (try simp only [Act.put, List.setIfInBounds_toArray, List.set_cons_zero, List.set_cons_succ])
                      first | refine wpB_skip 13 rfl (by kernel_rfl) (by kernel_rfl) (by kernel_rfl) (by rfl) ?_ | (refine wpB_text 13 (v := .bool false) rfl (by kernel_rfl) (by kernel_rfl) (by kernel_rfl) (by rfl) (fun W hW => ?_) ?_; (obtain ⟨k1, k2, k3, k4, k5, k6⟩ := hW; have c4 := (C5.out W k1).1; have c5 := (C5.out W k1).2; go_simp; exact comes_c ( M.out _) (fun wn hbn => KP.out _ _ ⟨k1, k2, k3, k4, k5, k6⟩ hbn)))
                      (try simp only [Act.put, List.setIfInBounds_toArray, List.set_cons_zero, List.set_cons_succ])
                      refine wpB_done (by kernel_rfl) ?_ _
                      intro W hW; obtain ⟨k1, k2, k3, k4, k5, k6⟩ := hW
                      clear e1 e2 e3 e4 e5 e6
                      go_wp2_with fail
                      go_roundg (n + 1 - (m + 1))
                      case measure => have := HGM.out; omega
                      case rel => exact ⟨m + 1, by omega, by omega, rfl, by go_num, ⟨k1, k2, k3, k4, k5, k6⟩, hM2⟩
                  · have d1 : ((m : Int) < (n : Int)) := by omega
                    have d2 : ¬ ((m : Int) - (k : Int) < (n : Int) - 1) := by omega
                    have hA2 : Hid (Apart l (k + 1)) := Lib.hid (fun i hi => by
                      by_cases hik : i = k
                      · subst hik; exact ⟨HTW.out, fun q h1 h2 h3 => hM.out q h1 (by have := HN.out; omega) (by have := HN.out; omega) (by have := HN.out; omega)⟩
                      · exact hA.out i (by omega))
                    go_wp2_with fail
                    go_roundg (n - (k + 1))
                    case measure => have := HGK.out; omega
                    case rel => exact ⟨k + 1, by omega, rfl, by go_num, k1, hA2⟩
                · have d1 : ¬ ((m : Int) < (n : Int)) := by omega
                  have hA2 : Hid (Apart l (k + 1)) := Lib.hid (fun i hi => by
                    by_cases hik : i = k
                    · subst hik; exact ⟨HTW.out, fun q h1 h2 h3 => hM.out q h1 (by have := HN.out; omega) (by have := HN.out; omega) (by have := HN.out; omega)⟩
                    · exact hA.out i (by omega))
                  go_wp2_with fail
                  go_roundg (n - (k + 1))
                  case measure => have := HGK.out; omega
                  case rel => exact ⟨k + 1, by omega, rfl, by go_num, k1, hA2⟩
          · have hkn : n = k := by omega
            subst hkn
            have hgood : Hid (goodB l = true) := Lib.hid (HT.out (by
              have hN := HN.out
              exact ⟨by omega, fun i hi => (HF.out i (by omega)).1, fun i j hj hi => (HF.out i (by omega)).2 j hj, fun i hi => (hA.out i (by omega)).1, fun i q h1 h2 h3 => (hA.out i (by omega)).2 q h1 h2 h3⟩))
            go_wp2_with fail
            go_ret
            exact ⟨ret_bool hgood.out.symm, hB⟩
  · have hng : ¬ Good l := fun h => hfew h.few
    rw [goodB_false hng]
    have hf : (decide ((3 : Int) ≤ (l.length : Int)) && decide ((l.length : Int) ≤ 10)) = false := by simp; omega
    go_enter Try.func52, Try.ntmps52
    go_wp2_with fail
    refine (l1In_any _ _ _ _).mono ?_; rintro e _ ⟨rfl, rfl⟩
    rw [hf]
    go_wp2_with fail
    go_ret
    exact ⟨rfl, Below.refl _ _⟩
end Go.Proofs.Ytheddoinnakneaa
/- contracts: which lists are triangles, on both sides -/
namespace Go.Proofs.Ytheddoinnakneaa
open Go.ChangeShapes Go.WideShapes Go.ChangeAt Go.RowKit Go.Joins
set_option linter.unusedVariables false
set_option linter.unusedSimpArgs false
set_option maxRecDepth 4000
/-- is a list a triangle? -/
noncomputable def tB (l : List (Int × Int)) : Bool := decide (l.length = 3) && goodB l
/-- a triangle with these corners -/
def Tri (l : List (Int × Int)) (a1 a2 b1 b2 c1 c2 : Int) : Prop := l = [(a1, a2), (b1, b2), (c1, c2)] ∧ Good l
theorem tB_true {l : List (Int × Int)} (h : tB l = true) : ∃ a1 a2 b1 b2 c1 c2, Tri l a1 a2 b1 b2 c1 c2 := by
  unfold tB at h
  rw [Bool.and_eq_true, decide_eq_true_eq] at h
  obtain ⟨h1, h2⟩ := h
  obtain ⟨p, q, r, rfl⟩ : ∃ p q r, l = [p, q, r] := by
    match l, h1 with
    | [p, q, r], _ => exact ⟨p, q, r, rfl⟩
  refine ⟨p.1, p.2, q.1, q.2, r.1, r.2, rfl, ?_⟩
  apply Classical.byContradiction
  intro hn
  rw [goodB_false hn] at h2
  cases h2
theorem tri_tB {l : List (Int × Int)} {a1 a2 b1 b2 c1 c2 : Int} (h : Tri l a1 a2 b1 b2 c1 c2) : tB l = true := by
  unfold tB
  rw [goodB_true h.2, h.1]
  rfl
/-- the corners of a triangle are pegs -/
theorem tri_bd {l : List (Int × Int)} {a1 a2 b1 b2 c1 c2 : Int} (h : Tri l a1 a2 b1 b2 c1 c2) :
    (-40 ≤ a1 ∧ a1 ≤ 40) ∧ (-40 ≤ a2 ∧ a2 ≤ 40) ∧ (-40 ≤ b1 ∧ b1 ≤ 40) ∧ (-40 ≤ b2 ∧ b2 ≤ 40) ∧ (-40 ≤ c1 ∧ c1 ≤ 40) ∧ (-40 ≤ c2 ∧ c2 ≤ 40) := by
  obtain ⟨rfl, hg⟩ := h
  have h0 := hg.pegs 0 (by simp)
  have h1 := hg.pegs 1 (by simp)
  have h2 := hg.pegs 2 (by simp)
  have e0 : vx [(a1, a2), (b1, b2), (c1, c2)] 0 = (a1, a2) := rfl
  have e1 : vx [(a1, a2), (b1, b2), (c1, c2)] 1 = (b1, b2) := rfl
  have e2 : vx [(a1, a2), (b1, b2), (c1, c2)] 2 = (c1, c2) := rfl
  rw [e0] at h0; rw [e1] at h1; rw [e2] at h2
  unfold isPg isPegB at h0 h1 h2
  simp only [Bool.and_eq_true, decide_eq_true_eq] at h0 h1 h2
  exact ⟨h0.1, h0.2, h1.1, h1.2, h2.1, h2.2⟩
/-- three points in memory -/
def Rd3 (w : World) (b off : Nat) (a1 a2 b1 b2 c1 c2 : Int) : Prop :=
  w.cell? ⟨b, off, none⟩ = some (.int .i64 a1) ∧ w.cell? ⟨b, off + 1, none⟩ = some (.int .i64 a2) ∧ w.cell? ⟨b, off + 2, none⟩ = some (.int .i64 b1) ∧ w.cell? ⟨b, off + 3, none⟩ = some (.int .i64 b2) ∧ w.cell? ⟨b, off + 4, none⟩ = some (.int .i64 c1) ∧ w.cell? ⟨b, off + 5, none⟩ = some (.int .i64 c2)
theorem rd3_of {w : World} {A : Option Addr} {a1 a2 b1 b2 c1 c2 : Int} (hR : Rd w w.heap.size A [(a1, a2), (b1, b2), (c1, c2)]) :
    ∃ b off, A = some ⟨b, off, none⟩ ∧ b < w.heap.size ∧ Hid (∀ W, Below w.heap.size w W → Rd3 W b off a1 a2 b1 b2 c1 c2) := by
  obtain ⟨b, off, e, hb, hc⟩ := hR (by simp)
  refine ⟨b, off, e, hb, Lib.hid fun W hW => ?_⟩
  have c := fun o => hW.cell (p := ⟨b, o, none⟩) hb
  have h0 := hc 0 _ rfl
  have h1 := hc 1 _ rfl
  have h2 := hc 2 _ rfl
  simp only [Nat.zero_mul, Nat.add_zero, Nat.one_mul] at h0 h1 h2
  exact ⟨(c _).trans h0.1, (c _).trans h0.2, (c _).trans h1.1, (c _).trans h1.2, (c _).trans h2.1, (c _).trans h2.2⟩
/-- what the program makes of a list: a triangle, or zeros and no -/
def threeV (b : Bool) (a1 a2 b1 b2 c1 c2 : Int) : Value := .tuple #[.agg #[.int .i64 a1, .int .i64 a2, .int .i64 b1, .int .i64 b2, .int .i64 c1, .int .i64 c2], .bool b]
end Go.Proofs.Ytheddoinnakneaa
/- contracts: sums and differences of points; a triangle's area and sum -/
namespace Go.Proofs.Ytheddoinnakneaa
open Go.ChangeShapes Go.WideShapes Go.ChangeAt Go.RowKit Go.Joins
set_option linter.unusedVariables false
set_option linter.unusedSimpArgs false
set_option maxRecDepth 4000
/-- a triangle as a value -/
def thr (a1 a2 b1 b2 c1 c2 : Int) : Value := .agg #[.int .i64 a1, .int .i64 a2, .int .i64 b1, .int .i64 b2, .int .i64 c1, .int .i64 c2]
end Go.Proofs.Ytheddoinnakneaa
/- contracts: what the program makes of a list that is a triangle, and of others -/
namespace Go.Proofs.Ytheddoinnakneaa
open Go.ChangeShapes Go.WideShapes Go.ChangeAt Go.RowKit Go.Joins
set_option linter.unusedVariables false
set_option linter.unusedSimpArgs false
set_option maxRecDepth 4000
theorem tri_sz {l : List (Int × Int)} {a1 a2 b1 b2 c1 c2 : Int} (h : Tri l a1 a2 b1 b2 c1 c2) : Sz a1 a2 ∧ Sz b1 b2 ∧ Sz c1 c2 := by
  have := tri_bd h
  unfold Sz
  omega
theorem tri_area {l : List (Int × Int)} {a1 a2 b1 b2 c1 c2 : Int} (h : Tri l a1 a2 b1 b2 c1 c2) : areaN l = twI a1 a2 b1 b2 c1 c2 := by
  rw [h.1]
  have e : areaN [(a1, a2), (b1, b2), (c1, c2)] = ((0 + cr (a1, a2) (b1, b2)) + cr (b1, b2) (c1, c2)) + cr (c1, c2) (a1, a2) := by
    unfold areaN Sh
    simp only [List.length_cons, List.length_nil, Nat.zero_add, sumTo]
    have e0 : vx [(a1, a2), (b1, b2), (c1, c2)] 0 = (a1, a2) := rfl
    have e1 : vx [(a1, a2), (b1, b2), (c1, c2)] 1 = (b1, b2) := rfl
    have e2 : vx [(a1, a2), (b1, b2), (c1, c2)] (1 + 1) = (c1, c2) := rfl
    have e3 : vx [(a1, a2), (b1, b2), (c1, c2)] (1 + 1 + 1) = (a1, a2) := vx_add [(a1, a2), (b1, b2), (c1, c2)] 0
    rw [e0, e1, e2, e3]
  rw [e]
  unfold cr twI
  grind
def bselB (b v : Bool) : Bool := b && v
theorem bselB_t (v : Bool) : bselB true v = v := rfl
theorem bselB_f (v : Bool) : bselB false v = false := rfl
end Go.Proofs.Ytheddoinnakneaa
/- contracts: BoxOfThree, on both sides -/
namespace Go.Proofs.Ytheddoinnakneaa
open Go.ChangeShapes Go.WideShapes Go.ChangeAt Go.RowKit Go.Joins
set_option linter.unusedVariables false
set_option linter.unusedSimpArgs false
set_option maxRecDepth 4000
/-- what BoxOfThree returns -/
noncomputable def bxS (l : List (Int × Int)) (i : Nat) : Int := if tB l = true then (if i = 0 then (loN l 3).1 else if i = 1 then (loN l 3).2 else if i = 2 then (hiN l 3).1 else (hiN l 3).2) else 0
theorem l1Least_any (a b : Int) (w : World) : Calls Try.prog 115 #[.int .i64 a, .int .i64 b] w fun e w' => e = .returned (.int .i64 (min a b)) ∧ w = w' := by
  by_cases h : a < b
  all_goals
    go_enter Try.func115, Try.ntmps115
    go_wp2
    go_ret
    exact ⟨ret_int (by omega), rfl⟩
end Go.Proofs.Ytheddoinnakneaa
/- contracts: the least and the greatest value, the model; BoxOf, the model -/
namespace Go.Proofs.Ytheddoinnakneaa
open Go.ChangeShapes Go.WideShapes Go.ChangeAt Go.RowKit Go.Joins
set_option linter.unusedVariables false
set_option linter.unusedSimpArgs false
set_option maxRecDepth 4000
set_option maxHeartbeats 2000000 in
theorem wiRange_any (A : Option Addr) (c : Nat) (l : List (Int × Int)) (u v : Int) (w : World) (h1 : -20000 ≤ u) (h2 : u ≤ 20000) (h3 : -20000 ≤ v) (h4 : v ≤ 20000) (hg : Good l) (hR : Rd w w.heap.size A l) :
    Calls Try.prog 73 #[.slice A l.length c, .int .i64 u, .int .i64 v] w fun e w' => e = .returned (.tuple #[.int .i64 (loW l u v l.length), .int .i64 (hiW l u v l.length)]) ∧ Below w.heap.size w w' := by
  have hf := hg.few
  obtain ⟨b, off, rfl, hb, HC⟩ := pts_of (by omega) hR
  have HV := Lib.hid (fun i (hi : i < l.length) => vlu_parts h1 h2 h3 h4 (hg.pegs i hi))
  have HBD := Lib.hid (lohi_bd h1 h2 h3 h4 hg.pegs (by omega))
  have HS : Hid (∀ k, loW l u v (k + 1) = min (loW l u v k) (u * (vx l k).1 + v * (vx l k).2) ∧ hiW l u v (k + 1) = max (hiW l u v k) (u * (vx l k).1 + v * (vx l k).2)) := Lib.hid (fun k => ⟨rfl, rfl⟩)
  have H0 : Hid (loW l u v 0 = u * (vx l 0).1 + v * (vx l 0).2 ∧ hiW l u v 0 = u * (vx l 0).1 + v * (vx l 0).2) := Lib.hid ⟨rfl, rfl⟩
  have KL := Lib.hid (fun a b W => l1Least_any a b W)
  have KM := Lib.hid (fun a b W => l1Most_any a b W)
  have h3l := hf.1
  have h10 := hf.2
  clear hR hf hg h1 h2 h3 h4
  generalize hN : l.length = n at *
  clear hN
  obtain ⟨x0, x1⟩ := HC.out w (Below.refl _ _) 0 (by omega)
  simp only [Nat.zero_mul, Nat.add_zero] at x0 x1
  obtain ⟨⟨p1, p2⟩, p3, p4⟩ := HV.out 0 (by omega)
  have i0 : IntKind.i64.wrap (u * (vx l 0).1) = u * (vx l 0).1 := IntWalk.i64_in _ (by omega)
  have i1 : IntKind.i64.wrap (v * (vx l 0).2) = v * (vx l 0).2 := IntWalk.i64_in _ (by omega)
  have i2 : IntKind.i64.wrap (u * (vx l 0).1 + v * (vx l 0).2) = u * (vx l 0).1 + v * (vx l 0).2 := IntWalk.i64_in _ (by omega)
  have hn0 : 0 < n := by omega
  go_enter Try.func73, Try.ntmps73
  go_wp2_with fail
  go_region
  · skip
    go_wp2_with fail
    clear x0 x1 p1 p2 p3 p4 i0 i1 i2
    go_loopg [8, 9, 29] n (fun gg a b i wr => ∃ k : Nat, k ≤ n ∧ gg = n - k ∧ i = .int .i64 k ∧ a = .int .i64 (loW l u v k) ∧ b = .int .i64 (hiW l u v k) ∧ Below w.heap.size w wr)
    case atStart => exact ⟨0, Nat.zero_le _, rfl, rfl, by rw [H0.out.1], by rw [H0.out.2], by repeat (first | exact Below.refl _ _ | apply Below.drew)⟩
    case round =>
      obtain ⟨k, hk, hgg, rfl, rfl, rfl, hB⟩ := hrel
      rename World => wo
      have HGK := Lib.hid hgg
      clear hgg
      by_cases hlt : k < n
      · obtain ⟨x0, x1⟩ := HC.out wo hB k hlt
        obtain ⟨⟨p1, p2⟩, p3, p4⟩ := HV.out k hlt
        obtain ⟨s1, s2⟩ := HS.out k
        have i0 : IntKind.i64.wrap (u * (vx l k).1) = u * (vx l k).1 := IntWalk.i64_in _ (by omega)
        have i1 : IntKind.i64.wrap (v * (vx l k).2) = v * (vx l k).2 := IntWalk.i64_in _ (by omega)
        have i2 : IntKind.i64.wrap (u * (vx l k).1 + v * (vx l k).2) = u * (vx l k).1 + v * (vx l k).2 := IntWalk.i64_in _ (by omega)
        have hbo : b < wo.heap.size := by have := hB.size; omega
        have hz := hB.size
        clear p1 p2 p3 p4
        go_wp2_with fail
        refine (KL.out _ _ _).mono ?_; rintro e _ ⟨rfl, rfl⟩
        go_wp2_with fail
        refine (KM.out _ _ _).mono ?_; rintro e _ ⟨rfl, rfl⟩
        go_wp2_with fail
        go_roundg (n - (k + 1))
        case measure => have := HGK.out; omega
        case rel => exact ⟨k + 1, by omega, rfl, by go_num, by rw [s1], by rw [s2], by repeat (first | with_reducible assumption | with_reducible exact Below.refl _ _ | with_reducible apply Below.drew | ((with_reducible refine Below.setCell ?_ ?_ _); rotate_left; (first | exact Nat.le_refl _ | omega | (simp <;> omega))) | ((with_reducible refine Below.alloc ?_ ?_ _); rotate_left; (first | omega | (simp <;> omega))))⟩
      · obtain rfl : k = n := by omega
        go_wp2_with fail
        go_ret2
        exact ⟨rfl, hB⟩
end Go.Proofs.Ytheddoinnakneaa
/- contracts: WidthIn, the model -/
namespace Go.Proofs.Ytheddoinnakneaa
open Go.ChangeShapes Go.WideShapes Go.ChangeAt Go.RowKit Go.Joins
set_option linter.unusedVariables false
set_option linter.unusedSimpArgs false
set_option maxRecDepth 4000
theorem wiDirection_any (u v : Int) (w : World) :
    Calls Try.prog 109 #[.int .i64 u, .int .i64 v] w fun e w' => e = .returned (.bool (dirB u v)) ∧ Below w.heap.size w w' := by
  have K1 := Lib.hid (fun W => l1In_any u (-200) 200 W)
  have K2 := Lib.hid (fun W => l1In_any v (-200) 200 W)
  by_cases hu : (decide (-200 ≤ u) && decide (u ≤ 200)) = true
  · by_cases hv : (decide (-200 ≤ v) && decide (v ≤ 200)) = true
    · have KG := Lib.hid (fun W => pgCommon_any u v W (by simp at hu; omega) (by simp at hu; omega) (by simp at hv; omega) (by simp at hv; omega))
      have hd : Hid (dirB u v = decide (Nat.gcd u.natAbs v.natAbs = 1)) := Lib.hid (by unfold dirB; rw [hu, hv]; rfl)
      rw [hu] at K1
      rw [hv] at K2
      clear hu hv
      obtain ⟨g, hgd⟩ : ∃ g, g = Nat.gcd u.natAbs v.natAbs := ⟨_, rfl⟩
      have hq : Hid (decide (Nat.gcd u.natAbs v.natAbs = 1) = ((g : Int) == 1)) := Lib.hid (by
        have hc : ((g : Int) == 1) = decide (g = 1) := by by_cases h : g = 1 <;> simp [h] <;> omega
        rw [hc]; subst hgd; simp only [decide_eq_decide])
      rw [← hgd] at KG
      clear hgd
      go_enter Try.func109, Try.ntmps109
      go_wp2_with fail
      refine (K1.out _).mono ?_; rintro e _ ⟨rfl, rfl⟩
      go_wp2_with fail
      refine (K2.out _).mono ?_; rintro e _ ⟨rfl, rfl⟩
      go_wp2_with fail
      refine (KG.out _).mono ?_; rintro e w1 ⟨rfl, hb1⟩
      go_wp2_with fail
      go_ret
      exact ⟨ret_bool (by rw [hd.out, hq.out]), hb1⟩
    · have hv' : (decide (-200 ≤ v) && decide (v ≤ 200)) = false := by simpa using hv
      have hd : Hid (dirB u v = false) := Lib.hid (by unfold dirB; rw [hv']; simp)
      rw [hu] at K1
      rw [hv'] at K2
      clear hu hv hv'
      go_enter Try.func109, Try.ntmps109
      go_wp2_with fail
      refine (K1.out _).mono ?_; rintro e _ ⟨rfl, rfl⟩
      go_wp2_with fail
      refine (K2.out _).mono ?_; rintro e _ ⟨rfl, rfl⟩
      go_wp2_with fail
      go_ret
      exact ⟨ret_bool (by rw [hd.out]), Below.refl _ _⟩
  · have hu' : (decide (-200 ≤ u) && decide (u ≤ 200)) = false := by simpa using hu
    have hd : Hid (dirB u v = false) := Lib.hid (by unfold dirB; rw [hu']; simp)
    rw [hu'] at K1
    clear hu hu'
    go_enter Try.func109, Try.ntmps109
    go_wp2_with fail
    refine (K1.out _).mono ?_; rintro e _ ⟨rfl, rfl⟩
    go_wp2_with fail
    go_ret
    exact ⟨ret_bool (by rw [hd.out]), Below.refl _ _⟩
theorem wiAsked_any (A : Option Addr) (c : Nat) (l : List (Int × Int)) (u v : Int) (w : World) (hn : l.length ≤ 1048576) (hcap : l.length ≤ c) (hc2 : c ≤ 9223372036854775807) (hR : Rd w w.heap.size A l) :
    Calls Try.prog 68 #[.slice A l.length c, .int .i64 u, .int .i64 v] w fun e w' => e = .returned (.bool (okW l u v)) ∧ Below w.heap.size w w' := by
  have K := Lib.hid (pgGood_any A c l w hn hcap hc2 hR)
  have KD := Lib.hid (fun W => wiDirection_any u v W)
  have hd : Hid (okW l u v = (goodB l && dirB u v)) := Lib.hid rfl
  generalize okW l u v = ok at *
  generalize dirB u v = d at *
  generalize goodB l = g at *
  clear hR
  cases g
  · go_enter Try.func68, Try.ntmps68
    go_wp2_with fail
    refine K.out.mono ?_; rintro e w1 ⟨rfl, hb1⟩
    go_wp2_with fail
    go_ret
    exact ⟨ret_bool (by rw [hd.out]; rfl), hb1⟩
  · go_enter Try.func68, Try.ntmps68
    go_wp2_with fail
    refine K.out.mono ?_; rintro e w1 ⟨rfl, hb1⟩
    go_wp2_with fail
    refine (KD.out _).mono ?_; rintro e w2 ⟨rfl, hb2⟩
    go_wp2_with fail
    go_ret
    exact ⟨ret_bool (by rw [hd.out]; rfl), hb1.trans (hb2.mono hb1.size)⟩
theorem wiWidth_any (A : Option Addr) (c : Nat) (l : List (Int × Int)) (u v : Int) (w : World) (h1 : -20000 ≤ u) (h2 : u ≤ 20000) (h3 : -20000 ≤ v) (h4 : v ≤ 20000) (hg : Good l) (hR : Rd w w.heap.size A l) :
    Calls Try.prog 82 #[.slice A l.length c, .int .i64 u, .int .i64 v] w fun e w' => e = .returned (.int .i64 (hiW l u v l.length - loW l u v l.length)) ∧ Below w.heap.size w w' := by
  have K := Lib.hid (wiRange_any A c l u v w h1 h2 h3 h4 hg hR)
  have hb := lohi_bd h1 h2 h3 h4 hg.pegs (by have := hg.few; omega) l.length (Nat.le_refl _)
  clear hR
  generalize hiW l u v l.length = hi at *
  generalize loW l u v l.length = lo at *
  obtain ⟨⟨q1, q2⟩, ⟨q3, q4⟩, q5⟩ := hb
  have i1 : IntKind.i64.wrap (hi - lo) = hi - lo := IntWalk.i64_in _ (by omega)
  clear q1 q2 q3 q4 q5 h1 h2 h3 h4
  go_enter Try.func82, Try.ntmps82
  go_wp2_with fail
  refine K.out.mono ?_; rintro e w1 ⟨rfl, hb1⟩
  go_wp2_with fail
  go_ret
  exact ⟨rfl, hb1⟩
theorem specWidthIn_any (A : Option Addr) (c : Nat) (l : List (Int × Int)) (u v : Int) (w : World) (hn : l.length ≤ 1048576) (hcap : l.length ≤ c) (hc2 : c ≤ 9223372036854775807) (hR : Rd w w.heap.size A l) :
    Calls Try.prog 50 #[.slice A l.length c, .int .i64 u, .int .i64 v] w fun e w' => e = .returned (.tuple #[.int .i64 (wdS l u v), .bool (okW l u v)]) ∧ Below w.heap.size w w' := by
  have K := Lib.hid (wiAsked_any A c l u v w hn hcap hc2 hR)
  by_cases hk : okW l u v = true
  · have hk2 : goodB l = true ∧ dirB u v = true := by unfold okW at hk; simpa using hk
    obtain ⟨a1, a2, a3, a4, _⟩ := dirB_t hk2.2
    have hg : Good l := by unfold goodB at hk2; simpa using hk2.1
    have K2 := Lib.hid (fun W (hb : Below w.heap.size w W) => wiWidth_any A c l u v W (by omega) (by omega) (by omega) (by omega) hg (rd_more (rd_below hR hb (Nat.le_refl _)) hb.size))
    rw [wdS_t hk, hk]
    rw [hk] at K
    generalize hiW l u v l.length - loW l u v l.length = x at *
    clear hk hk2 hg hR a1 a2 a3 a4
    go_enter Try.func50, Try.ntmps50
    go_wp2_with fail
    refine K.out.mono ?_; rintro e w1 ⟨rfl, hb1⟩
    go_wp2_with fail
    refine (K2.out _ hb1).mono ?_; rintro e w2 ⟨rfl, hb2⟩
    go_wp2_with fail
    go_ret2
    exact ⟨rfl, hb1.trans (hb2.mono hb1.size)⟩
  · have hkf : okW l u v = false := by simpa using hk
    rw [wdS_f hkf, hkf]
    rw [hkf] at K
    clear hk hkf hR
    go_enter Try.func50, Try.ntmps50
    go_wp2_with fail
    refine K.out.mono ?_; rintro e w1 ⟨rfl, hb1⟩
    go_wp2_with fail
    go_ret2
    exact ⟨rfl, hb1⟩
end Go.Proofs.Ytheddoinnakneaa
/- contract: the model's list told backwards -/
namespace Go.Proofs.Ytheddoinnakneaa
open Go.ChangeShapes Go.WideShapes Go.ChangeAt Go.RowKit Go.Joins
set_option linter.unusedVariables false
set_option linter.unusedSimpArgs false
set_option maxRecDepth 4000
/-- corner number n - i: told backwards from the same corner -/
def backF (l : List (Int × Int)) (i : Nat) : Int × Int := vx l (l.length - i)
end Go.Proofs.Ytheddoinnakneaa
/- the first of some points, and lists told from it -/
namespace Go.Proofs.Ytheddoinnakneaa
open Go.ChangeShapes Go.WideShapes Go.ChangeAt Go.RowKit Go.Joins
set_option linter.unusedVariables false
set_option linter.unusedSimpArgs false
set_option maxRecDepth 4000
def ltP (p q : Int × Int) : Bool := decide (p.1 < q.1) || (decide (p.1 = q.1) && decide (p.2 < q.2))
theorem ltP_self (p : Int × Int) : ltP p p = false := by unfold ltP; simp
theorem ltP_eq {p q : Int × Int} (h1 : ltP p q = false) (h2 : ltP q p = false) : p = q := by
  unfold ltP at *
  simp only [Bool.or_eq_false_iff, Bool.and_eq_false_iff, decide_eq_false_iff_not] at h1 h2
  apply Prod.ext <;> omega
theorem ltP_trans {p q r : Int × Int} (h1 : ltP p q = false) (h2 : ltP q r = false) : ltP p r = false := by
  unfold ltP at *
  simp only [Bool.or_eq_false_iff, Bool.and_eq_false_iff, decide_eq_false_iff_not] at h1 h2 ⊢
  omega
/-- the number of the first one of the first k points -/
def minI (f : Nat → Int × Int) : Nat → Nat
  | 0 => 0
  | i + 1 => if ltP (f i) (f (minI f i)) = true then i else minI f i
theorem minI_lt (f : Nat → Int × Int) : ∀ (k : Nat), 0 < k → minI f k < k
  | 0, h => absurd h (Nat.lt_irrefl 0)
  | 1, _ => by
    show (if ltP (f 0) (f 0) = true then 0 else 0) < 1
    split <;> omega
  | k + 2, _ => by
    have := minI_lt f (k + 1) (Nat.succ_pos k)
    show (if ltP (f (k + 1)) (f (minI f (k + 1))) = true then k + 1 else minI f (k + 1)) < k + 2
    split <;> omega
theorem minI_le (f : Nat → Int × Int) : ∀ (k i : Nat), i < k → ltP (f i) (f (minI f k)) = false
  | 0, i, h => absurd h (Nat.not_lt_zero i)
  | k + 1, i, h => by
    show ltP (f i) (f (if ltP (f k) (f (minI f k)) = true then k else minI f k)) = false
    by_cases hl : ltP (f k) (f (minI f k)) = true
    · rw [if_pos hl]
      by_cases hik : i = k
      · rw [hik]; exact ltP_self _
      · have h1 := minI_le f k i (by omega)
        have h2 : ltP (f (minI f k)) (f k) = false := by
          unfold ltP at hl ⊢
          simp only [Bool.or_eq_true, Bool.and_eq_true, decide_eq_true_eq] at hl
          simp only [Bool.or_eq_false_iff, Bool.and_eq_false_iff, decide_eq_false_iff_not]
          omega
        exact ltP_trans h1 h2
    · rw [if_neg hl]
      by_cases hik : i = k
      · rw [hik]; simpa using hl
      · exact minI_le f k i (by omega)
theorem firsts_same {f g : Nat → Int × Int} (n : Nat) (h : ∀ i, i < n → f i = g i) : firsts f n = firsts g n := by
  unfold firsts
  apply List.map_congr_left
  intro i hi
  exact h i (List.mem_range.1 hi)
theorem good_inj {l : List (Int × Int)} (h : Good l) {i j : Nat} (hi : i < l.length) (hj : j < l.length) (e : vx l i = vx l j) : i = j := by
  rcases Nat.lt_trichotomy i j with h1 | h1 | h1
  · exact absurd e.symm (h.diff j i h1 hj)
  · exact h1
  · exact absurd e (h.diff i j h1 hi)
/-- told backwards, the first corner has the number that goes with it -/
theorem first_back {l : List (Int × Int)} (h : Good l) : (l.length - minI (backF l) l.length) % l.length = minI (vx l) l.length := by
  have hn := good_pos h
  have k1 := minI_lt (backF l) l.length hn
  have k2 := minI_lt (vx l) l.length hn
  generalize hk : minI (backF l) l.length = k at *
  generalize hf : minI (vx l) l.length = q at *
  refine good_inj h (Nat.mod_lt _ hn) k2 ?_
  rw [vx_per]
  refine ltP_eq ?_ ?_
  · have h1 := minI_le (backF l) l.length ((l.length - q) % l.length) (Nat.mod_lt _ hn)
    rw [hk] at h1
    have e : backF l ((l.length - q) % l.length) = vx l q := by
      unfold backF
      by_cases h0 : q = 0
      · subst h0
        rw [Nat.sub_zero, Nat.mod_self, Nat.sub_zero]
        have := vx_add l 0
        rw [Nat.zero_add] at this
        exact this
      · rw [Nat.mod_eq_of_lt (by omega), show l.length - (l.length - q) = q by omega]
    rw [e] at h1
    have h2 := minI_le (vx l) l.length ((l.length - k) % l.length) (Nat.mod_lt _ hn)
    rw [hf, vx_per] at h2
    exact h2
  · have h1 := minI_le (backF l) l.length ((l.length - q) % l.length) (Nat.mod_lt _ hn)
    rw [hk] at h1
    have e : backF l ((l.length - q) % l.length) = vx l q := by
      unfold backF
      by_cases h0 : q = 0
      · subst h0
        rw [Nat.sub_zero, Nat.mod_self, Nat.sub_zero]
        have := vx_add l 0
        rw [Nat.zero_add] at this
        exact this
      · rw [Nat.mod_eq_of_lt (by omega), show l.length - (l.length - q) = q by omega]
    rw [e] at h1
    exact h1
theorem mod_back (n q k i : Nat) (hk : k < n) (hq : (n - k) % n = q) (hi : i < n) : (n - (k + i) % n) % n = (q + n - i) % n := by
  by_cases h0 : k = 0
  · subst h0
    rw [Nat.sub_zero, Nat.mod_self] at hq
    subst hq
    rw [Nat.zero_add, Nat.mod_eq_of_lt hi, Nat.zero_add]
  · rw [Nat.mod_eq_of_lt (by omega)] at hq
    subst hq
    by_cases h1 : k + i < n
    · rw [Nat.mod_eq_of_lt h1, show n - k + n - i = n - (k + i) + n by omega, Nat.add_mod_right]
    · rw [show k + i = (k + i - n) + n by omega, Nat.add_mod_right, Nat.mod_eq_of_lt (show k + i - n < n by omega)]
      rw [show n - k + n - i = n - (k + i - n) by omega]
/-- what TellFirst returns -/
def tellF (l : List (Int × Int)) (i : Nat) : Int × Int := if areaN l < 0 then vx l ((minI (vx l) l.length + l.length - i) % l.length) else vx l ((minI (vx l) l.length + i + l.length) % l.length)
theorem tell_back {l : List (Int × Int)} (h : Good l) (ha : areaN l < 0) (i : Nat) (hi : i < l.length) : backF l ((minI (backF l) l.length + i) % l.length) = tellF l i := by
  unfold tellF
  rw [if_pos ha]
  have e := mod_back l.length _ _ i (minI_lt (backF l) l.length (good_pos h)) (first_back h) hi
  rw [← e, vx_per]
  rfl
theorem tell_fore {l : List (Int × Int)} (ha : ¬ areaN l < 0) (i : Nat) : vx l ((minI (vx l) l.length + i) % l.length) = tellF l i := by
  unfold tellF
  rw [if_neg ha, Nat.add_mod_right]
end Go.Proofs.Ytheddoinnakneaa
/- lists of points as cells that are appended; a list told from a corner on -/
namespace Go.Proofs.Ytheddoinnakneaa
open Go.ChangeShapes Go.WideShapes Go.ChangeAt Go.RowKit Go.Joins
set_option linter.unusedVariables false
set_option linter.unusedSimpArgs false
set_option maxRecDepth 4000
/-- the list told from corner k on -/
def rotF (l : List (Int × Int)) (k i : Nat) : Int × Int := vx l ((k + i) % l.length)
theorem rot_list (l : List (Int × Int)) (k : Nat) (hk : k < l.length) : l.drop k ++ l.take k = firsts (rotF l k) l.length := by
  apply List.ext_getElem?
  intro i
  by_cases hi : i < l.length
  · rw [firsts_get _ _ _ hi]
    unfold rotF
    by_cases h1 : i < l.length - k
    · rw [List.getElem?_append_left (by simpa using h1), List.getElem?_drop, Nat.mod_eq_of_lt (by omega)]
      exact vx_get (by omega)
    · rw [List.getElem?_append_right (by simpa using (by omega : l.length - k ≤ i)), List.length_drop, List.getElem?_take, if_pos (by omega)]
      rw [show (k + i) % l.length = i - (l.length - k) by
        rw [show k + i = (i - (l.length - k)) + l.length by omega, Nat.add_mod_right, Nat.mod_eq_of_lt (by omega)]]
      exact vx_get (by omega)
  · rw [List.getElem?_eq_none (by simp; omega), List.getElem?_eq_none (by rw [firsts_len]; omega)]
theorem pt_drop (l : List (Int × Int)) (k i : Nat) (h : k + i < l.length) : pt (l.drop k) i = vx l (k + i) := by
  unfold pt
  rw [List.getElem?_drop, vx_get h]
  rfl
theorem pt_take (l : List (Int × Int)) (k i : Nat) (h : i < k) (hk : k ≤ l.length) : pt (l.take k) i = vx l i := by
  unfold pt
  rw [List.getElem?_take, if_pos h, vx_get (by omega)]
  rfl
/-- what lies behind corner k, as cells -/
theorem drop_cells {w : World} {b off k : Nat} {l : List (Int × Int)} (hk : k ≤ l.length) (h : ∀ i, i < l.length → w.cell? ⟨b, off + i * 2, none⟩ = some (.int .i64 (vx l i).1) ∧ w.cell? ⟨b, off + i * 2 + 1, none⟩ = some (.int .i64 (vx l i).2)) :
    ∀ j u, (flat (l.drop k))[j]? = some u → w.cell? ((⟨b, off + k * 2, none⟩ : Addr).add j) = some u :=
  flat_cells fun i hi => by
    rw [List.length_drop] at hi
    rw [pt_drop l k i (by omega)]
    have := h (k + i) (by omega)
    rw [show off + k * 2 + i * 2 = off + (k + i) * 2 by omega]
    exact this
theorem take_cells {w : World} {b off k : Nat} {l : List (Int × Int)} (hk : k ≤ l.length) (h : ∀ i, i < l.length → w.cell? ⟨b, off + i * 2, none⟩ = some (.int .i64 (vx l i).1) ∧ w.cell? ⟨b, off + i * 2 + 1, none⟩ = some (.int .i64 (vx l i).2)) :
    ∀ j u, (flat (l.take k))[j]? = some u → w.cell? ((⟨b, off, none⟩ : Addr).add j) = some u :=
  flat_cells fun i hi => by
    rw [List.length_take] at hi
    rw [pt_take l k i (by omega) hk]
    exact h i (by omega)
/-- a row to which the list from corner k on is appended, and then the corners ahead -/
theorem row_rot {w : World} {base k : Nat} {v : Value} {l : List (Int × Int)} (hk : k < l.length) (h : w.ownsRow base 56 2 v (0 + (l.length - k) + k) (([] ++ flat (l.drop k)) ++ flat (l.take k))) : Row w base v (rotF l k) l.length := by
  unfold Row
  rw [← rot_list l k hk, flat_app]
  rw [List.nil_append, show 0 + (l.length - k) + k = l.length by omega] at h
  exact h
end Go.Proofs.Ytheddoinnakneaa
/- rows of pairs of numbers, each pair in a block of its own, that a call appends to -/
namespace Go.Proofs.Ytheddoinnakneaa
open Go.ChangeShapes Go.WideShapes Go.ChangeAt Go.RowKit Go.Joins
set_option linter.unusedVariables false
set_option linter.unusedSimpArgs false
set_option maxRecDepth 4000
theorem ints_info : (Try.prog.info? 47).map (fun i => (i.zero, i.size, i.bytes)) = some (some (.slice none 0 0), 1, 24) := by kernel_rfl
theorem info_parts2 {i : Option TypeInfo} {z : Value} {s b : Nat} (h : i.map (fun i => (i.zero, i.size, i.bytes)) = some (some z, s, b)) : ∃ i0, i = some i0 ∧ i0.zero = some z ∧ i0.size = s ∧ i0.bytes = b := by
  cases i with
  | none => simp at h
  | some i0 =>
    simp at h
    exact ⟨i0, rfl, h.1, h.2.1, h.2.2⟩
/-- the row v of k slices, number i of them the numbers x i and y i in block q i -/
def PairAt (w : World) (base : Nat) (xs : List Value) (q : Nat → Nat) (x y : Nat → Int) (i : Nat) : Prop :=
  xs[i]? = some (.slice (some ⟨q i, 0, none⟩) 2 2) ∧ base ≤ q i ∧ q i < w.heap.size ∧ w.heap[q i]? = some (.cells #[.int .i64 (x i), .int .i64 (y i)] 3 (0, 0)) ∧ ∀ j, j < i → q j < q i
def RowH (w : World) (base : Nat) (v : Value) (x y : Nat → Int) (k : Nat) : Prop :=
  ∃ (xs : List Value) (q : Nat → Nat), w.ownsRow base 47 1 v k xs ∧ ∀ i, i < k → PairAt w base xs q x y i
theorem rowH_nil (w : World) (base : Nat) (x y : Nat → Int) : RowH w base (.slice none 0 0) x y 0 :=
  ⟨[], fun _ => 0, World.ownsRow_nil w base _ _, fun i h => absurd h (Nat.not_lt_zero i)⟩
theorem own_block {w w' : World} {base : Nat} {v : Value} {k : Nat} {xs : List Value} (h : w.ownsRow base 47 1 v k xs) (hk : ∀ b, b < w.heap.size → w'.heap[b]? = w.heap[b]?) : w'.ownsRow base 47 1 v k xs := by
  have h0 := h
  obtain ⟨h1, h2⟩ := h
  rcases h2 with h2 | ⟨g, cap, cur, hv, hg, hh, r⟩
  · exact ⟨h1, .inl h2⟩
  · have hl := h0.lt g (by rw [hv]; rfl)
    exact ⟨h1, .inr ⟨g, cap, cur, hv, hg, (hk g hl.2).trans hh, r⟩⟩
theorem rowH_below {w w' : World} {base B : Nat} {v : Value} {x y : Nat → Int} {k : Nat} (h : RowH w base v x y k) (hb : Below B w w') (hB : w.heap.size ≤ B) : RowH w' base v x y k := by
  obtain ⟨xs, q, ho, hq⟩ := h
  refine ⟨xs, q, own_block ho fun b hbl => hb.block b (by omega), fun i hi => ?_⟩
  obtain ⟨h1, h2, h3, h4, h5⟩ := hq i hi
  have := hb.size
  exact ⟨h1, h2, by omega, (hb.block _ (by omega)).trans h4, h5⟩
theorem not_own {w : World} {base : Nat} {v : Value} {k : Nat} {xs : List Value} {g : Nat} {cs : Array Value} (h : w.ownsRow base 47 1 v k xs) (hg : w.heap[g]? = some (.cells cs 3 (0, 0))) : some g ≠ v.ownBlock := by
  intro e
  rcases h.2 with ⟨hv, _⟩ | ⟨g', cap, cur, hv, _, hh, _⟩
  · rw [hv] at e; cases e
  · rw [hv] at e
    injection e with e
    subst e
    rw [hh] at hg
    injection hg with hg
    injection hg with _ h2
    exact absurd h2 (by decide)
/-- behind an append of one more pair -/
theorem rowH_push {W w' : World} {base : Nat} {v v' : Value} {x y : Nat → Int} {k : Nat} {xs : List Value} {q : Nat → Nat} (hbase : base ≤ W.heap.size) (ho : W.ownsRow base 47 1 v k xs) (hq : ∀ i, i < k → PairAt W base xs q x y i)
    (hown : w'.ownsRow base 47 1 v' (k + 1) (xs ++ [.slice (some ⟨W.heap.size, 0, none⟩) 2 2]))
    (hg : ((W.alloc (.cells #[.int .i64 (x k), .int .i64 (y k)] 3)).alloc (.cells #[.slice (some ⟨W.heap.size, 0, none⟩) 2 2] 47)).grownBy w' v.ownBlock) : RowH w' base v' x y (k + 1) := by
  have hlen : xs.length = k := by have := ho.1; omega
  have hA : Below W.heap.size W ((W.alloc (.cells #[.int .i64 (x k), .int .i64 (y k)] 3)).alloc (.cells #[.slice (some ⟨W.heap.size, 0, none⟩) 2 2] 47)) := Below.alloc (Below.alloc (Below.refl _ _) (Nat.le_refl _) _) (by simp) _
  have hsz : ((W.alloc (.cells #[.int .i64 (x k), .int .i64 (y k)] 3)).alloc (.cells #[.slice (some ⟨W.heap.size, 0, none⟩) 2 2] 47)).heap.size = W.heap.size + 2 := by simp
  have hgs := hg.size
  have hnew : ((W.alloc (.cells #[.int .i64 (x k), .int .i64 (y k)] 3)).alloc (.cells #[.slice (some ⟨W.heap.size, 0, none⟩) 2 2] 47)).heap[W.heap.size]? = some (.cells #[.int .i64 (x k), .int .i64 (y k)] 3 (0, 0)) := by
    have h1 := (Below.alloc (Below.refl (W.alloc (.cells #[.int .i64 (x k), .int .i64 (y k)] 3)).heap.size (W.alloc (.cells #[.int .i64 (x k), .int .i64 (y k)] 3))) (Nat.le_refl _) (.cells #[.slice (some ⟨W.heap.size, 0, none⟩) 2 2] 47)).block W.heap.size (by simp)
    rw [h1]
    exact heap_alloc_new W _
  refine ⟨xs ++ [.slice (some ⟨W.heap.size, 0, none⟩) 2 2], fun i => if i < k then q i else W.heap.size, hown, fun i hi => ?_⟩
  unfold PairAt
  by_cases hik : i < k
  · obtain ⟨h1, h2, h3, h4, h5⟩ := hq i hik
    simp only [hik, if_true]
    refine ⟨by rw [List.getElem?_append_left (by omega)]; exact h1, h2, by omega, ?_, fun j hj => by rw [if_pos (by omega)]; exact h5 j hj⟩
    rw [hg.block (q i) (by omega) (not_own ho h4)]
    exact (hA.block _ h3).trans h4
  · have e : i = k := by omega
    subst e
    simp only [Nat.lt_irrefl, if_false]
    refine ⟨by rw [List.getElem?_append_right (by omega), hlen, Nat.sub_self]; rfl, hbase, by omega, ?_, fun j hj => by rw [if_pos hj]; exact (hq j hj).2.2.1⟩
    rw [hg.block W.heap.size (by omega) (fun e => by
      rcases ho.2 with ⟨hv, _⟩ | ⟨g', cap, cur, hv, _, hh, _⟩
      · rw [hv] at e; cases e
      · have := (ho.lt g' (by rw [hv]; rfl)).2
        rw [hv] at e
        injection e with e
        have e2 : W.heap.size = g' := e
        omega)]
    exact hnew
theorem frozen_cells {w : World} {g : Nat} {cs : Array Value} {t : TypeId} (h : w.heap[g]? = some (.cells cs t (0, 0))) (o : Nat) : w.frozen? ⟨g, o, none⟩ = false := by simp [World.frozen?, h]
/-- the rows, read -/
theorem rwS_of {w : World} {base : Nat} {v : Value} {x y : Nat → Int} {n : Nat} (h : RowH w base v x y n) (hn : 0 < n) :
    ∃ A c, v = .slice A n c ∧ n ≤ c ∧ c ≤ maxLen ∧ RwS w base w.heap.size A n (fun _ => 2) (fun i t => if t = 0 then x i else y i) := by
  obtain ⟨xs, q, ho, hq⟩ := h
  have ho2 := ho
  rcases ho.2 with ⟨_, h0⟩ | ⟨g, cap, cur, hv, hg, hh, hc, hm, _⟩
  · omega
  · subst hv
    refine ⟨some ⟨g, 0, none⟩, cap, rfl, hc, hm, fun _ => ⟨g, 0, q, rfl, hg, (ho.lt g rfl).2, fun i hi => ?_⟩⟩
    obtain ⟨h1, h2, h3, h4, h5⟩ := hq i hi
    refine ⟨⟨h2, h3, fun e => not_own ho h4 (by rw [e]; rfl), fun j hj e => by have := h5 j hj; omega⟩, some ⟨q i, 0, none⟩, 2, ?_, fun _ => ⟨q i, 0, rfl, Nat.le_refl _, Nat.lt_succ_self _, fun t ht => ?_⟩⟩
    · rw [Nat.zero_add, ho2.cellAt i (by omega)]; exact h1
    · rw [Nat.zero_add]
      refine ⟨?_, frozen_cells h4 t⟩
      rw [cell_of_row w (q i) t _ 3 (0, 0) h4]
      have ht2 : t < 2 := ht
      rcases (show t = 0 ∨ t = 1 by omega) with rfl | rfl <;> rfl
/-- what a call returns that gives n lists of numbers and says whether there are such -/
def RetS (w : World) (n : Nat) (m : Nat → Nat) (f : Nat → Nat → Int) (b : Bool) (e : Ending) (w' : World) : Prop :=
  ∃ A c, e = .returned (.tuple #[.slice A n c, .bool b]) ∧ n ≤ c ∧ c ≤ maxLen ∧ Below w.heap.size w w' ∧ RwS w' w.heap.size w'.heap.size A n m f
theorem retS_nil {w w' : World} {m : Nat → Nat} {f : Nat → Nat → Int} (hb : Below w.heap.size w w') : RetS w 0 m f false (.returned (.tuple #[.slice none 0 0, .bool false])) w' :=
  ⟨none, 0, rfl, by simp, by simp [maxLen], hb, fun h => absurd h (by omega)⟩
theorem retS_row {w w2 w' : World} {v : Value} {x y : Nat → Int} {n : Nat} (hb2 : Below w.heap.size w w2) (h : RowH w' w2.heap.size v x y n) (hn : 0 < n) (hb : Below w2.heap.size w2 w') :
    RetS w n (fun _ => 2) (fun i t => if t = 0 then x i else y i) true (.returned (.tuple #[v, .bool true])) w' := by
  obtain ⟨A, c, rfl, h1, h2, h3⟩ := rwS_of h hn
  exact ⟨A, c, rfl, h1, h2, hb2.trans (hb.mono hb2.size), rws_more h3 hb2.size (Nat.le_refl _)⟩
end Go.Proofs.Ytheddoinnakneaa
/- a pair put into a row of pairs -/
namespace Go.Proofs.Ytheddoinnakneaa
open Go.ChangeShapes Go.WideShapes Go.ChangeAt Go.RowKit Go.Joins
set_option linter.unusedVariables false
set_option linter.unusedSimpArgs false
set_option maxRecDepth 4000
theorem wm_cells {w : World} {g : Nat} {x : Value} (h1 : w.cell? ⟨g, 0, none⟩ = some x) : ∀ j u, [x][j]? = some u → w.cell? ((⟨g, 0, none⟩ : Addr).add j) = some u := by
  intro j u hj
  match j, hj with
  | 0, hj => simp at hj; subst hj; exact h1
theorem wm_one (x : Option Addr) (n c : Nat) : ∀ u ∈ [Value.slice x n c], u.oneCell' = true := by
  intro u hu; simp at hu; subst hu; rfl
theorem slM_cells {w W : World} {base g r cap B : Nat} {q ys : List Nat} (h : w.ownsRow base 47 1 (.slice (some ⟨g, 0, none⟩) r cap) r (slM q)) (hb : Below B w W) (hB : w.heap.size ≤ B) (hq : q.length = r) (o : Nat) (hy : ∀ j b, ys[j]? = some b → q[o + j]? = some b) :
    ∀ j u, (slM ys)[j]? = some u → W.cell? ((⟨g, o, none⟩ : Addr).add j) = some u := by
  intro j u hj
  unfold slM at hj
  rw [List.getElem?_map] at hj
  cases hyj : ys[j]? with
  | none => rw [hyj] at hj; cases hj
  | some b =>
    rw [hyj] at hj
    injection hj with hj
    subst hj
    have h1 := hy j b hyj
    have h2 : o + j < q.length := by
      rcases Nat.lt_or_ge (o + j) q.length with h' | h'
      · exact h'
      · rw [List.getElem?_eq_none h'] at h1; cases h1
    have hg := (World.ownsRow.lt h g rfl).2
    have ea : (⟨g, o, none⟩ : Addr).add j = ⟨g, o + j, none⟩ := by first | rfl | simp [Addr.add]
    rw [ea]
    exact (World.cell?_of_block (w := w) (hb.block g (by omega))).trans ((World.ownsRow.cellAt h (o + j) (by omega)).trans (slM_get h1))
/-- a new pair is there still, behind the append -/
theorem pair_new {w w' : World} {base n : Nat} {v : Value} {xs : List Value} {x y : Int} (ho : ((w.alloc (.cells #[.int .i64 x, .int .i64 y] 3)).alloc (.cells #[.slice (some ⟨w.heap.size, 0, none⟩) 2 2] 47)).ownsRow base 47 1 v n xs)
    (hg : ((w.alloc (.cells #[.int .i64 x, .int .i64 y] 3)).alloc (.cells #[.slice (some ⟨w.heap.size, 0, none⟩) 2 2] 47)).grownBy w' v.ownBlock) : w'.heap[w.heap.size]? = some (.cells #[.int .i64 x, .int .i64 y] 3 (0, 0)) ∧ w.heap.size < w'.heap.size := by
  have hnew : ((w.alloc (.cells #[.int .i64 x, .int .i64 y] 3)).alloc (.cells #[.slice (some ⟨w.heap.size, 0, none⟩) 2 2] 47)).heap[w.heap.size]? = some (.cells #[.int .i64 x, .int .i64 y] 3 (0, 0)) := by
    have h1 := (Below.alloc (Below.refl (w.alloc (.cells #[.int .i64 x, .int .i64 y] 3)).heap.size (w.alloc (.cells #[.int .i64 x, .int .i64 y] 3))) (Nat.le_refl _) (.cells #[.slice (some ⟨w.heap.size, 0, none⟩) 2 2] 47)).block w.heap.size (by simp)
    rw [h1]
    exact heap_alloc_new w _
  have hsz : ((w.alloc (.cells #[.int .i64 x, .int .i64 y] 3)).alloc (.cells #[.slice (some ⟨w.heap.size, 0, none⟩) 2 2] 47)).heap.size = w.heap.size + 2 := by simp
  have hgs := hg.size
  exact ⟨(hg.block w.heap.size (by omega) (not_own ho hnew)).trans hnew, by omega⟩
theorem rowM_put {W7 w8 w10 w11 : World} {base n10 t : Nat} {q : List Nat} {s : List (Int × Int)} {x y : Int} {v10 v11 : Value} {xs : List Value} (hb : base ≤ W7.heap.size) (P7 : PrM W7 base q s) (ht : t ≤ s.length)
    (h8 : W7.heap.size ≤ w8.heap.size) (B10 : Below W7.heap.size W7 w10) (hp : w10.heap[w8.heap.size]? = some (.cells #[.int .i64 x, .int .i64 y] 3 (0, 0))) (hl : w8.heap.size < w10.heap.size)
    (own10 : w10.ownsRow base 47 1 v10 n10 xs) (hg : w10.grownBy w11 v10.ownBlock)
    (own11 : w11.ownsRow base 47 1 v11 (s.length + 1) (slM (q.take t) ++ [.slice (some ⟨w8.heap.size, 0, none⟩) 2 2] ++ slM (q.drop t))) :
    RowM w11 base v11 (s.take t ++ [(x, y)] ++ s.drop t) := by
  have P10 := prM_below P7 B10 (Nat.le_refl _)
  have hgs := hg.size
  have P11 : PrM w11 base q s := prM_blocks P10 hgs (fun b hbq => hg.block b (prM_lt P10 hbq).2 (by
    obtain ⟨i, hi⟩ := List.mem_iff_getElem?.1 hbq
    have hl : i < q.length := by
      rcases Nat.lt_or_ge i q.length with g | g
      · exact g
      · rw [List.getElem?_eq_none g] at hi; cases hi
    have := P10.at_ i b _ hi (pt_get (l := s) (i := i) (by rw [← P10.len]; exact hl))
    exact not_own own10 this.2.2))
  have hp11 := (hg.block w8.heap.size hl (not_own own10 hp)).trans hp
  refine ⟨q.take t ++ [w8.heap.size] ++ q.drop t, ?_, prM_put P11 ht (by omega) (by omega) (p := (x, y)) hp11 (fun hm => ?_)⟩
  · rw [slM_put]
    have e : (s.take t ++ [(x, y)] ++ s.drop t).length = s.length + 1 := by simp; omega
    rw [e]
    exact own11
  · have := (prM_lt P7 hm).2
    omega
theorem rowM_one {w : World} {base b : Nat} {x y : Int} {v : Value} {n : Nat} (hn : n = 1) (h1 : base ≤ b) (hp : w.heap[b]? = some (.cells #[.int .i64 x, .int .i64 y] 3 (0, 0))) (hl : b < w.heap.size) (ho : w.ownsRow base 47 1 v n [.slice (some ⟨b, 0, none⟩) 2 2]) : RowM w base v [(x, y)] := by
  subst hn
  refine ⟨[b], ho, rfl, by simp, fun i b' p h2 h3 => ?_⟩
  match i, h2, h3 with
  | 0, h2, h3 =>
    simp at h2 h3
    subst h2 h3
    exact ⟨h1, hl, hp⟩
theorem ins_nil (p : Int × Int) : ins [] p = [p] := by simp [ins]
theorem wm_none {P : Program} {w : World} {ops : Array Oper} {rest : List Oper} {o : Oper} {a : Act} {Q : Exit → Act → World → Prop} (hgd : o.guard = none) (s x : Operand) (t : TypeId)
    (ho : o.op = .call { callee := .builtin .append, args := #[s, x], argTypes := #[t, t] })
    (base : Nat) (e : TypeId) (i : TypeInfo) (size : Nat) (ht : P.underlying t = some (.slice e)) (hi : P.info? e = some i)
    (v : Value) (n : Nat) (xs : List Value) (hs : a.eval s = v) (hown : w.ownsRow base e size v n xs) (hx : a.eval x = .slice none 0 0)
    (h : ∀ W v', W = w → v' = v → wpList P ops Q rest (a.put o.dst v') W) : wpList P ops Q (o :: rest) a w :=
  wpList_append_own_none hgd s x t ho base e i size ht hi v n xs hs hown hx (h _ _ rfl rfl)
end Go.Proofs.Ytheddoinnakneaa
/- A statement that leaves the order of its first operations open, one of which makes a new block; the last ones stand in one order: one walk, in the order of the text, whatever the block's number. -/
namespace Go.Proofs.Ytheddoinnakneaa
open Go.ChangeShapes Go.WideShapes Go.ChangeAt Go.RowKit Go.Joins
set_option linter.unusedVariables false
set_option linter.unusedSimpArgs false
set_option maxRecDepth 4000
section
variable {P : Program} {ops : Array Oper} {md : Region.Mode} {W0 : World}
theorem comes_mono {S S' : World → Prop} {v : Value} {r : Result Next} (h : Comes P S v r) (hk : ∀ w, S w → S' w) : Comes P S' v r := by
  cases r with
  | ok n w' =>
    cases n with
    | value u => exact ⟨h.1, hk _ h.2⟩
    | skip => exact ⟨h.1, hk _ h.2⟩
    | enter f args => exact Calls.mono h fun e w'' he => ⟨he.1, hk _ he.2⟩
    | _ => exact h.elim
  | halt x w' => exact h.elim
def SteadyR (P : Program) (ops : Array Oper) (W0 : World) (o : Oper) (v : Value) (a : Act) : Prop :=
  (Region.wanted o (yielded ops a.tmps) = true ∧ ∀ w, Below W0.heap.size W0 w → Comes P (fun w' => Below w.heap.size w w') v ((execOp a.eval o).run P w)) ∨
  (Region.wanted o (yielded ops a.tmps) = false ∧ v = undef)
theorem steady_of_R {S : World → Prop} {o : Oper} {v : Value} {a : Act} (h : SteadyR P ops W0 o v a) (hS : ∀ w, S w → Below W0.heap.size W0 w) (hK : ∀ w w', S w → Below w.heap.size w w' → S w') : Steady P ops S o v a := by
  rcases h with ⟨h1, h2⟩ | h
  · exact Or.inl ⟨h1, fun w hw => comes_mono (h2 w (hS w hw)) fun w' hb => hK w w' hw hb⟩
  · exact Or.inr h
theorem steadyR_same {o : Oper} {v : Value} {a a' : Act} (hy : SteadyR P ops W0 o v a) (he : execOp a'.eval o = execOp a.eval o)
    (hw : Region.wanted o (yielded ops a'.tmps) = Region.wanted o (yielded ops a.tmps)) : SteadyR P ops W0 o v a' := by
  unfold SteadyR at *; rw [he, hw]; exact hy
def wpAnyR (P : Program) (md : Region.Mode) (ops : Array Oper) (W0 : World) (n : Nat) (L : Array Bool → Act → Prop) : Nat → Array Bool → Act → Prop
  | 0, listed, a => L listed a
  | f + 1, listed, a => Region.ready md ops listed ≠ [] ∧ ∀ i ∈ Region.ready md ops listed, i < n ∧ ∃ oi v, ops[i]? = some oi ∧ SteadyR P ops W0 oi v a ∧ wpAnyR P md ops W0 n L f (listed.setIfInBounds i true) (a.put oi.dst v)
theorem wpAnyS_of_R {n : Nat} {L : Array Bool → Act → Prop} {S : World → Prop} (hS : ∀ w, S w → Below W0.heap.size W0 w) (hK : ∀ w w', S w → Below w.heap.size w w' → S w') :
    ∀ (f : Nat) (listed : Array Bool) (a : Act), wpAnyR P md ops W0 n L f listed a → wpAnyS P md ops S n L f listed a
  | 0, _, _, h => h
  | f + 1, listed, a, h => ⟨h.1, fun i hi => by
      obtain ⟨h1, oi, v, ho, hy, hn⟩ := h.2 i hi
      exact ⟨h1, oi, v, ho, steady_of_R hy hS hK, wpAnyS_of_R hS hK f _ _ hn⟩⟩
theorem wpAnyR_first {n i : Nat} {oi : Oper} {v : Value} {L : Array Bool → Act → Prop} (hi : ops[i]? = some oi) (hsel : ∀ (j : Nat) (o : Oper) cs b, ops[j]? = some o → o.op ≠ .select cs b)
    (hs : Region.sinkB md ops n = true) (hc : Region.chainB md ops n = true) (hn : n < ops.size) (hin : i < n)
    (hdone : ∀ listed a, L listed a → ∀ j ∈ Region.ready md ops listed, n ≤ j) :
    ∀ (f : Nat) (listed : Array Bool) (a : Act), HeadInv md ops n listed →
      (∀ j oj, ops[j]? = some oj → j ≠ i → listed.getD j true = false → (∀ e ∈ oj.after, Region.binds md e = true → e.on ≠ i) → oi.apart ops oj = true) →
      i ∈ Region.ready md ops listed → SteadyR P ops W0 oi v a →
      wpAnyR P md ops W0 n L f (listed.setIfInBounds i true) (a.put oi.dst v) → wpAnyR P md ops W0 n L (f + 1) listed a := by
  intro f
  induction f with
  | zero =>
    intro listed a inv _ hr hy H
    have hun := (mem_ready.1 hr).1
    refine ⟨fun h => (by rw [h] at hr; cases hr), fun j hj => ?_⟩
    have hjn : j < n := by
      rcases Nat.lt_or_ge j n with h | h
      · exact h
      · exact absurd hj (tail_waits hs hc hn inv _ i rfl hin hun j h)
    refine ⟨hjn, ?_⟩
    by_cases hji : j = i
    · subst hji; exact ⟨oi, v, hi, hy, H⟩
    · have := hdone _ _ H j (ready_mono hj hji)
      omega
  | succ f ih =>
    intro listed a inv hfree hr hy H
    have hun := (mem_ready.1 hr).1
    refine ⟨fun h => (by rw [h] at hr; cases hr), fun j hj => ?_⟩
    have hjn : j < n := by
      rcases Nat.lt_or_ge j n with h | h
      · exact h
      · exact absurd hj (tail_waits hs hc hn inv _ i rfl hin hun j h)
    refine ⟨hjn, ?_⟩
    by_cases hji : j = i
    · subst hji; exact ⟨oi, v, hi, hy, H⟩
    · obtain ⟨_, oj, u, hoj, hsj, Hj⟩ := H.2 j (ready_mono hj hji)
      obtain ⟨hjun, oj', hoj', hall⟩ := mem_ready.1 hj
      obtain rfl : oj' = oj := Option.some.inj (hoj'.symm.trans hoj)
      have hnot : ∀ e ∈ oj'.after, Region.binds md e = true → e.on ≠ i := fun e he hb heq => by
        have h1 := hall e he hb
        rw [heq, getD_both hun] at h1
        cases h1
      obtain ⟨h1, h2, h3⟩ := Oper.apart_spec (hfree j oj' hoj hji hjun hnot)
      have k1 : SteadyR P ops W0 oj' u a := steadyR_same hsj (execOp_put oj' (fun cs b => hsel j oj' cs b hoj) a oi.dst v h1).symm (wanted_put oj' a oi.dst v h1).symm
      have k2 : SteadyR P ops W0 oi v (a.put oj'.dst u) := steadyR_same hy (execOp_put oi (fun cs b => hsel i oi cs b hi) a oj'.dst u h3) (wanted_put oi a oj'.dst u h3)
      refine ⟨oj', u, hoj, k1, ih _ _ (inv.set hj hjn) (fun k ok hk hki hun hno => ?_) (ready_mono hr (Ne.symm hji)) k2 ?_⟩
      · refine hfree k ok hk hki ?_ hno
        by_cases hjk : j = k
        · subst hjk; exact hjun
        · rw [getD_set_ne true hjk] at hun; exact hun
      · rw [Array.setIfInBounds_comm _ _ hji, ← Act.put_comm a v u h2]
        exact Hj
/-- the head, in the text's order -/
def wpHR (P : Program) (ops : Array Oper) (W0 : World) (T : Act → Prop) : List Oper → Act → Prop
  | [], a => T a
  | o :: rest, a => ∃ v, SteadyR P ops W0 o v a ∧ wpHR P ops W0 T rest (a.put o.dst v)
def lexZ (md : Region.Mode) (ops : Array Oper) (g n : Nat) : Nat → Nat → Array Bool → Bool
  | 0, _, listed => Region.seqB md ops g n listed
  | m + 1, k, listed => (Region.ready md ops listed).contains k && Region.free md ops listed k && lexZ md ops g n m (k + 1) (listed.setIfInBounds k true)
theorem wpAnyR_lex {n g : Nat} {T : Act → Prop} (hsel : Region.noSelect ops = true) (hs : Region.sinkB md ops n = true) (hc : Region.chainB md ops n = true) (hn : n < ops.size) :
    ∀ (l : List Oper) (k : Nat) (listed : Array Bool) (a : Act), (∀ j, j < l.length → l[j]? = ops[k + j]?) → k + l.length < n → HeadInv md ops n listed →
    lexZ md ops g n l.length k listed = true → wpHR P ops W0 T l a →
    wpAnyR P md ops W0 n (fun listed' a' => Region.seqB md ops g n listed' = true ∧ T a') l.length listed a
  | [], k, listed, a, _, _, _, hB, h => ⟨hB, h⟩
  | o :: l, k, listed, a, hl, hk, inv, hB, h => by
    have h0 : ops[k]? = some o := by simpa using (hl 0 (by simp)).symm
    simp only [List.length_cons, lexZ, Bool.and_eq_true] at hB
    obtain ⟨⟨hr, hf⟩, hB'⟩ := hB
    have hkn : k < n := by simp only [List.length_cons] at hk; omega
    have hr' : k ∈ Region.ready md ops listed := by simpa using hr
    obtain ⟨v, hy, hK⟩ := h
    exact wpAnyR_first h0 (Region.noSelect_spec hsel) hs hc hn hkn (fun listed' a' hL => seqB_ready hL.1) l.length listed a inv (Region.free_spec h0 hf) hr' hy
      (wpAnyR_lex hsel hs hc hn l (k + 1) _ _ (fun j hj => by have := hl (j + 1) (by simp; omega); simpa [Nat.add_assoc, Nat.add_comm 1 j] using this) (by simp only [List.length_cons] at hk; omega) (inv.set hr' hkn) hB' hK)
theorem getD_set_keep {listed : Array Bool} {j z : Nat} (h : listed.getD z true = true) : (listed.setIfInBounds j true).getD z true = true := by
  by_cases hj : j = z
  · subst hj
    rcases Nat.lt_or_ge j listed.size with h' | h'
    · simp [h']
    · simp [Array.getElem?_eq_none h']
  · rw [getD_set_ne true hj]; exact h
/-- what the head comes to, with another slot set -/
theorem wpAnyR_put {n z : Nat} {oz : Oper} {vz : Value} {L : Array Bool → Act → Prop} (hsel : ∀ (j : Nat) (o : Oper) cs b, ops[j]? = some o → o.op ≠ .select cs b)
    (hap : ∀ j oj, j < n → j ≠ z → ops[j]? = some oj → oz.apart ops oj = true) :
    ∀ (f : Nat) (listed : Array Bool) (a : Act), listed.getD z true = true → wpAnyR P md ops W0 n L f listed a →
      wpAnyR P md ops W0 n (fun l' a' => ∃ b, L l' b ∧ a' = b.put oz.dst vz) f listed (a.put oz.dst vz)
  | 0, listed, a, _, h => ⟨a, h, rfl⟩
  | f + 1, listed, a, hz, h => ⟨h.1, fun j hj => by
      obtain ⟨hjn, oj, u, hoj, hsj, Hj⟩ := h.2 j hj
      have hjz : j ≠ z := by
        intro e
        subst e
        have := (mem_ready.1 hj).1
        rw [hz] at this
        cases this
      obtain ⟨h1, h2, h3⟩ := Oper.apart_spec (hap j oj hjn hjz hoj)
      refine ⟨hjn, oj, u, hoj, steadyR_same hsj (execOp_put oj (fun cs b => hsel j oj cs b hoj) a oz.dst vz h1) (wanted_put oj a oz.dst vz h1), ?_⟩
      rw [Act.put_comm a vz u h2]
      exact wpAnyR_put hsel hap f _ _ (getD_set_keep hz) Hj⟩
theorem op_gives {o : Oper} {a : Act} {K : Act → World → Prop} {Q : Exit → Act → World → Prop} {W w' : World} {v : Value} {i : Nat} (hi : ops[i]? = some o) (hw : Region.wanted o (yielded ops a.tmps) = true)
    (h1 : (execOp a.eval o).run P W = .ok (.value v) w') (h2 : K (a.put o.dst v) w') : wpOp P ops Q i K a W := by
  unfold wpOp
  simp only [hi, hw, if_true]
  left
  unfold Oper.wp
  rw [h1]
  exact h2
theorem wpAny_alloc {n z g : Nat} {oz : Oper} {obj : Obj} {rest : List Oper} {T : Act → Prop} {Q : Exit → Act → World → Prop} (hsel : ∀ (j : Nat) (o : Oper) cs b, ops[j]? = some o → o.op ≠ .select cs b)
    (hs : Region.sinkB md ops n = true) (hc : Region.chainB md ops n = true) (hn : n < ops.size) (hz : z < n) (hoz : ops[z]? = some oz)
    (hap : ∀ j oj, j < n → j ≠ z → ops[j]? = some oj → oz.apart ops oj = true) (hw : ∀ a : Act, Region.wanted oz (yielded ops a.tmps) = true)
    (hal : ∀ (a : Act) W, (execOp a.eval oz).run P W = .ok (.value (.pointer (some ⟨W.heap.size, 0, none⟩))) (W.alloc obj))
    (hrest : ∀ j, rest[j]? = ops[n + j]?) (hg : rest.length = g)
    (hT : ∀ a', T a' → ∀ W1 W, Below W0.heap.size W0 W1 → Below (W1.alloc obj).heap.size (W1.alloc obj) W → wpList P ops Q rest (a'.put oz.dst (.pointer (some ⟨W1.heap.size, 0, none⟩))) W) :
    ∀ (f : Nat) (listed : Array Bool) (a : Act), HeadInv md ops n listed → z ∈ Region.ready md ops listed →
      wpAnyR P md ops W0 n (fun l' a' => Region.seqB md ops g n l' = true ∧ T a') f (listed.setIfInBounds z true) a →
      ∀ W, Below W0.heap.size W0 W → wpAny P md ops Q (f + 1 + g) listed a W := by
  have doz : ∀ (f : Nat) (listed : Array Bool) (a : Act), z ∈ Region.ready md ops listed →
      wpAnyR P md ops W0 n (fun l' a' => Region.seqB md ops g n l' = true ∧ T a') f (listed.setIfInBounds z true) a →
      ∀ W, Below W0.heap.size W0 W → wpOp P ops Q z (fun a' w' => wpAny P md ops Q (f + g) (listed.setIfInBounds z true) a' w') a W := by
    intro f listed a hr H W hW
    refine op_gives hoz (hw _) (hal _ _) ?_
    have hzl : (listed.setIfInBounds z true).getD z true = true := by
      rcases Nat.lt_or_ge z listed.size with h' | h'
      · simp [h']
      · simp [Array.getElem?_eq_none h']
    have hWA : Below W0.heap.size W0 (W.alloc obj) := Below.alloc hW hW.size obj
    have H2 := wpAnyR_put (vz := .pointer (some ⟨W.heap.size, 0, none⟩)) hsel hap f _ _ hzl H
    have H3 := wpAnyS_of_R (S := fun w => Below (W.alloc obj).heap.size (W.alloc obj) w) (fun w hb => hWA.trans (hb.mono hWA.size)) (fun w w' h1 h2 => h1.trans (h2.mono h1.size)) f _ _ H2
    refine wpAny_of_S (Q := Q) (g := g) (fun l' a' hL W' hW' => ?_) f _ _ H3 (W.alloc obj) (Below.refl _ _)
    obtain ⟨b, ⟨hB, hTb⟩, rfl⟩ := hL
    have := wpAny_of_seq (md := md) (Q' := Q) rest n l' _ W' hrest (by rw [hg]; exact hB) (hT b hTb W W' hW hW')
    rwa [hg] at this
  intro f
  induction f with
  | zero =>
    intro listed a inv hr H W hW
    rw [show 0 + 1 + g = (0 + g) + 1 by omega]
    refine ⟨fun h => (by rw [h] at hr; cases hr), fun j hj => ?_⟩
    by_cases hjz : j = z
    · subst hjz; exact doz 0 listed a hr H W hW
    · have h1 := seqB_ready H.1 j (ready_mono hj hjz)
      exact absurd hj (tail_waits hs hc hn inv _ z rfl hz (mem_ready.1 hr).1 j h1)
  | succ f ih =>
    intro listed a inv hr H W hW
    rw [show f + 1 + 1 + g = (f + 1 + g) + 1 by omega]
    refine ⟨fun h => (by rw [h] at hr; cases hr), fun j hj => ?_⟩
    by_cases hjz : j = z
    · subst hjz; exact doz (f + 1) listed a hr H W hW
    · obtain ⟨hjn, oj, u, hoj, hsj, Hj⟩ := H.2 j (ready_mono hj hjz)
      have hst : Steady P ops (fun w => Below W0.heap.size W0 w) oj u a := steady_of_R hsj (fun w h => h) (fun w w' h1 h2 => h1.trans (h2.mono h1.size))
      refine steady_op hoj hst hW fun w' hS' => ?_
      refine ih (listed.setIfInBounds j true) (a.put oj.dst u) (inv.set hj hjn) (ready_mono hr (Ne.symm hjz)) ?_ w' hS'
      rw [Array.setIfInBounds_comm _ _ hjz]
      exact Hj
def lexAllB (md : Region.Mode) (ops : Array Oper) (z : Nat) : Bool :=
  Region.noSelect ops && decide (z + 1 < ops.size) && Region.sinkB md ops (z + 1) && Region.chainB md ops (z + 1) && (Region.ready md ops (Array.replicate ops.size false)).contains z &&
    ((List.range z).all fun j => match ops[z]?, ops[j]? with | some oz, some oj => oz.apart ops oj | _, _ => false) &&
    lexZ md ops (ops.size - (z + 1)) (z + 1) z 0 ((Array.replicate ops.size false).setIfInBounds z true)
theorem wp_region_AL {id : Nat} {Q : Exit → Act → World → Prop} {a : Act} {w : World} {l : List Oper} (z : Nat) {oz : Oper} {rest : List Oper} {obj : Obj} (W0 : World) (hm : P.follows .mixedOrders = true) (hB : lexAllB .any l.toArray z = true)
    (hS : Below W0.heap.size W0 w.drew) (hlz : l.drop z = oz :: rest) (hw : ∀ a, Region.wanted oz (yielded l.toArray a) = true)
    (hal : ∀ (a : Act) W, (execOp a.eval oz).run P W = .ok (.value (.pointer (some ⟨W.heap.size, 0, none⟩))) (W.alloc obj))
    (h : wpHR P l.toArray W0 (fun a' => ∀ W1 W, Below W0.heap.size W0 W1 → Below (W1.alloc obj).heap.size (W1.alloc obj) W → wpList P l.toArray Q rest (a'.put oz.dst (.pointer (some ⟨W1.heap.size, 0, none⟩))) W) (l.take z) a) :
    (Code.region id l.toArray true).wp P Q a w := by
  simp only [lexAllB, Bool.and_eq_true, decide_eq_true_eq] at hB
  obtain ⟨⟨⟨⟨⟨⟨hsel, hn⟩, hs⟩, hc⟩, hr0⟩, hap⟩, hlex⟩ := hB
  have hn' : z + 1 < l.length := by simpa using hn
  have hoz : l.toArray[z]? = some oz := by
    have h0 : (l.drop z)[0]? = some oz := by rw [hlz]; rfl
    simpa [List.getElem?_drop] using h0
  have hrest : ∀ j, rest[j]? = l.toArray[z + 1 + j]? := fun j => by
    have h0 : (l.drop z)[j + 1]? = rest[j]? := by rw [hlz]; rfl
    rw [← h0]
    simp [List.getElem?_drop]
    congr 1
    omega
  have hrl : rest.length = l.toArray.size - (z + 1) := by
    have := congrArg List.length hlz
    simp at this ⊢
    omega
  have htl : (l.take z).length = z := by simp; omega
  have inv0 : HeadInv .any l.toArray (z + 1) (Array.replicate l.toArray.size false) :=
    ⟨by simp, fun j oj _ hl => (by rw [getD_replicate_false] at hl; cases hl), fun t _ ht => getD_in (by simpa using ht) (getD_replicate_false _ _)⟩
  have hr0' : z ∈ Region.ready .any l.toArray (Array.replicate l.toArray.size false) := by simpa using hr0
  have H := wpAnyR_lex (md := .any) (g := l.toArray.size - (z + 1)) hsel hs hc hn (l.take z) 0 _ a (fun j hj => by
    have hj' : j < z := by rw [htl] at hj; exact hj
    simp [List.getElem?_take, hj']) (by rw [htl]; omega) (inv0.set hr0' (by omega)) (by rw [htl]; exact hlex) h
  refine wp_region_any hm ?_
  have hap' : ∀ j oj, j < z + 1 → j ≠ z → l.toArray[j]? = some oj → oz.apart l.toArray oj = true := fun j oj hj hjz hoj => by
    have h1 := List.all_eq_true.1 hap j (List.mem_range.2 (by omega))
    simpa only [hoz, hoj] using h1
  have := wpAny_alloc (md := .any) (Q := Q) (g := l.toArray.size - (z + 1)) (rest := rest) (Region.noSelect_spec hsel) hs hc hn (by omega) hoz hap' (fun a => hw a.tmps) hal hrest hrl (fun a' hT => hT) (l.take z).length _ a inv0 hr0' H w.drew hS
  rw [htl, show z + 1 + (l.toArray.size - (z + 1)) = l.toArray.size by omega] at this
  exact this
theorem wpR_text {T : Act → Prop} {o : Oper} {rest : List Oper} {a : Act} {v : Value} (hw : Region.wanted o (yielded ops a.tmps) = true) (hy : ∀ w, Below W0.heap.size W0 w → Comes P (fun w' => Below w.heap.size w w') v ((execOp a.eval o).run P w))
    (h : wpHR P ops W0 T rest (a.put o.dst v)) : wpHR P ops W0 T (o :: rest) a := ⟨v, Or.inl ⟨hw, hy⟩, h⟩
theorem wpR_skip {T : Act → Prop} {o : Oper} {rest : List Oper} {a : Act} (hw : Region.wanted o (yielded ops a.tmps) = false)
    (h : wpHR P ops W0 T rest (a.put o.dst undef)) : wpHR P ops W0 T (o :: rest) a := ⟨undef, Or.inr ⟨hw, rfl⟩, h⟩
theorem wpR_nil {T : Act → Prop} {a : Act} (h : T a) : wpHR P ops W0 T [] a := h
end
end Go.Proofs.Ytheddoinnakneaa

