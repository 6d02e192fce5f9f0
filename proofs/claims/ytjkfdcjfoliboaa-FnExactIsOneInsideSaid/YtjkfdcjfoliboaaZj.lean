/- contract: do all corners turn to one side, the model -/
import Derived.Test.YtjkfdcjfoliboaaZi
import Derived.Test.YtjkfdcjfoliboaaSa
import Derived.Test.YtjkfdcjfoliboaaSb
import Derived.Test.YtjkfdcjfoliboaaQg
namespace Go.Proofs.Ytjkfdcjfoliboaa
open Go.ChangeShapes Go.WideShapes Go.ChangeAt Go.RowKit Go.Joins
set_option linter.unusedVariables false
set_option linter.unusedSimpArgs false
set_option maxRecDepth 4000
set_option maxHeartbeats 2000000 in
theorem pgConvex_any (A : Option Addr) (c : Nat) (l : List (Int × Int)) (w : World) (hg : Good l) (hR : Rd w w.heap.size A l) :
    Calls Try.prog 37 #[.slice A l.length c] w fun e w' => e = .returned (.bool (convB l)) ∧ Below w.heap.size w w' := by
  have h3 := hg.few.1
  have hn := hg.few.2
  have KA := Lib.hid (pgArea_any A c l w h3 hn hg.pegs hR)
  have KS := Lib.hid (fun n W => l1Sign_any n W)
  obtain ⟨b, off, rfl, hb, HC⟩ := pts_of (by omega) hR
  have ZP := Lib.hid (fun i => pgs_sz hg.pegs i (by omega))
  have HT := Lib.hid (fun h : Cvx l => convB_true h)
  have HF := Lib.hid (fun h : ¬ Cvx l => convB_false h)
  have HD : Hid (Cvx l = ∀ i, i < l.length → sgn (tN l i) = sgn (areaN l)) := Lib.hid rfl
  clear hg hR
  generalize areaN l = a at *
  generalize hN : l.length = n at *
  have HN := Lib.hid hN
  clear hN
  go_enter Try.func37, Try.ntmps37
  go_wp2_with fail
  refine KA.out.mono ?_; rintro e w1 ⟨rfl, hb1⟩
  go_wp2_with fail
  refine (KS.out a w1).mono ?_; rintro e w2 ⟨rfl, h12⟩
  subst h12
  have hb2 := hb1
  clear KA hb1
  go_wp2_with fail
  go_loopg [14] n (fun g i wr => ∃ k : Nat, k ≤ n ∧ g = n - k ∧ i = .int .i64 k ∧ Below w.heap.size w wr ∧ Hid (∀ i, i < k → sgn (tN l i) = sgn a))
  case atStart => exact ⟨0, by omega, by omega, rfl, hb2, Lib.hid (fun i h => absurd h (Nat.not_lt_zero _))⟩
  case round =>
    clear hb2
    obtain ⟨k, hk, hg, rfl, hB, hH⟩ := hrel
    rename World => wo
    have HGK := Lib.hid hg
    clear hg
    by_cases hlt : k < n
    · have m1 : (k + 1) % n < n := Nat.mod_lt _ (by omega)
      have m2 : (k + 2) % n < n := Nat.mod_lt _ (by omega)
      have T := Lib.hid (fun W => (show Calls Try.prog 62 #[.agg #[.int .i64 (vx l k).1, .int .i64 (vx l k).2], .agg #[.int .i64 (vx l ((k + 1) % n)).1, .int .i64 (vx l ((k + 1) % n)).2], .agg #[.int .i64 (vx l ((k + 2) % n)).1, .int .i64 (vx l ((k + 2) % n)).2]] W fun e w' => e = .returned (.int .i64 (tN l k)) ∧ Below W.heap.size W w' from by
        unfold tN; rw [← HN.out, vx_per, vx_per]; exact pgTurn_any _ _ _ _ _ _ W (ZP.out _) (ZP.out _) (ZP.out _)))
      have HN1 : Hid (sgn (tN l k) ≠ sgn a → convB l = false) := Lib.hid (fun h => HF.out (fun hc => by rw [HD.out] at hc; exact h (hc k (by have := HN.out; omega))))
      have HN2 : Hid (sgn (tN l k) = sgn a → ∀ i, i < k + 1 → sgn (tN l i) = sgn a) := Lib.hid (fun h i hi => by
        by_cases e : i = k
        · subst e; exact h
        · exact hH.out i (by omega))
      clear hH
      have KS1 := Lib.hid (fun W => KS.out (tN l k) W)
      generalize tN l k = t at *
      generalize sgn t = st at *
      generalize sgn a = sa at *
      have hq := HC.out wo hB k hlt
      have hzB := hB.size
      have hb1 := Below.alloc hB hzB (.cells #[.int .i64 (vx l k).1, .int .i64 (vx l k).2] 34)
      go_wp2_with fail
      have e1 : IntKind.i64.wrap ((k : Int) + 1) = (k : Int) + 1 := IntWalk.i64_in _ (by omega)
      have e2 : ¬ n = 0 := by omega
      have e3 : (0 : Int) ≤ ((k : Int) + 1) % (n : Int) := Int.emod_nonneg _ (by omega)
      have e4 : ((k : Int) + 1) % (n : Int) < (n : Int) := Int.emod_lt_of_pos _ (by omega)
      have e5 : ((k : Int) + 1).tmod (n : Int) = ((k : Int) + 1) % (n : Int) := Int.tmod_eq_emod_of_nonneg (by omega)
      have e6 : (((k : Int) + 1) % (n : Int)).toNat = (k + 1) % n := by rw [show ((k : Int) + 1) % (n : Int) = (((k + 1) % n : Nat) : Int) by simp]; exact Int.toNat_natCast _
      have f1 : IntKind.i64.wrap ((k : Int) + 2) = (k : Int) + 2 := IntWalk.i64_in _ (by omega)
      have f3 : (0 : Int) ≤ ((k : Int) + 2) % (n : Int) := Int.emod_nonneg _ (by omega)
      have f4 : ((k : Int) + 2) % (n : Int) < (n : Int) := Int.emod_lt_of_pos _ (by omega)
      have f5 : ((k : Int) + 2).tmod (n : Int) = ((k : Int) + 2) % (n : Int) := Int.tmod_eq_emod_of_nonneg (by omega)
      have f6 : (((k : Int) + 2) % (n : Int)).toNat = (k + 2) % n := by rw [show ((k : Int) + 2) % (n : Int) = (((k + 2) % n : Nat) : Int) by simp]; exact Int.toNat_natCast _
      by_cases hs : st = sa
      · have hh2 := Lib.hid (HN2.out hs)
        clear HN1 HN2
        subst hs
        refine wp_region_B (fun W => Below w.heap.size w W ∧ wo.heap.size < W.heap.size ∧ W.cell? ⟨wo.heap.size, 0, none⟩ = some (.int .i64 (vx l k).1) ∧ W.cell? ⟨wo.heap.size, 1, none⟩ = some (.int .i64 (vx l k).2)) (by kernel_rfl) ⟨hb1.drew, by simp, by go_simp, by go_simp⟩ ?_
        clear hq hb1
        first | refine wpB_skip 0 rfl (by kernel_rfl) (by kernel_rfl) (by kernel_rfl) (by rfl) ?_ | (refine wpB_text 0 (v := ?_) rfl (by kernel_rfl) (by kernel_rfl) (by kernel_rfl) (by rfl) (fun W hW => ?_) ?_; rotate_left; (obtain ⟨k1, k2, k3, k4⟩ := hW; have c1 := HC.out W k1 ((k + 1) % n) m1; have c2 := HC.out W k1 ((k + 2) % n) m2; go_simp; refine comes_v ?_; exact ⟨k1, k2, k3, k4⟩))
        (try simp only [Act.put, List.setIfInBounds_toArray, List.set_cons_zero, List.set_cons_succ])
        first | refine wpB_skip 1 rfl (by kernel_rfl) (by kernel_rfl) (by kernel_rfl) (by rfl) ?_ | (refine wpB_text 1 (v := ?_) rfl (by kernel_rfl) (by kernel_rfl) (by kernel_rfl) (by rfl) (fun W hW => ?_) ?_; rotate_left; (obtain ⟨k1, k2, k3, k4⟩ := hW; have c1 := HC.out W k1 ((k + 1) % n) m1; have c2 := HC.out W k1 ((k + 2) % n) m2; go_simp; refine comes_v ?_; exact ⟨k1, k2, k3, k4⟩))
        (try simp only [Act.put, List.setIfInBounds_toArray, List.set_cons_zero, List.set_cons_succ])
        first | refine wpB_skip 2 rfl (by kernel_rfl) (by kernel_rfl) (by kernel_rfl) (by rfl) ?_ | (refine wpB_text 2 (v := ?_) rfl (by kernel_rfl) (by kernel_rfl) (by kernel_rfl) (by rfl) (fun W hW => ?_) ?_; rotate_left; (obtain ⟨k1, k2, k3, k4⟩ := hW; have c1 := HC.out W k1 ((k + 1) % n) m1; have c2 := HC.out W k1 ((k + 2) % n) m2; go_simp; refine comes_v ?_; exact ⟨k1, k2, k3, k4⟩))
        (try simp only [Act.put, List.setIfInBounds_toArray, List.set_cons_zero, List.set_cons_succ])
        first | refine wpB_skip 3 rfl (by kernel_rfl) (by kernel_rfl) (by kernel_rfl) (by rfl) ?_ | (refine wpB_text 3 (v := ?_) rfl (by kernel_rfl) (by kernel_rfl) (by kernel_rfl) (by rfl) (fun W hW => ?_) ?_; rotate_left; (obtain ⟨k1, k2, k3, k4⟩ := hW; have c1 := HC.out W k1 ((k + 1) % n) m1; have c2 := HC.out W k1 ((k + 2) % n) m2; go_simp; refine comes_v ?_; exact ⟨k1, k2, k3, k4⟩))
        (try simp only [Act.put, List.setIfInBounds_toArray, List.set_cons_zero, List.set_cons_succ])
        first | refine wpB_skip 4 rfl (by kernel_rfl) (by kernel_rfl) (by kernel_rfl) (by rfl) ?_ | (refine wpB_text 4 (v := ?_) rfl (by kernel_rfl) (by kernel_rfl) (by kernel_rfl) (by rfl) (fun W hW => ?_) ?_; rotate_left; (obtain ⟨k1, k2, k3, k4⟩ := hW; have c1 := HC.out W k1 ((k + 1) % n) m1; have c2 := HC.out W k1 ((k + 2) % n) m2; go_simp; refine comes_v ?_; exact ⟨k1, k2, k3, k4⟩))
        (try simp only [Act.put, List.setIfInBounds_toArray, List.set_cons_zero, List.set_cons_succ])
        first | refine wpB_skip 5 rfl (by kernel_rfl) (by kernel_rfl) (by kernel_rfl) (by rfl) ?_ | (refine wpB_text 5 (v := ?_) rfl (by kernel_rfl) (by kernel_rfl) (by kernel_rfl) (by rfl) (fun W hW => ?_) ?_; rotate_left; (obtain ⟨k1, k2, k3, k4⟩ := hW; have c1 := HC.out W k1 ((k + 1) % n) m1; have c2 := HC.out W k1 ((k + 2) % n) m2; go_simp; refine comes_v ?_; exact ⟨k1, k2, k3, k4⟩))
        (try simp only [Act.put, List.setIfInBounds_toArray, List.set_cons_zero, List.set_cons_succ])
        first | refine wpB_skip 6 rfl (by kernel_rfl) (by kernel_rfl) (by kernel_rfl) (by rfl) ?_ | (refine wpB_text 6 (v := ?_) rfl (by kernel_rfl) (by kernel_rfl) (by kernel_rfl) (by rfl) (fun W hW => ?_) ?_; rotate_left; (obtain ⟨k1, k2, k3, k4⟩ := hW; have c1 := HC.out W k1 ((k + 1) % n) m1; have c2 := HC.out W k1 ((k + 2) % n) m2; go_simp; refine comes_v ?_; exact ⟨k1, k2, k3, k4⟩))
        (try simp only [Act.put, List.setIfInBounds_toArray, List.set_cons_zero, List.set_cons_succ])
        first | refine wpB_skip 7 rfl (by kernel_rfl) (by kernel_rfl) (by kernel_rfl) (by rfl) ?_ | (refine wpB_text 7 (v := ?_) rfl (by kernel_rfl) (by kernel_rfl) (by kernel_rfl) (by rfl) (fun W hW => ?_) ?_; rotate_left; (obtain ⟨k1, k2, k3, k4⟩ := hW; have c1 := HC.out W k1 ((k + 1) % n) m1; have c2 := HC.out W k1 ((k + 2) % n) m2; go_simp; refine comes_v ?_; exact ⟨k1, k2, k3, k4⟩))
        (try simp only [Act.put, List.setIfInBounds_toArray, List.set_cons_zero, List.set_cons_succ])
        first | refine wpB_skip 8 rfl (by kernel_rfl) (by kernel_rfl) (by kernel_rfl) (by rfl) ?_ | (refine wpB_text 8 (v := ?_) rfl (by kernel_rfl) (by kernel_rfl) (by kernel_rfl) (by rfl) (fun W hW => ?_) ?_; rotate_left; (obtain ⟨k1, k2, k3, k4⟩ := hW; have c1 := HC.out W k1 ((k + 1) % n) m1; have c2 := HC.out W k1 ((k + 2) % n) m2; go_simp; refine comes_v ?_; exact ⟨k1, k2, k3, k4⟩))
        (try simp only [Act.put, List.setIfInBounds_toArray, List.set_cons_zero, List.set_cons_succ])
        first | refine wpB_skip 9 rfl (by kernel_rfl) (by kernel_rfl) (by kernel_rfl) (by rfl) ?_ | (refine wpB_text 9 (v := ?_) rfl (by kernel_rfl) (by kernel_rfl) (by kernel_rfl) (by rfl) (fun W hW => ?_) ?_; rotate_left; (obtain ⟨k1, k2, k3, k4⟩ := hW; have c1 := HC.out W k1 ((k + 1) % n) m1; have c2 := HC.out W k1 ((k + 2) % n) m2; go_simp; refine comes_v ?_; exact ⟨k1, k2, k3, k4⟩))
        (try simp only [Act.put, List.setIfInBounds_toArray, List.set_cons_zero, List.set_cons_succ])
        first | refine wpB_skip 10 rfl (by kernel_rfl) (by kernel_rfl) (by kernel_rfl) (by rfl) ?_ | (refine wpB_text 10 (v := ?_) rfl (by kernel_rfl) (by kernel_rfl) (by kernel_rfl) (by rfl) (fun W hW => ?_) ?_; rotate_left; (obtain ⟨k1, k2, k3, k4⟩ := hW; have c1 := HC.out W k1 ((k + 1) % n) m1; have c2 := HC.out W k1 ((k + 2) % n) m2; go_simp; refine comes_v ?_; exact ⟨k1, k2, k3, k4⟩))
        (try simp only [Act.put, List.setIfInBounds_toArray, List.set_cons_zero, List.set_cons_succ])
        first | refine wpB_skip 11 rfl (by kernel_rfl) (by kernel_rfl) (by kernel_rfl) (by rfl) ?_ | (refine wpB_text 11 (v := ?_) rfl (by kernel_rfl) (by kernel_rfl) (by kernel_rfl) (by rfl) (fun W hW => ?_) ?_; rotate_left; (obtain ⟨k1, k2, k3, k4⟩ := hW; have c1 := HC.out W k1 ((k + 1) % n) m1; have c2 := HC.out W k1 ((k + 2) % n) m2; go_simp; refine comes_v ?_; exact ⟨k1, k2, k3, k4⟩))
        (try simp only [Act.put, List.setIfInBounds_toArray, List.set_cons_zero, List.set_cons_succ])
        first | refine wpB_skip 12 rfl (by kernel_rfl) (by kernel_rfl) (by kernel_rfl) (by rfl) ?_ | (refine wpB_text 12 (v := ?_) rfl (by kernel_rfl) (by kernel_rfl) (by kernel_rfl) (by rfl) (fun W hW => ?_) ?_; rotate_left; (obtain ⟨k1, k2, k3, k4⟩ := hW; have c1 := HC.out W k1 ((k + 1) % n) m1; have c2 := HC.out W k1 ((k + 2) % n) m2; go_simp; refine comes_v ?_; exact ⟨k1, k2, k3, k4⟩))
        (try simp only [Act.put, List.setIfInBounds_toArray, List.set_cons_zero, List.set_cons_succ])
        first | refine wpB_skip 13 rfl (by kernel_rfl) (by kernel_rfl) (by kernel_rfl) (by rfl) ?_ | (refine wpB_text 13 (v := ?_) rfl (by kernel_rfl) (by kernel_rfl) (by kernel_rfl) (by rfl) (fun W hW => ?_) ?_; rotate_left; (obtain ⟨k1, k2, k3, k4⟩ := hW; have c1 := HC.out W k1 ((k + 1) % n) m1; have c2 := HC.out W k1 ((k + 2) % n) m2; go_simp; refine comes_v ?_; exact ⟨k1, k2, k3, k4⟩))
        (try simp only [Act.put, List.setIfInBounds_toArray, List.set_cons_zero, List.set_cons_succ])
        first | refine wpB_skip 14 rfl (by kernel_rfl) (by kernel_rfl) (by kernel_rfl) (by rfl) ?_ | (refine wpB_text 14 (v := ?_) rfl (by kernel_rfl) (by kernel_rfl) (by kernel_rfl) (by rfl) (fun W hW => ?_) ?_; rotate_left; (obtain ⟨k1, k2, k3, k4⟩ := hW; have c1 := HC.out W k1 ((k + 1) % n) m1; have c2 := HC.out W k1 ((k + 2) % n) m2; go_simp; refine comes_v ?_; exact ⟨k1, k2, k3, k4⟩))
        (try simp only [Act.put, List.setIfInBounds_toArray, List.set_cons_zero, List.set_cons_succ])
        first | refine wpB_skip 15 rfl (by kernel_rfl) (by kernel_rfl) (by kernel_rfl) (by rfl) ?_ | (refine wpB_text 15 (v := .int .i64 t) rfl (by kernel_rfl) (by kernel_rfl) (by kernel_rfl) (by rfl) (fun W hW => ?_) ?_; (obtain ⟨k1, k2, k3, k4⟩ := hW; have c1 := HC.out W k1 ((k + 1) % n) m1; have c2 := HC.out W k1 ((k + 2) % n) m2; go_simp; exact comes_c ( T.out _) (fun wn hbn => box_keep ⟨k1, k2, k3, k4⟩ hbn)))
        (try simp only [Act.put, List.setIfInBounds_toArray, List.set_cons_zero, List.set_cons_succ])
        first | refine wpB_skip 16 rfl (by kernel_rfl) (by kernel_rfl) (by kernel_rfl) (by rfl) ?_ | (refine wpB_text 16 (v := .int .i64 st) rfl (by kernel_rfl) (by kernel_rfl) (by kernel_rfl) (by rfl) (fun W hW => ?_) ?_; (obtain ⟨k1, k2, k3, k4⟩ := hW; have c1 := HC.out W k1 ((k + 1) % n) m1; have c2 := HC.out W k1 ((k + 2) % n) m2; go_simp; exact comes_q ( KS1.out _) ⟨k1, k2, k3, k4⟩))
        (try simp only [Act.put, List.setIfInBounds_toArray, List.set_cons_zero, List.set_cons_succ])
        first | refine wpB_skip 17 rfl (by kernel_rfl) (by kernel_rfl) (by kernel_rfl) (by rfl) ?_ | (refine wpB_text 17 (v := ?_) rfl (by kernel_rfl) (by kernel_rfl) (by kernel_rfl) (by rfl) (fun W hW => ?_) ?_; rotate_left; (obtain ⟨k1, k2, k3, k4⟩ := hW; have c1 := HC.out W k1 ((k + 1) % n) m1; have c2 := HC.out W k1 ((k + 2) % n) m2; go_simp; refine comes_v ?_; exact ⟨k1, k2, k3, k4⟩))
        (try simp only [Act.put, List.setIfInBounds_toArray, List.set_cons_zero, List.set_cons_succ])
        first | refine wpB_skip 18 rfl (by kernel_rfl) (by kernel_rfl) (by kernel_rfl) (by rfl) ?_ | (refine wpB_text 18 (v := ?_) rfl (by kernel_rfl) (by kernel_rfl) (by kernel_rfl) (by rfl) (fun W hW => ?_) ?_; rotate_left; (obtain ⟨k1, k2, k3, k4⟩ := hW; have c1 := HC.out W k1 ((k + 1) % n) m1; have c2 := HC.out W k1 ((k + 2) % n) m2; go_simp; refine comes_v ?_; exact ⟨k1, k2, k3, k4⟩))
        (try simp only [Act.put, List.setIfInBounds_toArray, List.set_cons_zero, List.set_cons_succ])
        refine wpB_done (by kernel_rfl) ?_ _
        intro W hW; obtain ⟨k1, k2, k3, k4⟩ := hW
        clear e1 e2 e3 e4 e5 e6 f1 f3 f4 f5 f6
        go_wp2_with fail
        go_roundg (n - (k + 1))
        case measure => have := HGK.out; omega
        case rel => exact ⟨k + 1, by omega, rfl, by go_num, k1, hh2⟩
      · have hd : (st == sa) = false := by simpa using hs
        have hfl := Lib.hid (HN1.out hs)
        refine wp_region_B (fun W => Below w.heap.size w W ∧ wo.heap.size < W.heap.size ∧ W.cell? ⟨wo.heap.size, 0, none⟩ = some (.int .i64 (vx l k).1) ∧ W.cell? ⟨wo.heap.size, 1, none⟩ = some (.int .i64 (vx l k).2)) (by kernel_rfl) ⟨hb1.drew, by simp, by go_simp, by go_simp⟩ ?_
        clear hq hb1
        first | refine wpB_skip 0 rfl (by kernel_rfl) (by kernel_rfl) (by kernel_rfl) (by rfl) ?_ | (refine wpB_text 0 (v := ?_) rfl (by kernel_rfl) (by kernel_rfl) (by kernel_rfl) (by rfl) (fun W hW => ?_) ?_; rotate_left; (obtain ⟨k1, k2, k3, k4⟩ := hW; have c1 := HC.out W k1 ((k + 1) % n) m1; have c2 := HC.out W k1 ((k + 2) % n) m2; go_simp; refine comes_v ?_; exact ⟨k1, k2, k3, k4⟩))
        (try simp only [Act.put, List.setIfInBounds_toArray, List.set_cons_zero, List.set_cons_succ])
        first | refine wpB_skip 1 rfl (by kernel_rfl) (by kernel_rfl) (by kernel_rfl) (by rfl) ?_ | (refine wpB_text 1 (v := ?_) rfl (by kernel_rfl) (by kernel_rfl) (by kernel_rfl) (by rfl) (fun W hW => ?_) ?_; rotate_left; (obtain ⟨k1, k2, k3, k4⟩ := hW; have c1 := HC.out W k1 ((k + 1) % n) m1; have c2 := HC.out W k1 ((k + 2) % n) m2; go_simp; refine comes_v ?_; exact ⟨k1, k2, k3, k4⟩))
        (try simp only [Act.put, List.setIfInBounds_toArray, List.set_cons_zero, List.set_cons_succ])
        first | refine wpB_skip 2 rfl (by kernel_rfl) (by kernel_rfl) (by kernel_rfl) (by rfl) ?_ | (refine wpB_text 2 (v := ?_) rfl (by kernel_rfl) (by kernel_rfl) (by kernel_rfl) (by rfl) (fun W hW => ?_) ?_; rotate_left; (obtain ⟨k1, k2, k3, k4⟩ := hW; have c1 := HC.out W k1 ((k + 1) % n) m1; have c2 := HC.out W k1 ((k + 2) % n) m2; go_simp; refine comes_v ?_; exact ⟨k1, k2, k3, k4⟩))
        (try simp only [Act.put, List.setIfInBounds_toArray, List.set_cons_zero, List.set_cons_succ])
        first | refine wpB_skip 3 rfl (by kernel_rfl) (by kernel_rfl) (by kernel_rfl) (by rfl) ?_ | (refine wpB_text 3 (v := ?_) rfl (by kernel_rfl) (by kernel_rfl) (by kernel_rfl) (by rfl) (fun W hW => ?_) ?_; rotate_left; (obtain ⟨k1, k2, k3, k4⟩ := hW; have c1 := HC.out W k1 ((k + 1) % n) m1; have c2 := HC.out W k1 ((k + 2) % n) m2; go_simp; refine comes_v ?_; exact ⟨k1, k2, k3, k4⟩))
        (try simp only [Act.put, List.setIfInBounds_toArray, List.set_cons_zero, List.set_cons_succ])
        first | refine wpB_skip 4 rfl (by kernel_rfl) (by kernel_rfl) (by kernel_rfl) (by rfl) ?_ | (refine wpB_text 4 (v := ?_) rfl (by kernel_rfl) (by kernel_rfl) (by kernel_rfl) (by rfl) (fun W hW => ?_) ?_; rotate_left; (obtain ⟨k1, k2, k3, k4⟩ := hW; have c1 := HC.out W k1 ((k + 1) % n) m1; have c2 := HC.out W k1 ((k + 2) % n) m2; go_simp; refine comes_v ?_; exact ⟨k1, k2, k3, k4⟩))
        (try simp only [Act.put, List.setIfInBounds_toArray, List.set_cons_zero, List.set_cons_succ])
        first | refine wpB_skip 5 rfl (by kernel_rfl) (by kernel_rfl) (by kernel_rfl) (by rfl) ?_ | (refine wpB_text 5 (v := ?_) rfl (by kernel_rfl) (by kernel_rfl) (by kernel_rfl) (by rfl) (fun W hW => ?_) ?_; rotate_left; (obtain ⟨k1, k2, k3, k4⟩ := hW; have c1 := HC.out W k1 ((k + 1) % n) m1; have c2 := HC.out W k1 ((k + 2) % n) m2; go_simp; refine comes_v ?_; exact ⟨k1, k2, k3, k4⟩))
        (try simp only [Act.put, List.setIfInBounds_toArray, List.set_cons_zero, List.set_cons_succ])
        first | refine wpB_skip 6 rfl (by kernel_rfl) (by kernel_rfl) (by kernel_rfl) (by rfl) ?_ | (refine wpB_text 6 (v := ?_) rfl (by kernel_rfl) (by kernel_rfl) (by kernel_rfl) (by rfl) (fun W hW => ?_) ?_; rotate_left; (obtain ⟨k1, k2, k3, k4⟩ := hW; have c1 := HC.out W k1 ((k + 1) % n) m1; have c2 := HC.out W k1 ((k + 2) % n) m2; go_simp; refine comes_v ?_; exact ⟨k1, k2, k3, k4⟩))
        (try simp only [Act.put, List.setIfInBounds_toArray, List.set_cons_zero, List.set_cons_succ])
        first | refine wpB_skip 7 rfl (by kernel_rfl) (by kernel_rfl) (by kernel_rfl) (by rfl) ?_ | (refine wpB_text 7 (v := ?_) rfl (by kernel_rfl) (by kernel_rfl) (by kernel_rfl) (by rfl) (fun W hW => ?_) ?_; rotate_left; (obtain ⟨k1, k2, k3, k4⟩ := hW; have c1 := HC.out W k1 ((k + 1) % n) m1; have c2 := HC.out W k1 ((k + 2) % n) m2; go_simp; refine comes_v ?_; exact ⟨k1, k2, k3, k4⟩))
        (try simp only [Act.put, List.setIfInBounds_toArray, List.set_cons_zero, List.set_cons_succ])
        first | refine wpB_skip 8 rfl (by kernel_rfl) (by kernel_rfl) (by kernel_rfl) (by rfl) ?_ | (refine wpB_text 8 (v := ?_) rfl (by kernel_rfl) (by kernel_rfl) (by kernel_rfl) (by rfl) (fun W hW => ?_) ?_; rotate_left; (obtain ⟨k1, k2, k3, k4⟩ := hW; have c1 := HC.out W k1 ((k + 1) % n) m1; have c2 := HC.out W k1 ((k + 2) % n) m2; go_simp; refine comes_v ?_; exact ⟨k1, k2, k3, k4⟩))
        (try simp only [Act.put, List.setIfInBounds_toArray, List.set_cons_zero, List.set_cons_succ])
        first | refine wpB_skip 9 rfl (by kernel_rfl) (by kernel_rfl) (by kernel_rfl) (by rfl) ?_ | (refine wpB_text 9 (v := ?_) rfl (by kernel_rfl) (by kernel_rfl) (by kernel_rfl) (by rfl) (fun W hW => ?_) ?_; rotate_left; (obtain ⟨k1, k2, k3, k4⟩ := hW; have c1 := HC.out W k1 ((k + 1) % n) m1; have c2 := HC.out W k1 ((k + 2) % n) m2; go_simp; refine comes_v ?_; exact ⟨k1, k2, k3, k4⟩))
        (try simp only [Act.put, List.setIfInBounds_toArray, List.set_cons_zero, List.set_cons_succ])
        first | refine wpB_skip 10 rfl (by kernel_rfl) (by kernel_rfl) (by kernel_rfl) (by rfl) ?_ | (refine wpB_text 10 (v := ?_) rfl (by kernel_rfl) (by kernel_rfl) (by kernel_rfl) (by rfl) (fun W hW => ?_) ?_; rotate_left; (obtain ⟨k1, k2, k3, k4⟩ := hW; have c1 := HC.out W k1 ((k + 1) % n) m1; have c2 := HC.out W k1 ((k + 2) % n) m2; go_simp; refine comes_v ?_; exact ⟨k1, k2, k3, k4⟩))
        (try simp only [Act.put, List.setIfInBounds_toArray, List.set_cons_zero, List.set_cons_succ])
        first | refine wpB_skip 11 rfl (by kernel_rfl) (by kernel_rfl) (by kernel_rfl) (by rfl) ?_ | (refine wpB_text 11 (v := ?_) rfl (by kernel_rfl) (by kernel_rfl) (by kernel_rfl) (by rfl) (fun W hW => ?_) ?_; rotate_left; (obtain ⟨k1, k2, k3, k4⟩ := hW; have c1 := HC.out W k1 ((k + 1) % n) m1; have c2 := HC.out W k1 ((k + 2) % n) m2; go_simp; refine comes_v ?_; exact ⟨k1, k2, k3, k4⟩))
        (try simp only [Act.put, List.setIfInBounds_toArray, List.set_cons_zero, List.set_cons_succ])
        first | refine wpB_skip 12 rfl (by kernel_rfl) (by kernel_rfl) (by kernel_rfl) (by rfl) ?_ | (refine wpB_text 12 (v := ?_) rfl (by kernel_rfl) (by kernel_rfl) (by kernel_rfl) (by rfl) (fun W hW => ?_) ?_; rotate_left; (obtain ⟨k1, k2, k3, k4⟩ := hW; have c1 := HC.out W k1 ((k + 1) % n) m1; have c2 := HC.out W k1 ((k + 2) % n) m2; go_simp; refine comes_v ?_; exact ⟨k1, k2, k3, k4⟩))
        (try simp only [Act.put, List.setIfInBounds_toArray, List.set_cons_zero, List.set_cons_succ])
        first | refine wpB_skip 13 rfl (by kernel_rfl) (by kernel_rfl) (by kernel_rfl) (by rfl) ?_ | (refine wpB_text 13 (v := ?_) rfl (by kernel_rfl) (by kernel_rfl) (by kernel_rfl) (by rfl) (fun W hW => ?_) ?_; rotate_left; (obtain ⟨k1, k2, k3, k4⟩ := hW; have c1 := HC.out W k1 ((k + 1) % n) m1; have c2 := HC.out W k1 ((k + 2) % n) m2; go_simp; refine comes_v ?_; exact ⟨k1, k2, k3, k4⟩))
        (try simp only [Act.put, List.setIfInBounds_toArray, List.set_cons_zero, List.set_cons_succ])
        first | refine wpB_skip 14 rfl (by kernel_rfl) (by kernel_rfl) (by kernel_rfl) (by rfl) ?_ | (refine wpB_text 14 (v := ?_) rfl (by kernel_rfl) (by kernel_rfl) (by kernel_rfl) (by rfl) (fun W hW => ?_) ?_; rotate_left; (obtain ⟨k1, k2, k3, k4⟩ := hW; have c1 := HC.out W k1 ((k + 1) % n) m1; have c2 := HC.out W k1 ((k + 2) % n) m2; go_simp; refine comes_v ?_; exact ⟨k1, k2, k3, k4⟩))
        (try simp only [Act.put, List.setIfInBounds_toArray, List.set_cons_zero, List.set_cons_succ])
        first | refine wpB_skip 15 rfl (by kernel_rfl) (by kernel_rfl) (by kernel_rfl) (by rfl) ?_ | (refine wpB_text 15 (v := .int .i64 t) rfl (by kernel_rfl) (by kernel_rfl) (by kernel_rfl) (by rfl) (fun W hW => ?_) ?_; (obtain ⟨k1, k2, k3, k4⟩ := hW; have c1 := HC.out W k1 ((k + 1) % n) m1; have c2 := HC.out W k1 ((k + 2) % n) m2; go_simp; exact comes_c ( T.out _) (fun wn hbn => box_keep ⟨k1, k2, k3, k4⟩ hbn)))
        (try simp only [Act.put, List.setIfInBounds_toArray, List.set_cons_zero, List.set_cons_succ])
        first | refine wpB_skip 16 rfl (by kernel_rfl) (by kernel_rfl) (by kernel_rfl) (by rfl) ?_ | (refine wpB_text 16 (v := .int .i64 st) rfl (by kernel_rfl) (by kernel_rfl) (by kernel_rfl) (by rfl) (fun W hW => ?_) ?_; (obtain ⟨k1, k2, k3, k4⟩ := hW; have c1 := HC.out W k1 ((k + 1) % n) m1; have c2 := HC.out W k1 ((k + 2) % n) m2; go_simp; exact comes_q ( KS1.out _) ⟨k1, k2, k3, k4⟩))
        (try simp only [Act.put, List.setIfInBounds_toArray, List.set_cons_zero, List.set_cons_succ])
        first | refine wpB_skip 17 rfl (by kernel_rfl) (by kernel_rfl) (by kernel_rfl) (by rfl) ?_ | (refine wpB_text 17 (v := ?_) rfl (by kernel_rfl) (by kernel_rfl) (by kernel_rfl) (by rfl) (fun W hW => ?_) ?_; rotate_left; (obtain ⟨k1, k2, k3, k4⟩ := hW; have c1 := HC.out W k1 ((k + 1) % n) m1; have c2 := HC.out W k1 ((k + 2) % n) m2; go_simp; refine comes_v ?_; exact ⟨k1, k2, k3, k4⟩))
        (try simp only [Act.put, List.setIfInBounds_toArray, List.set_cons_zero, List.set_cons_succ])
        first | refine wpB_skip 18 rfl (by kernel_rfl) (by kernel_rfl) (by kernel_rfl) (by rfl) ?_ | (refine wpB_text 18 (v := ?_) rfl (by kernel_rfl) (by kernel_rfl) (by kernel_rfl) (by rfl) (fun W hW => ?_) ?_; rotate_left; (obtain ⟨k1, k2, k3, k4⟩ := hW; have c1 := HC.out W k1 ((k + 1) % n) m1; have c2 := HC.out W k1 ((k + 2) % n) m2; go_simp; refine comes_v ?_; exact ⟨k1, k2, k3, k4⟩))
        (try simp only [Act.put, List.setIfInBounds_toArray, List.set_cons_zero, List.set_cons_succ])
        refine wpB_done (by kernel_rfl) ?_ _
        intro W hW; obtain ⟨k1, k2, k3, k4⟩ := hW
        clear e1 e2 e3 e4 e5 e6 f1 f3 f4 f5 f6
        go_wp2_with fail
        go_ret
        exact ⟨ret_bool hfl.out.symm, k1⟩
    · have hkn : n = k := by omega
      subst hkn
      have hy : Hid (convB l = true) := Lib.hid (HT.out (by rw [HD.out]; exact fun i hi => hH.out i (by have := HN.out; omega)))
      go_wp2_with fail
      go_ret
      exact ⟨ret_bool hy.out.symm, hB⟩
end Go.Proofs.Ytjkfdcjfoliboaa
