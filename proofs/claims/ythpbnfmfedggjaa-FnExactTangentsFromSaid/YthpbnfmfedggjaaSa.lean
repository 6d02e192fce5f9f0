/- contracts: the model's sums around a polygon -/
import Derived.Test.YthpbnfmfedggjaaSax
namespace Go.Proofs.Ythpbnfmfedggjaa
open Go.ChangeShapes Go.WideShapes Go.ChangeAt Go.RowKit Go.Joins
set_option linter.unusedVariables false
set_option linter.unusedSimpArgs false
set_option maxRecDepth 4000
set_option maxHeartbeats 2000000 in
theorem pgAreaW_any (A : Option Addr) (c : Nat) (l : List (Int × Int)) (w : World) (h3 : 3 ≤ l.length) (hn : l.length ≤ 60) (hp : ∀ i, i < l.length → isPg (vx l i) = true) (hR : Rd w w.heap.size A l) :
    Calls Try.prog 53 #[.slice A l.length c] w fun e w' => e = .returned (.int .i64 (areaN l)) ∧ Below w.heap.size w w' := by
  obtain ⟨b, off, rfl, hb, HC⟩ := pts_of (by omega) hR
  have ZP := Lib.hid (fun i => pgs_sz hp i (by omega))
  have HA := Lib.hid (fan_all l h3)
  have HB := Lib.hid (fun i h => fan_bdW hp (by omega) i h)
  have H2 := fan_two l
  have HS := Lib.hid (fun i h => fan_step l i h)
  clear hp hR
  generalize hN : l.length = n at *
  have HN := Lib.hid hN
  clear hN
  go_enter Try.func53, Try.ntmps53
  go_wp2_with fail
  go_loopg [3, 4] (n - 2) (fun g s i wr => ∃ k : Nat, 2 ≤ k ∧ k ≤ n ∧ g = n - k ∧ i = .int .i64 k ∧ s = .int .i64 (fanTo l k) ∧ Below w.heap.size w wr)
  case atStart => exact ⟨2, Nat.le_refl _, by omega, by omega, rfl, by rw [H2], Below.refl _ _⟩
  case round =>
    clear H2
    obtain ⟨k, hk2, hk, hg, rfl, rfl, hB⟩ := hrel
    rename World => wo
    have HGK := Lib.hid hg
    clear hg
    by_cases hlt : k < n
    · have T := Lib.hid (fun W => (show Calls Try.prog 69 #[.agg #[.int .i64 (vx l 0).1, .int .i64 (vx l 0).2], .agg #[.int .i64 (vx l (k - 1)).1, .int .i64 (vx l (k - 1)).2], .agg #[.int .i64 (vx l k).1, .int .i64 (vx l k).2]] W fun e w' => e = .returned (.int .i64 (twP (vx l 0) (vx l (k - 1)) (vx l k))) ∧ Below W.heap.size W w' from
        pgTurn_any _ _ _ _ _ _ W (ZP.out _) (ZP.out _) (ZP.out _)))
      have e0 := HS.out k hk2
      obtain ⟨b1, b2⟩ := HB.out (k + 1) (by omega)
      rw [e0] at b1 b2
      have E0 := Lib.hid e0
      clear e0
      generalize twP (vx l 0) (vx l (k - 1)) (vx l k) = t at *
      generalize hs : fanTo l k = s at *
      have HSS := Lib.hid hs
      clear hs
      have e1 : IntKind.i64.wrap ((k : Int) - 1) = (k : Int) - 1 := IntWalk.i64_in _ (by omega)
      have e2 : ((k : Int) - 1).toNat = k - 1 := by omega
      have e3 : (0 : Int) ≤ (k : Int) - 1 := by omega
      have e5 : (k : Int) - 1 < (n : Int) := by omega
      have e4 : IntKind.i64.wrap (s + t) = s + t := IntWalk.i64_in _ (by omega)
      go_wp2_with fail
      have e6 : 0 < n := by omega
      have e7 : (1 : Int) ≤ (k : Int) := by omega
      refine wp_region_B (fun W => Below w.heap.size w W) (by kernel_rfl) hB.drew ?_
      first | refine wpB_skip 0 rfl (by kernel_rfl) (by kernel_rfl) (by kernel_rfl) (by rfl) ?_ | (refine wpB_text 0 (v := ?_) rfl (by kernel_rfl) (by kernel_rfl) (by kernel_rfl) (by rfl) (fun W hW => ?_) ?_; rotate_left; (have k1 := hW; have c0 := HC.out W k1 0 (by omega); have c1 := HC.out W k1 (k - 1) (by omega); have c2 := HC.out W k1 k hlt; simp only [Nat.zero_mul, Nat.add_zero] at c0; go_simp; refine comes_v ?_; exact k1))
      (try simp only [Act.put, List.setIfInBounds_toArray, List.set_cons_zero, List.set_cons_succ])
      first | refine wpB_skip 1 rfl (by kernel_rfl) (by kernel_rfl) (by kernel_rfl) (by rfl) ?_ | (refine wpB_text 1 (v := ?_) rfl (by kernel_rfl) (by kernel_rfl) (by kernel_rfl) (by rfl) (fun W hW => ?_) ?_; rotate_left; (have k1 := hW; have c0 := HC.out W k1 0 (by omega); have c1 := HC.out W k1 (k - 1) (by omega); have c2 := HC.out W k1 k hlt; simp only [Nat.zero_mul, Nat.add_zero] at c0; go_simp; refine comes_v ?_; exact k1))
      (try simp only [Act.put, List.setIfInBounds_toArray, List.set_cons_zero, List.set_cons_succ])
      first | refine wpB_skip 2 rfl (by kernel_rfl) (by kernel_rfl) (by kernel_rfl) (by rfl) ?_ | (refine wpB_text 2 (v := ?_) rfl (by kernel_rfl) (by kernel_rfl) (by kernel_rfl) (by rfl) (fun W hW => ?_) ?_; rotate_left; (have k1 := hW; have c0 := HC.out W k1 0 (by omega); have c1 := HC.out W k1 (k - 1) (by omega); have c2 := HC.out W k1 k hlt; simp only [Nat.zero_mul, Nat.add_zero] at c0; go_simp; refine comes_v ?_; exact k1))
      (try simp only [Act.put, List.setIfInBounds_toArray, List.set_cons_zero, List.set_cons_succ])
      first | refine wpB_skip 3 rfl (by kernel_rfl) (by kernel_rfl) (by kernel_rfl) (by rfl) ?_ | (refine wpB_text 3 (v := ?_) rfl (by kernel_rfl) (by kernel_rfl) (by kernel_rfl) (by rfl) (fun W hW => ?_) ?_; rotate_left; (have k1 := hW; have c0 := HC.out W k1 0 (by omega); have c1 := HC.out W k1 (k - 1) (by omega); have c2 := HC.out W k1 k hlt; simp only [Nat.zero_mul, Nat.add_zero] at c0; go_simp; refine comes_v ?_; exact k1))
      (try simp only [Act.put, List.setIfInBounds_toArray, List.set_cons_zero, List.set_cons_succ])
      first | refine wpB_skip 4 rfl (by kernel_rfl) (by kernel_rfl) (by kernel_rfl) (by rfl) ?_ | (refine wpB_text 4 (v := ?_) rfl (by kernel_rfl) (by kernel_rfl) (by kernel_rfl) (by rfl) (fun W hW => ?_) ?_; rotate_left; (have k1 := hW; have c0 := HC.out W k1 0 (by omega); have c1 := HC.out W k1 (k - 1) (by omega); have c2 := HC.out W k1 k hlt; simp only [Nat.zero_mul, Nat.add_zero] at c0; go_simp; refine comes_v ?_; exact k1))
      (try simp only [Act.put, List.setIfInBounds_toArray, List.set_cons_zero, List.set_cons_succ])
      first | refine wpB_skip 5 rfl (by kernel_rfl) (by kernel_rfl) (by kernel_rfl) (by rfl) ?_ | (refine wpB_text 5 (v := ?_) rfl (by kernel_rfl) (by kernel_rfl) (by kernel_rfl) (by rfl) (fun W hW => ?_) ?_; rotate_left; (have k1 := hW; have c0 := HC.out W k1 0 (by omega); have c1 := HC.out W k1 (k - 1) (by omega); have c2 := HC.out W k1 k hlt; simp only [Nat.zero_mul, Nat.add_zero] at c0; go_simp; refine comes_v ?_; exact k1))
      (try simp only [Act.put, List.setIfInBounds_toArray, List.set_cons_zero, List.set_cons_succ])
      first | refine wpB_skip 6 rfl (by kernel_rfl) (by kernel_rfl) (by kernel_rfl) (by rfl) ?_ | (refine wpB_text 6 (v := ?_) rfl (by kernel_rfl) (by kernel_rfl) (by kernel_rfl) (by rfl) (fun W hW => ?_) ?_; rotate_left; (have k1 := hW; have c0 := HC.out W k1 0 (by omega); have c1 := HC.out W k1 (k - 1) (by omega); have c2 := HC.out W k1 k hlt; simp only [Nat.zero_mul, Nat.add_zero] at c0; go_simp; refine comes_v ?_; exact k1))
      (try simp only [Act.put, List.setIfInBounds_toArray, List.set_cons_zero, List.set_cons_succ])
      first | refine wpB_skip 7 rfl (by kernel_rfl) (by kernel_rfl) (by kernel_rfl) (by rfl) ?_ | (refine wpB_text 7 (v := ?_) rfl (by kernel_rfl) (by kernel_rfl) (by kernel_rfl) (by rfl) (fun W hW => ?_) ?_; rotate_left; (have k1 := hW; have c0 := HC.out W k1 0 (by omega); have c1 := HC.out W k1 (k - 1) (by omega); have c2 := HC.out W k1 k hlt; simp only [Nat.zero_mul, Nat.add_zero] at c0; go_simp; refine comes_v ?_; exact k1))
      (try simp only [Act.put, List.setIfInBounds_toArray, List.set_cons_zero, List.set_cons_succ])
      first | refine wpB_skip 8 rfl (by kernel_rfl) (by kernel_rfl) (by kernel_rfl) (by rfl) ?_ | (refine wpB_text 8 (v := ?_) rfl (by kernel_rfl) (by kernel_rfl) (by kernel_rfl) (by rfl) (fun W hW => ?_) ?_; rotate_left; (have k1 := hW; have c0 := HC.out W k1 0 (by omega); have c1 := HC.out W k1 (k - 1) (by omega); have c2 := HC.out W k1 k hlt; simp only [Nat.zero_mul, Nat.add_zero] at c0; go_simp; refine comes_v ?_; exact k1))
      (try simp only [Act.put, List.setIfInBounds_toArray, List.set_cons_zero, List.set_cons_succ])
      first | refine wpB_skip 9 rfl (by kernel_rfl) (by kernel_rfl) (by kernel_rfl) (by rfl) ?_ | (refine wpB_text 9 (v := ?_) rfl (by kernel_rfl) (by kernel_rfl) (by kernel_rfl) (by rfl) (fun W hW => ?_) ?_; rotate_left; (have k1 := hW; have c0 := HC.out W k1 0 (by omega); have c1 := HC.out W k1 (k - 1) (by omega); have c2 := HC.out W k1 k hlt; simp only [Nat.zero_mul, Nat.add_zero] at c0; go_simp; refine comes_v ?_; exact k1))
      (try simp only [Act.put, List.setIfInBounds_toArray, List.set_cons_zero, List.set_cons_succ])
      first | refine wpB_skip 10 rfl (by kernel_rfl) (by kernel_rfl) (by kernel_rfl) (by rfl) ?_ | (refine wpB_text 10 (v := ?_) rfl (by kernel_rfl) (by kernel_rfl) (by kernel_rfl) (by rfl) (fun W hW => ?_) ?_; rotate_left; (have k1 := hW; have c0 := HC.out W k1 0 (by omega); have c1 := HC.out W k1 (k - 1) (by omega); have c2 := HC.out W k1 k hlt; simp only [Nat.zero_mul, Nat.add_zero] at c0; go_simp; refine comes_v ?_; exact k1))
      (try simp only [Act.put, List.setIfInBounds_toArray, List.set_cons_zero, List.set_cons_succ])
      first | refine wpB_skip 11 rfl (by kernel_rfl) (by kernel_rfl) (by kernel_rfl) (by rfl) ?_ | (refine wpB_text 11 (v := ?_) rfl (by kernel_rfl) (by kernel_rfl) (by kernel_rfl) (by rfl) (fun W hW => ?_) ?_; rotate_left; (have k1 := hW; have c0 := HC.out W k1 0 (by omega); have c1 := HC.out W k1 (k - 1) (by omega); have c2 := HC.out W k1 k hlt; simp only [Nat.zero_mul, Nat.add_zero] at c0; go_simp; refine comes_v ?_; exact k1))
      (try simp only [Act.put, List.setIfInBounds_toArray, List.set_cons_zero, List.set_cons_succ])
      first | refine wpB_skip 12 rfl (by kernel_rfl) (by kernel_rfl) (by kernel_rfl) (by rfl) ?_ | (refine wpB_text 12 (v := ?_) rfl (by kernel_rfl) (by kernel_rfl) (by kernel_rfl) (by rfl) (fun W hW => ?_) ?_; rotate_left; (have k1 := hW; have c0 := HC.out W k1 0 (by omega); have c1 := HC.out W k1 (k - 1) (by omega); have c2 := HC.out W k1 k hlt; simp only [Nat.zero_mul, Nat.add_zero] at c0; go_simp; refine comes_v ?_; exact k1))
      (try simp only [Act.put, List.setIfInBounds_toArray, List.set_cons_zero, List.set_cons_succ])
      first | refine wpB_skip 13 rfl (by kernel_rfl) (by kernel_rfl) (by kernel_rfl) (by rfl) ?_ | (refine wpB_text 13 (v := .int .i64 t) rfl (by kernel_rfl) (by kernel_rfl) (by kernel_rfl) (by rfl) (fun W hW => ?_) ?_; (have k1 := hW; have c0 := HC.out W k1 0 (by omega); have c1 := HC.out W k1 (k - 1) (by omega); have c2 := HC.out W k1 k hlt; simp only [Nat.zero_mul, Nat.add_zero] at c0; go_simp; exact comes_c ( T.out _) (fun wn hbn => bt_keep k1 hbn)))
      (try simp only [Act.put, List.setIfInBounds_toArray, List.set_cons_zero, List.set_cons_succ])
      first | refine wpB_skip 14 rfl (by kernel_rfl) (by kernel_rfl) (by kernel_rfl) (by rfl) ?_ | (refine wpB_text 14 (v := ?_) rfl (by kernel_rfl) (by kernel_rfl) (by kernel_rfl) (by rfl) (fun W hW => ?_) ?_; rotate_left; (have k1 := hW; have c0 := HC.out W k1 0 (by omega); have c1 := HC.out W k1 (k - 1) (by omega); have c2 := HC.out W k1 k hlt; simp only [Nat.zero_mul, Nat.add_zero] at c0; go_simp; refine comes_v ?_; exact k1))
      (try simp only [Act.put, List.setIfInBounds_toArray, List.set_cons_zero, List.set_cons_succ])
      first | refine wpB_skip 15 rfl (by kernel_rfl) (by kernel_rfl) (by kernel_rfl) (by rfl) ?_ | (refine wpB_text 15 (v := ?_) rfl (by kernel_rfl) (by kernel_rfl) (by kernel_rfl) (by rfl) (fun W hW => ?_) ?_; rotate_left; (have k1 := hW; have c0 := HC.out W k1 0 (by omega); have c1 := HC.out W k1 (k - 1) (by omega); have c2 := HC.out W k1 k hlt; simp only [Nat.zero_mul, Nat.add_zero] at c0; go_simp; refine comes_v ?_; exact k1))
      (try simp only [Act.put, List.setIfInBounds_toArray, List.set_cons_zero, List.set_cons_succ])
      refine wpB_done (by kernel_rfl) ?_ _
      intro W hW; have k1 := hW
      clear e1 e2 e3 e4 e5 e6 e7
      go_wp2_with fail
      go_roundg (n - (k + 1))
      case measure => have := HGK.out; omega
      case rel => exact ⟨k + 1, by omega, by omega, rfl, by go_num, by rw [E0.out], k1⟩
    · have hkn : n = k := by omega
      subst hkn
      rw [HA.out]
      go_wp2_with fail
      go_ret
      exact ⟨rfl, hB⟩
theorem pgArea_any (A : Option Addr) (c : Nat) (l : List (Int × Int)) (w : World) (h3 : 3 ≤ l.length) (hn : l.length ≤ 10) (hp : ∀ i, i < l.length → isPg (vx l i) = true) (hR : Rd w w.heap.size A l) :
    Calls Try.prog 53 #[.slice A l.length c] w fun e w' => e = .returned (.int .i64 (areaN l)) ∧ Below w.heap.size w w' := pgAreaW_any A c l w h3 (by omega) hp hR
end Go.Proofs.Ythpbnfmfedggjaa
