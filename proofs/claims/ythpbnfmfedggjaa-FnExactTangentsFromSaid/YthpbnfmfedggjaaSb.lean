/- contracts: the model's count of steps around a polygon, of points inside -/
import Derived.Test.YthpbnfmfedggjaaSa
import Derived.Test.YthpbnfmfedggjaaMps
namespace Go.Proofs.Ythpbnfmfedggjaa
open Go.ChangeShapes Go.WideShapes Go.ChangeAt Go.RowKit Go.Joins
set_option linter.unusedVariables false
set_option linter.unusedSimpArgs false
set_option maxRecDepth 4000
theorem box_keep {w wo W W' : World} {x y : Int} (h : Below w.heap.size w W ∧ wo.heap.size < W.heap.size ∧ W.cell? ⟨wo.heap.size, 0, none⟩ = some (.int .i64 x) ∧ W.cell? ⟨wo.heap.size, 1, none⟩ = some (.int .i64 y)) (hb : Below W.heap.size W W') :
    Below w.heap.size w W' ∧ wo.heap.size < W'.heap.size ∧ W'.cell? ⟨wo.heap.size, 0, none⟩ = some (.int .i64 x) ∧ W'.cell? ⟨wo.heap.size, 1, none⟩ = some (.int .i64 y) := by
  obtain ⟨h1, h2, h3, h4⟩ := h
  have hc := (bcell hb).1
  have hz := hb.size
  exact ⟨h1.trans (hb.mono h1.size), by omega, by rw [hc _ _ h2, h3], by rw [hc _ _ h2, h4]⟩
set_option maxHeartbeats 2000000 in
theorem pgRoundW_any (A : Option Addr) (c : Nat) (l : List (Int × Int)) (w : World) (h3 : 1 ≤ l.length) (hn : l.length ≤ 60) (hp : ∀ i, i < l.length → isPg (vx l i) = true) (hR : Rd w w.heap.size A l) :
    Calls Try.prog 57 #[.slice A l.length c] w fun e w' => e = .returned (.int .i64 (onN l)) ∧ Below w.heap.size w w' := by
  obtain ⟨b, off, rfl, hb, HC⟩ := pts_of (by omega) hR
  have ZP := Lib.hid (fun i => pgs_sz hp i (by omega))
  have HB := Lib.hid (fun k => rn_bd hp (by omega) k)
  have HS : Hid (∀ k, Rn l (k + 1) = Rn l k + stepN (vx l k).1 (vx l k).2 (vx l (k + 1)).1 (vx l (k + 1)).2) := Lib.hid (fun k => rfl)
  have H0 : Hid (Rn l 0 = 0) := Lib.hid rfl
  unfold onN
  clear hp hR
  generalize hN : l.length = n at *
  have HN := Lib.hid hN
  clear hN
  go_enter Try.func57, Try.ntmps57
  go_wp2_with fail
  go_loopg [3, 8] n (fun g s i wr => ∃ k : Nat, k ≤ n ∧ g = n - k ∧ i = .int .i64 k ∧ s = .int .i64 (Rn l k) ∧ Below w.heap.size w wr)
  case atStart => exact ⟨0, by omega, by omega, rfl, by rw [H0.out], Below.refl _ _⟩
  case round =>
    obtain ⟨k, hk, hg, rfl, rfl, hB⟩ := hrel
    rename World => wo
    have HGK := Lib.hid hg
    clear hg
    by_cases hlt : k < n
    · have m2 : (k + 1) % n < n := Nat.mod_lt _ (by omega)
      have T := Lib.hid (fun W => (show Calls Try.prog 56 #[.agg #[.int .i64 (vx l k).1, .int .i64 (vx l k).2], .agg #[.int .i64 (vx l ((k + 1) % n)).1, .int .i64 (vx l ((k + 1) % n)).2]] W fun e w' => e = .returned (.int .i64 (stepN (vx l k).1 (vx l k).2 (vx l (k + 1)).1 (vx l (k + 1)).2)) ∧ Below W.heap.size W w' from by
        rw [← HN.out, vx_per]; exact pgStep_any _ _ _ _ W (ZP.out _) (ZP.out _)))
      have e0 := HS.out k
      obtain ⟨b1, b2⟩ := HB.out (k + 1)
      rw [e0] at b1 b2
      have E0 := Lib.hid e0
      clear e0
      generalize stepN (vx l k).1 (vx l k).2 (vx l (k + 1)).1 (vx l (k + 1)).2 = t at *
      generalize hs : Rn l k = s at *
      have HSS := Lib.hid hs
      clear hs
      have hq := HC.out wo hB k hlt
      have hzB := hB.size
      have hb1 := Below.alloc hB hzB (.cells #[.int .i64 (vx l k).1, .int .i64 (vx l k).2] 38)
      have b4 : IntKind.i64.wrap (s + t) = s + t := IntWalk.i64_in _ (by omega)
      have HB4 := Lib.hid b4
      clear b4
      go_wp2_with fail
      have b4 := HB4.out
      have e1 : IntKind.i64.wrap ((k : Int) + 1) = (k : Int) + 1 := IntWalk.i64_in _ (by omega)
      have e2 : ¬ n = 0 := by omega
      have e3 : (0 : Int) ≤ ((k : Int) + 1) % (n : Int) := Int.emod_nonneg _ (by omega)
      have e4 : ((k : Int) + 1) % (n : Int) < (n : Int) := Int.emod_lt_of_pos _ (by omega)
      have e5 : ((k : Int) + 1).tmod (n : Int) = ((k : Int) + 1) % (n : Int) := Int.tmod_eq_emod_of_nonneg (by omega)
      have e6 : (((k : Int) + 1) % (n : Int)).toNat = (k + 1) % n := by rw [show ((k : Int) + 1) % (n : Int) = (((k + 1) % n : Nat) : Int) by simp]; exact Int.toNat_natCast _
      refine wp_region_B (fun W => Below w.heap.size w W ∧ wo.heap.size < W.heap.size ∧ W.cell? ⟨wo.heap.size, 0, none⟩ = some (.int .i64 (vx l k).1) ∧ W.cell? ⟨wo.heap.size, 1, none⟩ = some (.int .i64 (vx l k).2)) (by kernel_rfl) ⟨hb1.drew, by simp, by go_simp, by go_simp⟩ ?_
      clear hq hb1
      first | refine wpB_skip 0 rfl (by kernel_rfl) (by kernel_rfl) (by kernel_rfl) (by rfl) ?_ | (refine wpB_text 0 (v := ?_) rfl (by kernel_rfl) (by kernel_rfl) (by kernel_rfl) (by rfl) (fun W hW => ?_) ?_; rotate_left; (obtain ⟨k1, k2, k3, k4⟩ := hW; have c1 := HC.out W k1 ((k + 1) % n) m2; go_simp; refine comes_v ?_; exact ⟨k1, k2, k3, k4⟩))
      (try simp only [Act.put, List.setIfInBounds_toArray, List.set_cons_zero, List.set_cons_succ])
      first | refine wpB_skip 1 rfl (by kernel_rfl) (by kernel_rfl) (by kernel_rfl) (by rfl) ?_ | (refine wpB_text 1 (v := ?_) rfl (by kernel_rfl) (by kernel_rfl) (by kernel_rfl) (by rfl) (fun W hW => ?_) ?_; rotate_left; (obtain ⟨k1, k2, k3, k4⟩ := hW; have c1 := HC.out W k1 ((k + 1) % n) m2; go_simp; refine comes_v ?_; exact ⟨k1, k2, k3, k4⟩))
      (try simp only [Act.put, List.setIfInBounds_toArray, List.set_cons_zero, List.set_cons_succ])
      first | refine wpB_skip 2 rfl (by kernel_rfl) (by kernel_rfl) (by kernel_rfl) (by rfl) ?_ | (refine wpB_text 2 (v := ?_) rfl (by kernel_rfl) (by kernel_rfl) (by kernel_rfl) (by rfl) (fun W hW => ?_) ?_; rotate_left; (obtain ⟨k1, k2, k3, k4⟩ := hW; have c1 := HC.out W k1 ((k + 1) % n) m2; go_simp; refine comes_v ?_; exact ⟨k1, k2, k3, k4⟩))
      (try simp only [Act.put, List.setIfInBounds_toArray, List.set_cons_zero, List.set_cons_succ])
      first | refine wpB_skip 3 rfl (by kernel_rfl) (by kernel_rfl) (by kernel_rfl) (by rfl) ?_ | (refine wpB_text 3 (v := ?_) rfl (by kernel_rfl) (by kernel_rfl) (by kernel_rfl) (by rfl) (fun W hW => ?_) ?_; rotate_left; (obtain ⟨k1, k2, k3, k4⟩ := hW; have c1 := HC.out W k1 ((k + 1) % n) m2; go_simp; refine comes_v ?_; exact ⟨k1, k2, k3, k4⟩))
      (try simp only [Act.put, List.setIfInBounds_toArray, List.set_cons_zero, List.set_cons_succ])
      first | refine wpB_skip 4 rfl (by kernel_rfl) (by kernel_rfl) (by kernel_rfl) (by rfl) ?_ | (refine wpB_text 4 (v := ?_) rfl (by kernel_rfl) (by kernel_rfl) (by kernel_rfl) (by rfl) (fun W hW => ?_) ?_; rotate_left; (obtain ⟨k1, k2, k3, k4⟩ := hW; have c1 := HC.out W k1 ((k + 1) % n) m2; go_simp; refine comes_v ?_; exact ⟨k1, k2, k3, k4⟩))
      (try simp only [Act.put, List.setIfInBounds_toArray, List.set_cons_zero, List.set_cons_succ])
      first | refine wpB_skip 5 rfl (by kernel_rfl) (by kernel_rfl) (by kernel_rfl) (by rfl) ?_ | (refine wpB_text 5 (v := ?_) rfl (by kernel_rfl) (by kernel_rfl) (by kernel_rfl) (by rfl) (fun W hW => ?_) ?_; rotate_left; (obtain ⟨k1, k2, k3, k4⟩ := hW; have c1 := HC.out W k1 ((k + 1) % n) m2; go_simp; refine comes_v ?_; exact ⟨k1, k2, k3, k4⟩))
      (try simp only [Act.put, List.setIfInBounds_toArray, List.set_cons_zero, List.set_cons_succ])
      first | refine wpB_skip 6 rfl (by kernel_rfl) (by kernel_rfl) (by kernel_rfl) (by rfl) ?_ | (refine wpB_text 6 (v := ?_) rfl (by kernel_rfl) (by kernel_rfl) (by kernel_rfl) (by rfl) (fun W hW => ?_) ?_; rotate_left; (obtain ⟨k1, k2, k3, k4⟩ := hW; have c1 := HC.out W k1 ((k + 1) % n) m2; go_simp; refine comes_v ?_; exact ⟨k1, k2, k3, k4⟩))
      (try simp only [Act.put, List.setIfInBounds_toArray, List.set_cons_zero, List.set_cons_succ])
      first | refine wpB_skip 7 rfl (by kernel_rfl) (by kernel_rfl) (by kernel_rfl) (by rfl) ?_ | (refine wpB_text 7 (v := ?_) rfl (by kernel_rfl) (by kernel_rfl) (by kernel_rfl) (by rfl) (fun W hW => ?_) ?_; rotate_left; (obtain ⟨k1, k2, k3, k4⟩ := hW; have c1 := HC.out W k1 ((k + 1) % n) m2; go_simp; refine comes_v ?_; exact ⟨k1, k2, k3, k4⟩))
      (try simp only [Act.put, List.setIfInBounds_toArray, List.set_cons_zero, List.set_cons_succ])
      first | refine wpB_skip 8 rfl (by kernel_rfl) (by kernel_rfl) (by kernel_rfl) (by rfl) ?_ | (refine wpB_text 8 (v := ?_) rfl (by kernel_rfl) (by kernel_rfl) (by kernel_rfl) (by rfl) (fun W hW => ?_) ?_; rotate_left; (obtain ⟨k1, k2, k3, k4⟩ := hW; have c1 := HC.out W k1 ((k + 1) % n) m2; go_simp; refine comes_v ?_; exact ⟨k1, k2, k3, k4⟩))
      (try simp only [Act.put, List.setIfInBounds_toArray, List.set_cons_zero, List.set_cons_succ])
      first | refine wpB_skip 9 rfl (by kernel_rfl) (by kernel_rfl) (by kernel_rfl) (by rfl) ?_ | (refine wpB_text 9 (v := ?_) rfl (by kernel_rfl) (by kernel_rfl) (by kernel_rfl) (by rfl) (fun W hW => ?_) ?_; rotate_left; (obtain ⟨k1, k2, k3, k4⟩ := hW; have c1 := HC.out W k1 ((k + 1) % n) m2; go_simp; refine comes_v ?_; exact ⟨k1, k2, k3, k4⟩))
      (try simp only [Act.put, List.setIfInBounds_toArray, List.set_cons_zero, List.set_cons_succ])
      first | refine wpB_skip 10 rfl (by kernel_rfl) (by kernel_rfl) (by kernel_rfl) (by rfl) ?_ | (refine wpB_text 10 (v := .int .i64 t) rfl (by kernel_rfl) (by kernel_rfl) (by kernel_rfl) (by rfl) (fun W hW => ?_) ?_; (obtain ⟨k1, k2, k3, k4⟩ := hW; have c1 := HC.out W k1 ((k + 1) % n) m2; go_simp; exact comes_c ( T.out _) (fun wn hbn => box_keep ⟨k1, k2, k3, k4⟩ hbn)))
      (try simp only [Act.put, List.setIfInBounds_toArray, List.set_cons_zero, List.set_cons_succ])
      first | refine wpB_skip 11 rfl (by kernel_rfl) (by kernel_rfl) (by kernel_rfl) (by rfl) ?_ | (refine wpB_text 11 (v := ?_) rfl (by kernel_rfl) (by kernel_rfl) (by kernel_rfl) (by rfl) (fun W hW => ?_) ?_; rotate_left; (obtain ⟨k1, k2, k3, k4⟩ := hW; have c1 := HC.out W k1 ((k + 1) % n) m2; go_simp; refine comes_v ?_; exact ⟨k1, k2, k3, k4⟩))
      (try simp only [Act.put, List.setIfInBounds_toArray, List.set_cons_zero, List.set_cons_succ])
      first | refine wpB_skip 12 rfl (by kernel_rfl) (by kernel_rfl) (by kernel_rfl) (by rfl) ?_ | (refine wpB_text 12 (v := ?_) rfl (by kernel_rfl) (by kernel_rfl) (by kernel_rfl) (by rfl) (fun W hW => ?_) ?_; rotate_left; (obtain ⟨k1, k2, k3, k4⟩ := hW; have c1 := HC.out W k1 ((k + 1) % n) m2; go_simp; refine comes_v ?_; exact ⟨k1, k2, k3, k4⟩))
      (try simp only [Act.put, List.setIfInBounds_toArray, List.set_cons_zero, List.set_cons_succ])
      refine wpB_done (by kernel_rfl) ?_ _
      intro W hW; obtain ⟨k1, k2, k3, k4⟩ := hW
      clear e1 e2 e3 e4 e5 e6 b4
      go_wp2_with fail
      go_roundg (n - (k + 1))
      case measure => have := HGK.out; omega
      case rel => exact ⟨k + 1, by omega, rfl, by go_num, by rw [E0.out], k1⟩
    · have hkn : n = k := by omega
      subst hkn
      go_wp2_with fail
      go_ret
      exact ⟨rfl, hB⟩
theorem pgRound_any (A : Option Addr) (c : Nat) (l : List (Int × Int)) (w : World) (h3 : 1 ≤ l.length) (hn : l.length ≤ 10) (hp : ∀ i, i < l.length → isPg (vx l i) = true) (hR : Rd w w.heap.size A l) :
    Calls Try.prog 57 #[.slice A l.length c] w fun e w' => e = .returned (.int .i64 (onN l)) ∧ Below w.heap.size w w' := pgRoundW_any A c l w h3 (by omega) hp hR
end Go.Proofs.Ythpbnfmfedggjaa
