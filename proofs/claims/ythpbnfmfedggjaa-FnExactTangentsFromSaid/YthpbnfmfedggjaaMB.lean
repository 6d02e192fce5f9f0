/- contracts: points on a band and in it, layers: the model's side -/
import Derived.Test.YthpbnfmfedggjaaMA
import Derived.Test.YthpbnfmfedggjaaSb
import Derived.BigRegion
import Derived.Maps.AppendAt
import Derived.Test.YthpbnfmfedggjaaBb
import Derived.Test.YthpbnfmfedggjaaBn
namespace Go.Proofs.Ythpbnfmfedggjaa
open Go.ChangeShapes Go.WideShapes Go.ChangeAt Go.RowKit Go.Joins
set_option linter.unusedVariables false
set_option linter.unusedSimpArgs false
set_option maxRecDepth 4000
theorem onB_self {a1 a2 p1 p2 : Int} (h : onB a1 a2 a1 a2 p1 p2 = true) : a1 = p1 ∧ a2 = p2 := by
  have := onP_iff (a := (a1, a2)) (b := (a1, a2)) (p := (p1, p2)) |>.1 h
  obtain ⟨_, h1, h2, h3, h4⟩ := this
  simp only at h1 h2 h3 h4
  omega
set_option maxHeartbeats 8000000 in
theorem bdOn_any (A : Option Addr) (c : Nat) (l : List (Int × Int)) (p : Int × Int) (w : World) (h1 : 1 ≤ l.length) (hn : l.length ≤ 60) (hp : ∀ i, i < l.length → isPg (vx l i) = true) (hpp : isPg p = true) (hR : Rd w w.heap.size A l) :
    Calls Try.prog 84 #[.slice A l.length c, .agg #[.int .i64 p.1, .int .i64 p.2]] w fun e w' => e = .returned (.bool (onHB l p)) ∧ Below w.heap.size w w' := by
  obtain ⟨p1, p2⟩ := p
  obtain ⟨b, off, rfl, hb, HC⟩ := pts_of (by omega) hR
  have ZP := Lib.hid (fun i => pgs_sz hp i (by omega))
  have ZQ : Hid (Sz p1 p2) := Lib.hid (sz_of hpp)
  have HT : Hid (∀ i, i < l.length → onB (vx l i).1 (vx l i).2 (vx l (i + 1)).1 (vx l (i + 1)).2 p1 p2 = true → onHB l (p1, p2) = true) := Lib.hid (fun i hi h => onHB_true ⟨i, hi, h⟩)
  have HE : Hid (∀ i, i < l.length → (vx l i).1 = p1 → (vx l i).2 = p2 → onHB l (p1, p2) = true) := Lib.hid (fun i hi e1 e2 => onHB_true ⟨i, hi, by
    have : (p1, p2) = vx l i := by rw [← e1, ← e2]
    rw [this]; exact onP_end _ _⟩)
  have HF0 : Hid ((∀ i, i < l.length → onB (vx l i).1 (vx l i).2 (vx l (i + 1)).1 (vx l (i + 1)).2 p1 p2 = false) → onHB l (p1, p2) = false) := Lib.hid (fun h => onHB_false (by
    rintro ⟨i, hi, e⟩
    have := h i hi
    unfold onP at e
    rw [this] at e
    cases e))
  have H1 : Hid (l.length = 1 → vx l (0 + 1) = vx l 0) := Lib.hid (fun h => by
    have := vx_addn l 0
    rw [h, Nat.zero_add] at this
    simpa using this)
  clear hp hpp hR
  generalize onHB l (p1, p2) = r at *
  generalize hN : l.length = n at *
  have HN := Lib.hid hN
  clear hN
  go_enter Try.func84, Try.ntmps84
  go_wp2_with fail
  obtain ⟨W1, hW1⟩ : ∃ W1, W1 = (w.alloc (.cells #[.int .i64 p1, .int .i64 p2] 38)) := ⟨_, rfl⟩
  rw [← hW1]
  have yW10_0 : W1.cell? ⟨w.heap.size, 0, none⟩ = some (.int .i64 p1) := by rw [hW1]; go_simp
  have yW10_1 : W1.cell? ⟨w.heap.size, 1, none⟩ = some (.int .i64 p2) := by rw [hW1]; go_simp
  have fW10 : ∀ o, W1.frozen? ⟨w.heap.size, o, none⟩ = false := by intro o; rw [hW1]; (repeat rw [frozen?_alloc_cells]); simp [World.frozen?]
  have zW10 : w.heap.size < W1.heap.size := by rw [hW1]; simp <;> omega
  have BW1 : Below w.heap.size w W1 := by rw [hW1]; exact (Below.alloc (Below.refl _ _) (by simp <;> omega) _)
  have eW1 : Hid (W1.heap.size = w.heap.size + 1) := Lib.hid (by rw [hW1]; simp)
  clear hW1
  have HC1 : Hid (∀ W, Below W1.heap.size W1 W → ∀ i, i < n → W.cell? ⟨b, off + i * 2, none⟩ = some (.int .i64 (vx l i).1) ∧ W.cell? ⟨b, off + i * 2 + 1, none⟩ = some (.int .i64 (vx l i).2)) := Lib.hid (fun W hW => HC.out W (BW1.trans (hW.mono BW1.size)))
  have TR : Hid (∀ W, Below W1.heap.size W1 W → Below w.heap.size w W) := Lib.hid (fun W hW => BW1.trans (hW.mono BW1.size))
  clear fW10 eW1
  have hbW : b < W1.heap.size := by omega
  clear HC
  go_loopg [9] n (fun g i wr => ∃ k : Nat, k ≤ n ∧ g = n - k ∧ i = .int .i64 k ∧ Below W1.heap.size W1 wr ∧ Hid (∀ i, i < k → onB (vx l i).1 (vx l i).2 (vx l (i + 1)).1 (vx l (i + 1)).2 p1 p2 = false))
  case atStart => exact ⟨0, Nat.zero_le _, rfl, rfl, Below.refl _ _, Lib.hid (fun i h => absurd h (Nat.not_lt_zero _))⟩
  case round =>
    obtain ⟨k, hk, hg, rfl, hB, hF⟩ := hrel
    rename World => wo
    have HGK := Lib.hid hg
    clear hg
    by_cases hlt : k < n
    · have m2 : (k + 1) % n < n := Nat.mod_lt _ (by omega)
      have hq := HC1.out wo hB k hlt
      have hzB := hB.size
      have hbo : b < wo.heap.size := by omega
      have hb1 := Below.alloc hB hzB (.cells #[.int .i64 (vx l k).1, .int .i64 (vx l k).2] 38)
      have T := Lib.hid (fun W => (show Calls Try.prog 99 #[.agg #[.int .i64 (vx l k).1, .int .i64 (vx l k).2], .agg #[.int .i64 (vx l ((k + 1) % n)).1, .int .i64 (vx l ((k + 1) % n)).2], .agg #[.int .i64 p1, .int .i64 p2]] W fun e w' => e = .returned (.bool (onB (vx l k).1 (vx l k).2 (vx l (k + 1)).1 (vx l (k + 1)).2 p1 p2)) ∧ Below W.heap.size W w' from by
        rw [← HN.out, vx_per]; exact pgOn_any _ _ _ _ _ _ W (ZP.out _) (ZP.out _) ZQ.out))
      have HTk := Lib.hid (HT.out k hlt)
      have HEk := Lib.hid (HE.out k hlt)
      have HF2 : Hid (onB (vx l k).1 (vx l k).2 (vx l (k + 1)).1 (vx l (k + 1)).2 p1 p2 = false → ∀ i, i < k + 1 → onB (vx l i).1 (vx l i).2 (vx l (i + 1)).1 (vx l (i + 1)).2 p1 p2 = false) := Lib.hid (fun h i hi => by
        by_cases e : i = k
        · rw [e]; exact h
        · exact hF.out i (by omega))
      have HO : Hid (n = 1 → ¬ ((vx l k).1 = p1 ∧ (vx l k).2 = p2) → onB (vx l k).1 (vx l k).2 (vx l (k + 1)).1 (vx l (k + 1)).2 p1 p2 = false) := Lib.hid (fun h1 hne => by
        have hk0 : k = 0 := by omega
        subst hk0
        rw [H1.out h1]
        by_cases h : onB (vx l 0).1 (vx l 0).2 (vx l 0).1 (vx l 0).2 p1 p2 = true
        · exact absurd (onB_self h) hne
        · simpa using h)
      generalize onB (vx l k).1 (vx l k).2 (vx l (k + 1)).1 (vx l (k + 1)).2 p1 p2 = ob at *
      generalize (vx l k).1 = q1 at *
      generalize (vx l k).2 = q2 at *
      by_cases he : q1 = p1 ∧ q2 = p2
      · obtain ⟨e1, e2⟩ := he
        have HR1 := Lib.hid (HEk.out e1 e2)
        subst e1; subst e2
        go_wp2_with fail
        refine wp_region_B (fun W => Below W1.heap.size W1 W ∧ wo.heap.size < W.heap.size ∧ W.cell? ⟨wo.heap.size, 0, none⟩ = some (.int .i64 q1) ∧ W.cell? ⟨wo.heap.size, 1, none⟩ = some (.int .i64 q2)) (by kernel_rfl) ⟨hb1.drew, by simp, by go_simp, by go_simp⟩ ?_
        clear hq hb1
        first | refine wpB_skip 0 rfl (by kernel_rfl) (by kernel_rfl) (by kernel_rfl) (by rfl) ?_ | (refine wpB_text 0 (v := ?_) rfl (by kernel_rfl) (by kernel_rfl) (by kernel_rfl) (by rfl) (fun W hW => ?_) ?_; rotate_left; (obtain ⟨k1, k2, k3, k4⟩ := hW; have d0 := ((bcell k1).1 _ 0 zW10).trans yW10_0; have d1 := ((bcell k1).1 _ 1 zW10).trans yW10_1; go_simp; refine comes_v ?_; exact ⟨k1, k2, k3, k4⟩))
        (try simp only [Act.put, List.setIfInBounds_toArray, List.set_cons_zero, List.set_cons_succ])
        first | refine wpB_skip 1 rfl (by kernel_rfl) (by kernel_rfl) (by kernel_rfl) (by rfl) ?_ | (refine wpB_text 1 (v := ?_) rfl (by kernel_rfl) (by kernel_rfl) (by kernel_rfl) (by rfl) (fun W hW => ?_) ?_; rotate_left; (obtain ⟨k1, k2, k3, k4⟩ := hW; have d0 := ((bcell k1).1 _ 0 zW10).trans yW10_0; have d1 := ((bcell k1).1 _ 1 zW10).trans yW10_1; go_simp; refine comes_v ?_; exact ⟨k1, k2, k3, k4⟩))
        (try simp only [Act.put, List.setIfInBounds_toArray, List.set_cons_zero, List.set_cons_succ])
        first | refine wpB_skip 2 rfl (by kernel_rfl) (by kernel_rfl) (by kernel_rfl) (by rfl) ?_ | (refine wpB_text 2 (v := ?_) rfl (by kernel_rfl) (by kernel_rfl) (by kernel_rfl) (by rfl) (fun W hW => ?_) ?_; rotate_left; (obtain ⟨k1, k2, k3, k4⟩ := hW; have d0 := ((bcell k1).1 _ 0 zW10).trans yW10_0; have d1 := ((bcell k1).1 _ 1 zW10).trans yW10_1; go_simp; refine comes_v ?_; exact ⟨k1, k2, k3, k4⟩))
        (try simp only [Act.put, List.setIfInBounds_toArray, List.set_cons_zero, List.set_cons_succ])
        first | refine wpB_skip 3 rfl (by kernel_rfl) (by kernel_rfl) (by kernel_rfl) (by rfl) ?_ | (refine wpB_text 3 (v := ?_) rfl (by kernel_rfl) (by kernel_rfl) (by kernel_rfl) (by rfl) (fun W hW => ?_) ?_; rotate_left; (obtain ⟨k1, k2, k3, k4⟩ := hW; have d0 := ((bcell k1).1 _ 0 zW10).trans yW10_0; have d1 := ((bcell k1).1 _ 1 zW10).trans yW10_1; go_simp; refine comes_v ?_; exact ⟨k1, k2, k3, k4⟩))
        (try simp only [Act.put, List.setIfInBounds_toArray, List.set_cons_zero, List.set_cons_succ])
        first | refine wpB_skip 4 rfl (by kernel_rfl) (by kernel_rfl) (by kernel_rfl) (by rfl) ?_ | (refine wpB_text 4 (v := ?_) rfl (by kernel_rfl) (by kernel_rfl) (by kernel_rfl) (by rfl) (fun W hW => ?_) ?_; rotate_left; (obtain ⟨k1, k2, k3, k4⟩ := hW; have d0 := ((bcell k1).1 _ 0 zW10).trans yW10_0; have d1 := ((bcell k1).1 _ 1 zW10).trans yW10_1; go_simp; refine comes_v ?_; exact ⟨k1, k2, k3, k4⟩))
        (try simp only [Act.put, List.setIfInBounds_toArray, List.set_cons_zero, List.set_cons_succ])
        first | refine wpB_skip 5 rfl (by kernel_rfl) (by kernel_rfl) (by kernel_rfl) (by rfl) ?_ | (refine wpB_text 5 (v := ?_) rfl (by kernel_rfl) (by kernel_rfl) (by kernel_rfl) (by rfl) (fun W hW => ?_) ?_; rotate_left; (obtain ⟨k1, k2, k3, k4⟩ := hW; have d0 := ((bcell k1).1 _ 0 zW10).trans yW10_0; have d1 := ((bcell k1).1 _ 1 zW10).trans yW10_1; go_simp; refine comes_v ?_; exact ⟨k1, k2, k3, k4⟩))
        (try simp only [Act.put, List.setIfInBounds_toArray, List.set_cons_zero, List.set_cons_succ])
        first | refine wpB_skip 6 rfl (by kernel_rfl) (by kernel_rfl) (by kernel_rfl) (by rfl) ?_ | (refine wpB_text 6 (v := ?_) rfl (by kernel_rfl) (by kernel_rfl) (by kernel_rfl) (by rfl) (fun W hW => ?_) ?_; rotate_left; (obtain ⟨k1, k2, k3, k4⟩ := hW; have d0 := ((bcell k1).1 _ 0 zW10).trans yW10_0; have d1 := ((bcell k1).1 _ 1 zW10).trans yW10_1; go_simp; refine comes_v ?_; exact ⟨k1, k2, k3, k4⟩))
        (try simp only [Act.put, List.setIfInBounds_toArray, List.set_cons_zero, List.set_cons_succ])
        first | refine wpB_skip 7 rfl (by kernel_rfl) (by kernel_rfl) (by kernel_rfl) (by rfl) ?_ | (refine wpB_text 7 (v := ?_) rfl (by kernel_rfl) (by kernel_rfl) (by kernel_rfl) (by rfl) (fun W hW => ?_) ?_; rotate_left; (obtain ⟨k1, k2, k3, k4⟩ := hW; have d0 := ((bcell k1).1 _ 0 zW10).trans yW10_0; have d1 := ((bcell k1).1 _ 1 zW10).trans yW10_1; go_simp; refine comes_v ?_; exact ⟨k1, k2, k3, k4⟩))
        (try simp only [Act.put, List.setIfInBounds_toArray, List.set_cons_zero, List.set_cons_succ])
        first | refine wpB_skip 8 rfl (by kernel_rfl) (by kernel_rfl) (by kernel_rfl) (by rfl) ?_ | (refine wpB_text 8 (v := ?_) rfl (by kernel_rfl) (by kernel_rfl) (by kernel_rfl) (by rfl) (fun W hW => ?_) ?_; rotate_left; (obtain ⟨k1, k2, k3, k4⟩ := hW; have d0 := ((bcell k1).1 _ 0 zW10).trans yW10_0; have d1 := ((bcell k1).1 _ 1 zW10).trans yW10_1; go_simp; refine comes_v ?_; exact ⟨k1, k2, k3, k4⟩))
        (try simp only [Act.put, List.setIfInBounds_toArray, List.set_cons_zero, List.set_cons_succ])
        first | refine wpB_skip 9 rfl (by kernel_rfl) (by kernel_rfl) (by kernel_rfl) (by rfl) ?_ | (refine wpB_text 9 (v := ?_) rfl (by kernel_rfl) (by kernel_rfl) (by kernel_rfl) (by rfl) (fun W hW => ?_) ?_; rotate_left; (obtain ⟨k1, k2, k3, k4⟩ := hW; have d0 := ((bcell k1).1 _ 0 zW10).trans yW10_0; have d1 := ((bcell k1).1 _ 1 zW10).trans yW10_1; go_simp; refine comes_v ?_; exact ⟨k1, k2, k3, k4⟩))
        (try simp only [Act.put, List.setIfInBounds_toArray, List.set_cons_zero, List.set_cons_succ])
        first | refine wpB_skip 10 rfl (by kernel_rfl) (by kernel_rfl) (by kernel_rfl) (by rfl) ?_ | (refine wpB_text 10 (v := ?_) rfl (by kernel_rfl) (by kernel_rfl) (by kernel_rfl) (by rfl) (fun W hW => ?_) ?_; rotate_left; (obtain ⟨k1, k2, k3, k4⟩ := hW; have d0 := ((bcell k1).1 _ 0 zW10).trans yW10_0; have d1 := ((bcell k1).1 _ 1 zW10).trans yW10_1; go_simp; refine comes_v ?_; exact ⟨k1, k2, k3, k4⟩))
        (try simp only [Act.put, List.setIfInBounds_toArray, List.set_cons_zero, List.set_cons_succ])
        first | refine wpB_skip 11 rfl (by kernel_rfl) (by kernel_rfl) (by kernel_rfl) (by rfl) ?_ | (refine wpB_text 11 (v := ?_) rfl (by kernel_rfl) (by kernel_rfl) (by kernel_rfl) (by rfl) (fun W hW => ?_) ?_; rotate_left; (obtain ⟨k1, k2, k3, k4⟩ := hW; have d0 := ((bcell k1).1 _ 0 zW10).trans yW10_0; have d1 := ((bcell k1).1 _ 1 zW10).trans yW10_1; go_simp; refine comes_v ?_; exact ⟨k1, k2, k3, k4⟩))
        (try simp only [Act.put, List.setIfInBounds_toArray, List.set_cons_zero, List.set_cons_succ])
        first | refine wpB_skip 12 rfl (by kernel_rfl) (by kernel_rfl) (by kernel_rfl) (by rfl) ?_ | (refine wpB_text 12 (v := ?_) rfl (by kernel_rfl) (by kernel_rfl) (by kernel_rfl) (by rfl) (fun W hW => ?_) ?_; rotate_left; (obtain ⟨k1, k2, k3, k4⟩ := hW; have d0 := ((bcell k1).1 _ 0 zW10).trans yW10_0; have d1 := ((bcell k1).1 _ 1 zW10).trans yW10_1; go_simp; refine comes_v ?_; exact ⟨k1, k2, k3, k4⟩))
        (try simp only [Act.put, List.setIfInBounds_toArray, List.set_cons_zero, List.set_cons_succ])
        first | refine wpB_skip 13 rfl (by kernel_rfl) (by kernel_rfl) (by kernel_rfl) (by rfl) ?_ | (refine wpB_text 13 (v := ?_) rfl (by kernel_rfl) (by kernel_rfl) (by kernel_rfl) (by rfl) (fun W hW => ?_) ?_; rotate_left; (obtain ⟨k1, k2, k3, k4⟩ := hW; have d0 := ((bcell k1).1 _ 0 zW10).trans yW10_0; have d1 := ((bcell k1).1 _ 1 zW10).trans yW10_1; go_simp; refine comes_v ?_; exact ⟨k1, k2, k3, k4⟩))
        (try simp only [Act.put, List.setIfInBounds_toArray, List.set_cons_zero, List.set_cons_succ])
        first | refine wpB_skip 14 rfl (by kernel_rfl) (by kernel_rfl) (by kernel_rfl) (by rfl) ?_ | (refine wpB_text 14 (v := ?_) rfl (by kernel_rfl) (by kernel_rfl) (by kernel_rfl) (by rfl) (fun W hW => ?_) ?_; rotate_left; (obtain ⟨k1, k2, k3, k4⟩ := hW; have d0 := ((bcell k1).1 _ 0 zW10).trans yW10_0; have d1 := ((bcell k1).1 _ 1 zW10).trans yW10_1; go_simp; refine comes_v ?_; exact ⟨k1, k2, k3, k4⟩))
        (try simp only [Act.put, List.setIfInBounds_toArray, List.set_cons_zero, List.set_cons_succ])
        first | refine wpB_skip 15 rfl (by kernel_rfl) (by kernel_rfl) (by kernel_rfl) (by rfl) ?_ | (refine wpB_text 15 (v := ?_) rfl (by kernel_rfl) (by kernel_rfl) (by kernel_rfl) (by rfl) (fun W hW => ?_) ?_; rotate_left; (obtain ⟨k1, k2, k3, k4⟩ := hW; have d0 := ((bcell k1).1 _ 0 zW10).trans yW10_0; have d1 := ((bcell k1).1 _ 1 zW10).trans yW10_1; go_simp; refine comes_v ?_; exact ⟨k1, k2, k3, k4⟩))
        (try simp only [Act.put, List.setIfInBounds_toArray, List.set_cons_zero, List.set_cons_succ])
        first | refine wpB_skip 16 rfl (by kernel_rfl) (by kernel_rfl) (by kernel_rfl) (by rfl) ?_ | (refine wpB_text 16 (v := ?_) rfl (by kernel_rfl) (by kernel_rfl) (by kernel_rfl) (by rfl) (fun W hW => ?_) ?_; rotate_left; (obtain ⟨k1, k2, k3, k4⟩ := hW; have d0 := ((bcell k1).1 _ 0 zW10).trans yW10_0; have d1 := ((bcell k1).1 _ 1 zW10).trans yW10_1; go_simp; refine comes_v ?_; exact ⟨k1, k2, k3, k4⟩))
        (try simp only [Act.put, List.setIfInBounds_toArray, List.set_cons_zero, List.set_cons_succ])
        first | refine wpB_skip 17 rfl (by kernel_rfl) (by kernel_rfl) (by kernel_rfl) (by rfl) ?_ | (refine wpB_text 17 (v := ?_) rfl (by kernel_rfl) (by kernel_rfl) (by kernel_rfl) (by rfl) (fun W hW => ?_) ?_; rotate_left; (obtain ⟨k1, k2, k3, k4⟩ := hW; have d0 := ((bcell k1).1 _ 0 zW10).trans yW10_0; have d1 := ((bcell k1).1 _ 1 zW10).trans yW10_1; go_simp; refine comes_v ?_; exact ⟨k1, k2, k3, k4⟩))
        (try simp only [Act.put, List.setIfInBounds_toArray, List.set_cons_zero, List.set_cons_succ])
        first | refine wpB_skip 18 rfl (by kernel_rfl) (by kernel_rfl) (by kernel_rfl) (by rfl) ?_ | (refine wpB_text 18 (v := ?_) rfl (by kernel_rfl) (by kernel_rfl) (by kernel_rfl) (by rfl) (fun W hW => ?_) ?_; rotate_left; (obtain ⟨k1, k2, k3, k4⟩ := hW; have d0 := ((bcell k1).1 _ 0 zW10).trans yW10_0; have d1 := ((bcell k1).1 _ 1 zW10).trans yW10_1; go_simp; refine comes_v ?_; exact ⟨k1, k2, k3, k4⟩))
        (try simp only [Act.put, List.setIfInBounds_toArray, List.set_cons_zero, List.set_cons_succ])
        first | refine wpB_skip 19 rfl (by kernel_rfl) (by kernel_rfl) (by kernel_rfl) (by rfl) ?_ | (refine wpB_text 19 (v := ?_) rfl (by kernel_rfl) (by kernel_rfl) (by kernel_rfl) (by rfl) (fun W hW => ?_) ?_; rotate_left; (obtain ⟨k1, k2, k3, k4⟩ := hW; have d0 := ((bcell k1).1 _ 0 zW10).trans yW10_0; have d1 := ((bcell k1).1 _ 1 zW10).trans yW10_1; go_simp; refine comes_v ?_; exact ⟨k1, k2, k3, k4⟩))
        (try simp only [Act.put, List.setIfInBounds_toArray, List.set_cons_zero, List.set_cons_succ])
        first | refine wpB_skip 20 rfl (by kernel_rfl) (by kernel_rfl) (by kernel_rfl) (by rfl) ?_ | (refine wpB_text 20 (v := ?_) rfl (by kernel_rfl) (by kernel_rfl) (by kernel_rfl) (by rfl) (fun W hW => ?_) ?_; rotate_left; (obtain ⟨k1, k2, k3, k4⟩ := hW; have d0 := ((bcell k1).1 _ 0 zW10).trans yW10_0; have d1 := ((bcell k1).1 _ 1 zW10).trans yW10_1; go_simp; refine comes_v ?_; exact ⟨k1, k2, k3, k4⟩))
        (try simp only [Act.put, List.setIfInBounds_toArray, List.set_cons_zero, List.set_cons_succ])
        refine wpB_done (by kernel_rfl) ?_ _
        intro W hW; obtain ⟨k1, k2, k3, k4⟩ := hW
        have BB := Lib.hid (TR.out _ k1)
        go_wp2_with fail
        go_ret
        exact ⟨ret_bool HR1.out.symm, BB.out⟩
      · have hne : Hid (¬ (q1 = p1 ∧ q2 = p2)) := Lib.hid he
        by_cases h1n : n = 1
        · have HF3 := Lib.hid (HF2.out (HO.out h1n he))
          have hn1 : decide ((1 : Int) < (n : Int)) = false := decide_eq_false (by omega)
          clear h1n
          by_cases e1 : q1 = p1
          · have e2 : ¬ q2 = p2 := fun h => he ⟨e1, h⟩
            clear he
            subst e1
            go_wp2_with fail
            refine wp_region_B (fun W => Below W1.heap.size W1 W ∧ wo.heap.size < W.heap.size ∧ W.cell? ⟨wo.heap.size, 0, none⟩ = some (.int .i64 q1) ∧ W.cell? ⟨wo.heap.size, 1, none⟩ = some (.int .i64 q2)) (by kernel_rfl) ⟨hb1.drew, by simp, by go_simp, by go_simp⟩ ?_
            clear hq hb1
            first | refine wpB_skip 0 rfl (by kernel_rfl) (by kernel_rfl) (by kernel_rfl) (by rfl) ?_ | (refine wpB_text 0 (v := ?_) rfl (by kernel_rfl) (by kernel_rfl) (by kernel_rfl) (by rfl) (fun W hW => ?_) ?_; rotate_left; (obtain ⟨k1, k2, k3, k4⟩ := hW; have d0 := ((bcell k1).1 _ 0 zW10).trans yW10_0; have d1 := ((bcell k1).1 _ 1 zW10).trans yW10_1; go_simp; refine comes_v ?_; exact ⟨k1, k2, k3, k4⟩))
            (try simp only [Act.put, List.setIfInBounds_toArray, List.set_cons_zero, List.set_cons_succ])
            first | refine wpB_skip 1 rfl (by kernel_rfl) (by kernel_rfl) (by kernel_rfl) (by rfl) ?_ | (refine wpB_text 1 (v := ?_) rfl (by kernel_rfl) (by kernel_rfl) (by kernel_rfl) (by rfl) (fun W hW => ?_) ?_; rotate_left; (obtain ⟨k1, k2, k3, k4⟩ := hW; have d0 := ((bcell k1).1 _ 0 zW10).trans yW10_0; have d1 := ((bcell k1).1 _ 1 zW10).trans yW10_1; go_simp; refine comes_v ?_; exact ⟨k1, k2, k3, k4⟩))
            (try simp only [Act.put, List.setIfInBounds_toArray, List.set_cons_zero, List.set_cons_succ])
            first | refine wpB_skip 2 rfl (by kernel_rfl) (by kernel_rfl) (by kernel_rfl) (by rfl) ?_ | (refine wpB_text 2 (v := ?_) rfl (by kernel_rfl) (by kernel_rfl) (by kernel_rfl) (by rfl) (fun W hW => ?_) ?_; rotate_left; (obtain ⟨k1, k2, k3, k4⟩ := hW; have d0 := ((bcell k1).1 _ 0 zW10).trans yW10_0; have d1 := ((bcell k1).1 _ 1 zW10).trans yW10_1; go_simp; refine comes_v ?_; exact ⟨k1, k2, k3, k4⟩))
            (try simp only [Act.put, List.setIfInBounds_toArray, List.set_cons_zero, List.set_cons_succ])
            first | refine wpB_skip 3 rfl (by kernel_rfl) (by kernel_rfl) (by kernel_rfl) (by rfl) ?_ | (refine wpB_text 3 (v := ?_) rfl (by kernel_rfl) (by kernel_rfl) (by kernel_rfl) (by rfl) (fun W hW => ?_) ?_; rotate_left; (obtain ⟨k1, k2, k3, k4⟩ := hW; have d0 := ((bcell k1).1 _ 0 zW10).trans yW10_0; have d1 := ((bcell k1).1 _ 1 zW10).trans yW10_1; go_simp; refine comes_v ?_; exact ⟨k1, k2, k3, k4⟩))
            (try simp only [Act.put, List.setIfInBounds_toArray, List.set_cons_zero, List.set_cons_succ])
            first | refine wpB_skip 4 rfl (by kernel_rfl) (by kernel_rfl) (by kernel_rfl) (by rfl) ?_ | (refine wpB_text 4 (v := ?_) rfl (by kernel_rfl) (by kernel_rfl) (by kernel_rfl) (by rfl) (fun W hW => ?_) ?_; rotate_left; (obtain ⟨k1, k2, k3, k4⟩ := hW; have d0 := ((bcell k1).1 _ 0 zW10).trans yW10_0; have d1 := ((bcell k1).1 _ 1 zW10).trans yW10_1; go_simp; refine comes_v ?_; exact ⟨k1, k2, k3, k4⟩))
            (try simp only [Act.put, List.setIfInBounds_toArray, List.set_cons_zero, List.set_cons_succ])
            first | refine wpB_skip 5 rfl (by kernel_rfl) (by kernel_rfl) (by kernel_rfl) (by rfl) ?_ | (refine wpB_text 5 (v := ?_) rfl (by kernel_rfl) (by kernel_rfl) (by kernel_rfl) (by rfl) (fun W hW => ?_) ?_; rotate_left; (obtain ⟨k1, k2, k3, k4⟩ := hW; have d0 := ((bcell k1).1 _ 0 zW10).trans yW10_0; have d1 := ((bcell k1).1 _ 1 zW10).trans yW10_1; go_simp; refine comes_v ?_; exact ⟨k1, k2, k3, k4⟩))
            (try simp only [Act.put, List.setIfInBounds_toArray, List.set_cons_zero, List.set_cons_succ])
            first | refine wpB_skip 6 rfl (by kernel_rfl) (by kernel_rfl) (by kernel_rfl) (by rfl) ?_ | (refine wpB_text 6 (v := ?_) rfl (by kernel_rfl) (by kernel_rfl) (by kernel_rfl) (by rfl) (fun W hW => ?_) ?_; rotate_left; (obtain ⟨k1, k2, k3, k4⟩ := hW; have d0 := ((bcell k1).1 _ 0 zW10).trans yW10_0; have d1 := ((bcell k1).1 _ 1 zW10).trans yW10_1; go_simp; refine comes_v ?_; exact ⟨k1, k2, k3, k4⟩))
            (try simp only [Act.put, List.setIfInBounds_toArray, List.set_cons_zero, List.set_cons_succ])
            first | refine wpB_skip 7 rfl (by kernel_rfl) (by kernel_rfl) (by kernel_rfl) (by rfl) ?_ | (refine wpB_text 7 (v := ?_) rfl (by kernel_rfl) (by kernel_rfl) (by kernel_rfl) (by rfl) (fun W hW => ?_) ?_; rotate_left; (obtain ⟨k1, k2, k3, k4⟩ := hW; have d0 := ((bcell k1).1 _ 0 zW10).trans yW10_0; have d1 := ((bcell k1).1 _ 1 zW10).trans yW10_1; go_simp; refine comes_v ?_; exact ⟨k1, k2, k3, k4⟩))
            (try simp only [Act.put, List.setIfInBounds_toArray, List.set_cons_zero, List.set_cons_succ])
            first | refine wpB_skip 8 rfl (by kernel_rfl) (by kernel_rfl) (by kernel_rfl) (by rfl) ?_ | (refine wpB_text 8 (v := ?_) rfl (by kernel_rfl) (by kernel_rfl) (by kernel_rfl) (by rfl) (fun W hW => ?_) ?_; rotate_left; (obtain ⟨k1, k2, k3, k4⟩ := hW; have d0 := ((bcell k1).1 _ 0 zW10).trans yW10_0; have d1 := ((bcell k1).1 _ 1 zW10).trans yW10_1; go_simp; refine comes_v ?_; exact ⟨k1, k2, k3, k4⟩))
            (try simp only [Act.put, List.setIfInBounds_toArray, List.set_cons_zero, List.set_cons_succ])
            first | refine wpB_skip 9 rfl (by kernel_rfl) (by kernel_rfl) (by kernel_rfl) (by rfl) ?_ | (refine wpB_text 9 (v := ?_) rfl (by kernel_rfl) (by kernel_rfl) (by kernel_rfl) (by rfl) (fun W hW => ?_) ?_; rotate_left; (obtain ⟨k1, k2, k3, k4⟩ := hW; have d0 := ((bcell k1).1 _ 0 zW10).trans yW10_0; have d1 := ((bcell k1).1 _ 1 zW10).trans yW10_1; go_simp; refine comes_v ?_; exact ⟨k1, k2, k3, k4⟩))
            (try simp only [Act.put, List.setIfInBounds_toArray, List.set_cons_zero, List.set_cons_succ])
            first | refine wpB_skip 10 rfl (by kernel_rfl) (by kernel_rfl) (by kernel_rfl) (by rfl) ?_ | (refine wpB_text 10 (v := ?_) rfl (by kernel_rfl) (by kernel_rfl) (by kernel_rfl) (by rfl) (fun W hW => ?_) ?_; rotate_left; (obtain ⟨k1, k2, k3, k4⟩ := hW; have d0 := ((bcell k1).1 _ 0 zW10).trans yW10_0; have d1 := ((bcell k1).1 _ 1 zW10).trans yW10_1; go_simp; refine comes_v ?_; exact ⟨k1, k2, k3, k4⟩))
            (try simp only [Act.put, List.setIfInBounds_toArray, List.set_cons_zero, List.set_cons_succ])
            first | refine wpB_skip 11 rfl (by kernel_rfl) (by kernel_rfl) (by kernel_rfl) (by rfl) ?_ | (refine wpB_text 11 (v := ?_) rfl (by kernel_rfl) (by kernel_rfl) (by kernel_rfl) (by rfl) (fun W hW => ?_) ?_; rotate_left; (obtain ⟨k1, k2, k3, k4⟩ := hW; have d0 := ((bcell k1).1 _ 0 zW10).trans yW10_0; have d1 := ((bcell k1).1 _ 1 zW10).trans yW10_1; go_simp; refine comes_v ?_; exact ⟨k1, k2, k3, k4⟩))
            (try simp only [Act.put, List.setIfInBounds_toArray, List.set_cons_zero, List.set_cons_succ])
            first | refine wpB_skip 12 rfl (by kernel_rfl) (by kernel_rfl) (by kernel_rfl) (by rfl) ?_ | (refine wpB_text 12 (v := ?_) rfl (by kernel_rfl) (by kernel_rfl) (by kernel_rfl) (by rfl) (fun W hW => ?_) ?_; rotate_left; (obtain ⟨k1, k2, k3, k4⟩ := hW; have d0 := ((bcell k1).1 _ 0 zW10).trans yW10_0; have d1 := ((bcell k1).1 _ 1 zW10).trans yW10_1; go_simp; refine comes_v ?_; exact ⟨k1, k2, k3, k4⟩))
            (try simp only [Act.put, List.setIfInBounds_toArray, List.set_cons_zero, List.set_cons_succ])
            first | refine wpB_skip 13 rfl (by kernel_rfl) (by kernel_rfl) (by kernel_rfl) (by rfl) ?_ | (refine wpB_text 13 (v := ?_) rfl (by kernel_rfl) (by kernel_rfl) (by kernel_rfl) (by rfl) (fun W hW => ?_) ?_; rotate_left; (obtain ⟨k1, k2, k3, k4⟩ := hW; have d0 := ((bcell k1).1 _ 0 zW10).trans yW10_0; have d1 := ((bcell k1).1 _ 1 zW10).trans yW10_1; go_simp; refine comes_v ?_; exact ⟨k1, k2, k3, k4⟩))
            (try simp only [Act.put, List.setIfInBounds_toArray, List.set_cons_zero, List.set_cons_succ])
            first | refine wpB_skip 14 rfl (by kernel_rfl) (by kernel_rfl) (by kernel_rfl) (by rfl) ?_ | (refine wpB_text 14 (v := ?_) rfl (by kernel_rfl) (by kernel_rfl) (by kernel_rfl) (by rfl) (fun W hW => ?_) ?_; rotate_left; (obtain ⟨k1, k2, k3, k4⟩ := hW; have d0 := ((bcell k1).1 _ 0 zW10).trans yW10_0; have d1 := ((bcell k1).1 _ 1 zW10).trans yW10_1; go_simp; refine comes_v ?_; exact ⟨k1, k2, k3, k4⟩))
            (try simp only [Act.put, List.setIfInBounds_toArray, List.set_cons_zero, List.set_cons_succ])
            first | refine wpB_skip 15 rfl (by kernel_rfl) (by kernel_rfl) (by kernel_rfl) (by rfl) ?_ | (refine wpB_text 15 (v := ?_) rfl (by kernel_rfl) (by kernel_rfl) (by kernel_rfl) (by rfl) (fun W hW => ?_) ?_; rotate_left; (obtain ⟨k1, k2, k3, k4⟩ := hW; have d0 := ((bcell k1).1 _ 0 zW10).trans yW10_0; have d1 := ((bcell k1).1 _ 1 zW10).trans yW10_1; go_simp; refine comes_v ?_; exact ⟨k1, k2, k3, k4⟩))
            (try simp only [Act.put, List.setIfInBounds_toArray, List.set_cons_zero, List.set_cons_succ])
            first | refine wpB_skip 16 rfl (by kernel_rfl) (by kernel_rfl) (by kernel_rfl) (by rfl) ?_ | (refine wpB_text 16 (v := ?_) rfl (by kernel_rfl) (by kernel_rfl) (by kernel_rfl) (by rfl) (fun W hW => ?_) ?_; rotate_left; (obtain ⟨k1, k2, k3, k4⟩ := hW; have d0 := ((bcell k1).1 _ 0 zW10).trans yW10_0; have d1 := ((bcell k1).1 _ 1 zW10).trans yW10_1; go_simp; refine comes_v ?_; exact ⟨k1, k2, k3, k4⟩))
            (try simp only [Act.put, List.setIfInBounds_toArray, List.set_cons_zero, List.set_cons_succ])
            first | refine wpB_skip 17 rfl (by kernel_rfl) (by kernel_rfl) (by kernel_rfl) (by rfl) ?_ | (refine wpB_text 17 (v := ?_) rfl (by kernel_rfl) (by kernel_rfl) (by kernel_rfl) (by rfl) (fun W hW => ?_) ?_; rotate_left; (obtain ⟨k1, k2, k3, k4⟩ := hW; have d0 := ((bcell k1).1 _ 0 zW10).trans yW10_0; have d1 := ((bcell k1).1 _ 1 zW10).trans yW10_1; go_simp; refine comes_v ?_; exact ⟨k1, k2, k3, k4⟩))
            (try simp only [Act.put, List.setIfInBounds_toArray, List.set_cons_zero, List.set_cons_succ])
            first | refine wpB_skip 18 rfl (by kernel_rfl) (by kernel_rfl) (by kernel_rfl) (by rfl) ?_ | (refine wpB_text 18 (v := ?_) rfl (by kernel_rfl) (by kernel_rfl) (by kernel_rfl) (by rfl) (fun W hW => ?_) ?_; rotate_left; (obtain ⟨k1, k2, k3, k4⟩ := hW; have d0 := ((bcell k1).1 _ 0 zW10).trans yW10_0; have d1 := ((bcell k1).1 _ 1 zW10).trans yW10_1; go_simp; refine comes_v ?_; exact ⟨k1, k2, k3, k4⟩))
            (try simp only [Act.put, List.setIfInBounds_toArray, List.set_cons_zero, List.set_cons_succ])
            first | refine wpB_skip 19 rfl (by kernel_rfl) (by kernel_rfl) (by kernel_rfl) (by rfl) ?_ | (refine wpB_text 19 (v := ?_) rfl (by kernel_rfl) (by kernel_rfl) (by kernel_rfl) (by rfl) (fun W hW => ?_) ?_; rotate_left; (obtain ⟨k1, k2, k3, k4⟩ := hW; have d0 := ((bcell k1).1 _ 0 zW10).trans yW10_0; have d1 := ((bcell k1).1 _ 1 zW10).trans yW10_1; go_simp; refine comes_v ?_; exact ⟨k1, k2, k3, k4⟩))
            (try simp only [Act.put, List.setIfInBounds_toArray, List.set_cons_zero, List.set_cons_succ])
            first | refine wpB_skip 20 rfl (by kernel_rfl) (by kernel_rfl) (by kernel_rfl) (by rfl) ?_ | (refine wpB_text 20 (v := ?_) rfl (by kernel_rfl) (by kernel_rfl) (by kernel_rfl) (by rfl) (fun W hW => ?_) ?_; rotate_left; (obtain ⟨k1, k2, k3, k4⟩ := hW; have d0 := ((bcell k1).1 _ 0 zW10).trans yW10_0; have d1 := ((bcell k1).1 _ 1 zW10).trans yW10_1; go_simp; refine comes_v ?_; exact ⟨k1, k2, k3, k4⟩))
            (try simp only [Act.put, List.setIfInBounds_toArray, List.set_cons_zero, List.set_cons_succ])
            refine wpB_done (by kernel_rfl) ?_ _
            intro W hW; obtain ⟨k1, k2, k3, k4⟩ := hW
            go_wp2_with fail
            go_roundg (n - (k + 1))
            case measure => have := HGK.out; omega
            case rel => exact ⟨k + 1, by omega, rfl, by go_num, k1, HF3⟩
          · clear he
            go_wp2_with fail
            refine wp_region_B (fun W => Below W1.heap.size W1 W ∧ wo.heap.size < W.heap.size ∧ W.cell? ⟨wo.heap.size, 0, none⟩ = some (.int .i64 q1) ∧ W.cell? ⟨wo.heap.size, 1, none⟩ = some (.int .i64 q2)) (by kernel_rfl) ⟨hb1.drew, by simp, by go_simp, by go_simp⟩ ?_
            clear hq hb1
            first | refine wpB_skip 0 rfl (by kernel_rfl) (by kernel_rfl) (by kernel_rfl) (by rfl) ?_ | (refine wpB_text 0 (v := ?_) rfl (by kernel_rfl) (by kernel_rfl) (by kernel_rfl) (by rfl) (fun W hW => ?_) ?_; rotate_left; (obtain ⟨k1, k2, k3, k4⟩ := hW; have d0 := ((bcell k1).1 _ 0 zW10).trans yW10_0; have d1 := ((bcell k1).1 _ 1 zW10).trans yW10_1; go_simp; refine comes_v ?_; exact ⟨k1, k2, k3, k4⟩))
            (try simp only [Act.put, List.setIfInBounds_toArray, List.set_cons_zero, List.set_cons_succ])
            first | refine wpB_skip 1 rfl (by kernel_rfl) (by kernel_rfl) (by kernel_rfl) (by rfl) ?_ | (refine wpB_text 1 (v := ?_) rfl (by kernel_rfl) (by kernel_rfl) (by kernel_rfl) (by rfl) (fun W hW => ?_) ?_; rotate_left; (obtain ⟨k1, k2, k3, k4⟩ := hW; have d0 := ((bcell k1).1 _ 0 zW10).trans yW10_0; have d1 := ((bcell k1).1 _ 1 zW10).trans yW10_1; go_simp; refine comes_v ?_; exact ⟨k1, k2, k3, k4⟩))
            (try simp only [Act.put, List.setIfInBounds_toArray, List.set_cons_zero, List.set_cons_succ])
            first | refine wpB_skip 2 rfl (by kernel_rfl) (by kernel_rfl) (by kernel_rfl) (by rfl) ?_ | (refine wpB_text 2 (v := ?_) rfl (by kernel_rfl) (by kernel_rfl) (by kernel_rfl) (by rfl) (fun W hW => ?_) ?_; rotate_left; (obtain ⟨k1, k2, k3, k4⟩ := hW; have d0 := ((bcell k1).1 _ 0 zW10).trans yW10_0; have d1 := ((bcell k1).1 _ 1 zW10).trans yW10_1; go_simp; refine comes_v ?_; exact ⟨k1, k2, k3, k4⟩))
            (try simp only [Act.put, List.setIfInBounds_toArray, List.set_cons_zero, List.set_cons_succ])
            first | refine wpB_skip 3 rfl (by kernel_rfl) (by kernel_rfl) (by kernel_rfl) (by rfl) ?_ | (refine wpB_text 3 (v := ?_) rfl (by kernel_rfl) (by kernel_rfl) (by kernel_rfl) (by rfl) (fun W hW => ?_) ?_; rotate_left; (obtain ⟨k1, k2, k3, k4⟩ := hW; have d0 := ((bcell k1).1 _ 0 zW10).trans yW10_0; have d1 := ((bcell k1).1 _ 1 zW10).trans yW10_1; go_simp; refine comes_v ?_; exact ⟨k1, k2, k3, k4⟩))
            (try simp only [Act.put, List.setIfInBounds_toArray, List.set_cons_zero, List.set_cons_succ])
            first | refine wpB_skip 4 rfl (by kernel_rfl) (by kernel_rfl) (by kernel_rfl) (by rfl) ?_ | (refine wpB_text 4 (v := ?_) rfl (by kernel_rfl) (by kernel_rfl) (by kernel_rfl) (by rfl) (fun W hW => ?_) ?_; rotate_left; (obtain ⟨k1, k2, k3, k4⟩ := hW; have d0 := ((bcell k1).1 _ 0 zW10).trans yW10_0; have d1 := ((bcell k1).1 _ 1 zW10).trans yW10_1; go_simp; refine comes_v ?_; exact ⟨k1, k2, k3, k4⟩))
            (try simp only [Act.put, List.setIfInBounds_toArray, List.set_cons_zero, List.set_cons_succ])
            first | refine wpB_skip 5 rfl (by kernel_rfl) (by kernel_rfl) (by kernel_rfl) (by rfl) ?_ | (refine wpB_text 5 (v := ?_) rfl (by kernel_rfl) (by kernel_rfl) (by kernel_rfl) (by rfl) (fun W hW => ?_) ?_; rotate_left; (obtain ⟨k1, k2, k3, k4⟩ := hW; have d0 := ((bcell k1).1 _ 0 zW10).trans yW10_0; have d1 := ((bcell k1).1 _ 1 zW10).trans yW10_1; go_simp; refine comes_v ?_; exact ⟨k1, k2, k3, k4⟩))
            (try simp only [Act.put, List.setIfInBounds_toArray, List.set_cons_zero, List.set_cons_succ])
            first | refine wpB_skip 6 rfl (by kernel_rfl) (by kernel_rfl) (by kernel_rfl) (by rfl) ?_ | (refine wpB_text 6 (v := ?_) rfl (by kernel_rfl) (by kernel_rfl) (by kernel_rfl) (by rfl) (fun W hW => ?_) ?_; rotate_left; (obtain ⟨k1, k2, k3, k4⟩ := hW; have d0 := ((bcell k1).1 _ 0 zW10).trans yW10_0; have d1 := ((bcell k1).1 _ 1 zW10).trans yW10_1; go_simp; refine comes_v ?_; exact ⟨k1, k2, k3, k4⟩))
            (try simp only [Act.put, List.setIfInBounds_toArray, List.set_cons_zero, List.set_cons_succ])
            first | refine wpB_skip 7 rfl (by kernel_rfl) (by kernel_rfl) (by kernel_rfl) (by rfl) ?_ | (refine wpB_text 7 (v := ?_) rfl (by kernel_rfl) (by kernel_rfl) (by kernel_rfl) (by rfl) (fun W hW => ?_) ?_; rotate_left; (obtain ⟨k1, k2, k3, k4⟩ := hW; have d0 := ((bcell k1).1 _ 0 zW10).trans yW10_0; have d1 := ((bcell k1).1 _ 1 zW10).trans yW10_1; go_simp; refine comes_v ?_; exact ⟨k1, k2, k3, k4⟩))
            (try simp only [Act.put, List.setIfInBounds_toArray, List.set_cons_zero, List.set_cons_succ])
            first | refine wpB_skip 8 rfl (by kernel_rfl) (by kernel_rfl) (by kernel_rfl) (by rfl) ?_ | (refine wpB_text 8 (v := ?_) rfl (by kernel_rfl) (by kernel_rfl) (by kernel_rfl) (by rfl) (fun W hW => ?_) ?_; rotate_left; (obtain ⟨k1, k2, k3, k4⟩ := hW; have d0 := ((bcell k1).1 _ 0 zW10).trans yW10_0; have d1 := ((bcell k1).1 _ 1 zW10).trans yW10_1; go_simp; refine comes_v ?_; exact ⟨k1, k2, k3, k4⟩))
            (try simp only [Act.put, List.setIfInBounds_toArray, List.set_cons_zero, List.set_cons_succ])
            first | refine wpB_skip 9 rfl (by kernel_rfl) (by kernel_rfl) (by kernel_rfl) (by rfl) ?_ | (refine wpB_text 9 (v := ?_) rfl (by kernel_rfl) (by kernel_rfl) (by kernel_rfl) (by rfl) (fun W hW => ?_) ?_; rotate_left; (obtain ⟨k1, k2, k3, k4⟩ := hW; have d0 := ((bcell k1).1 _ 0 zW10).trans yW10_0; have d1 := ((bcell k1).1 _ 1 zW10).trans yW10_1; go_simp; refine comes_v ?_; exact ⟨k1, k2, k3, k4⟩))
            (try simp only [Act.put, List.setIfInBounds_toArray, List.set_cons_zero, List.set_cons_succ])
            first | refine wpB_skip 10 rfl (by kernel_rfl) (by kernel_rfl) (by kernel_rfl) (by rfl) ?_ | (refine wpB_text 10 (v := ?_) rfl (by kernel_rfl) (by kernel_rfl) (by kernel_rfl) (by rfl) (fun W hW => ?_) ?_; rotate_left; (obtain ⟨k1, k2, k3, k4⟩ := hW; have d0 := ((bcell k1).1 _ 0 zW10).trans yW10_0; have d1 := ((bcell k1).1 _ 1 zW10).trans yW10_1; go_simp; refine comes_v ?_; exact ⟨k1, k2, k3, k4⟩))
            (try simp only [Act.put, List.setIfInBounds_toArray, List.set_cons_zero, List.set_cons_succ])
            first | refine wpB_skip 11 rfl (by kernel_rfl) (by kernel_rfl) (by kernel_rfl) (by rfl) ?_ | (refine wpB_text 11 (v := ?_) rfl (by kernel_rfl) (by kernel_rfl) (by kernel_rfl) (by rfl) (fun W hW => ?_) ?_; rotate_left; (obtain ⟨k1, k2, k3, k4⟩ := hW; have d0 := ((bcell k1).1 _ 0 zW10).trans yW10_0; have d1 := ((bcell k1).1 _ 1 zW10).trans yW10_1; go_simp; refine comes_v ?_; exact ⟨k1, k2, k3, k4⟩))
            (try simp only [Act.put, List.setIfInBounds_toArray, List.set_cons_zero, List.set_cons_succ])
            first | refine wpB_skip 12 rfl (by kernel_rfl) (by kernel_rfl) (by kernel_rfl) (by rfl) ?_ | (refine wpB_text 12 (v := ?_) rfl (by kernel_rfl) (by kernel_rfl) (by kernel_rfl) (by rfl) (fun W hW => ?_) ?_; rotate_left; (obtain ⟨k1, k2, k3, k4⟩ := hW; have d0 := ((bcell k1).1 _ 0 zW10).trans yW10_0; have d1 := ((bcell k1).1 _ 1 zW10).trans yW10_1; go_simp; refine comes_v ?_; exact ⟨k1, k2, k3, k4⟩))
            (try simp only [Act.put, List.setIfInBounds_toArray, List.set_cons_zero, List.set_cons_succ])
            first | refine wpB_skip 13 rfl (by kernel_rfl) (by kernel_rfl) (by kernel_rfl) (by rfl) ?_ | (refine wpB_text 13 (v := ?_) rfl (by kernel_rfl) (by kernel_rfl) (by kernel_rfl) (by rfl) (fun W hW => ?_) ?_; rotate_left; (obtain ⟨k1, k2, k3, k4⟩ := hW; have d0 := ((bcell k1).1 _ 0 zW10).trans yW10_0; have d1 := ((bcell k1).1 _ 1 zW10).trans yW10_1; go_simp; refine comes_v ?_; exact ⟨k1, k2, k3, k4⟩))
            (try simp only [Act.put, List.setIfInBounds_toArray, List.set_cons_zero, List.set_cons_succ])
            first | refine wpB_skip 14 rfl (by kernel_rfl) (by kernel_rfl) (by kernel_rfl) (by rfl) ?_ | (refine wpB_text 14 (v := ?_) rfl (by kernel_rfl) (by kernel_rfl) (by kernel_rfl) (by rfl) (fun W hW => ?_) ?_; rotate_left; (obtain ⟨k1, k2, k3, k4⟩ := hW; have d0 := ((bcell k1).1 _ 0 zW10).trans yW10_0; have d1 := ((bcell k1).1 _ 1 zW10).trans yW10_1; go_simp; refine comes_v ?_; exact ⟨k1, k2, k3, k4⟩))
            (try simp only [Act.put, List.setIfInBounds_toArray, List.set_cons_zero, List.set_cons_succ])
            first | refine wpB_skip 15 rfl (by kernel_rfl) (by kernel_rfl) (by kernel_rfl) (by rfl) ?_ | (refine wpB_text 15 (v := ?_) rfl (by kernel_rfl) (by kernel_rfl) (by kernel_rfl) (by rfl) (fun W hW => ?_) ?_; rotate_left; (obtain ⟨k1, k2, k3, k4⟩ := hW; have d0 := ((bcell k1).1 _ 0 zW10).trans yW10_0; have d1 := ((bcell k1).1 _ 1 zW10).trans yW10_1; go_simp; refine comes_v ?_; exact ⟨k1, k2, k3, k4⟩))
            (try simp only [Act.put, List.setIfInBounds_toArray, List.set_cons_zero, List.set_cons_succ])
            first | refine wpB_skip 16 rfl (by kernel_rfl) (by kernel_rfl) (by kernel_rfl) (by rfl) ?_ | (refine wpB_text 16 (v := ?_) rfl (by kernel_rfl) (by kernel_rfl) (by kernel_rfl) (by rfl) (fun W hW => ?_) ?_; rotate_left; (obtain ⟨k1, k2, k3, k4⟩ := hW; have d0 := ((bcell k1).1 _ 0 zW10).trans yW10_0; have d1 := ((bcell k1).1 _ 1 zW10).trans yW10_1; go_simp; refine comes_v ?_; exact ⟨k1, k2, k3, k4⟩))
            (try simp only [Act.put, List.setIfInBounds_toArray, List.set_cons_zero, List.set_cons_succ])
            first | refine wpB_skip 17 rfl (by kernel_rfl) (by kernel_rfl) (by kernel_rfl) (by rfl) ?_ | (refine wpB_text 17 (v := ?_) rfl (by kernel_rfl) (by kernel_rfl) (by kernel_rfl) (by rfl) (fun W hW => ?_) ?_; rotate_left; (obtain ⟨k1, k2, k3, k4⟩ := hW; have d0 := ((bcell k1).1 _ 0 zW10).trans yW10_0; have d1 := ((bcell k1).1 _ 1 zW10).trans yW10_1; go_simp; refine comes_v ?_; exact ⟨k1, k2, k3, k4⟩))
            (try simp only [Act.put, List.setIfInBounds_toArray, List.set_cons_zero, List.set_cons_succ])
            first | refine wpB_skip 18 rfl (by kernel_rfl) (by kernel_rfl) (by kernel_rfl) (by rfl) ?_ | (refine wpB_text 18 (v := ?_) rfl (by kernel_rfl) (by kernel_rfl) (by kernel_rfl) (by rfl) (fun W hW => ?_) ?_; rotate_left; (obtain ⟨k1, k2, k3, k4⟩ := hW; have d0 := ((bcell k1).1 _ 0 zW10).trans yW10_0; have d1 := ((bcell k1).1 _ 1 zW10).trans yW10_1; go_simp; refine comes_v ?_; exact ⟨k1, k2, k3, k4⟩))
            (try simp only [Act.put, List.setIfInBounds_toArray, List.set_cons_zero, List.set_cons_succ])
            first | refine wpB_skip 19 rfl (by kernel_rfl) (by kernel_rfl) (by kernel_rfl) (by rfl) ?_ | (refine wpB_text 19 (v := ?_) rfl (by kernel_rfl) (by kernel_rfl) (by kernel_rfl) (by rfl) (fun W hW => ?_) ?_; rotate_left; (obtain ⟨k1, k2, k3, k4⟩ := hW; have d0 := ((bcell k1).1 _ 0 zW10).trans yW10_0; have d1 := ((bcell k1).1 _ 1 zW10).trans yW10_1; go_simp; refine comes_v ?_; exact ⟨k1, k2, k3, k4⟩))
            (try simp only [Act.put, List.setIfInBounds_toArray, List.set_cons_zero, List.set_cons_succ])
            first | refine wpB_skip 20 rfl (by kernel_rfl) (by kernel_rfl) (by kernel_rfl) (by rfl) ?_ | (refine wpB_text 20 (v := ?_) rfl (by kernel_rfl) (by kernel_rfl) (by kernel_rfl) (by rfl) (fun W hW => ?_) ?_; rotate_left; (obtain ⟨k1, k2, k3, k4⟩ := hW; have d0 := ((bcell k1).1 _ 0 zW10).trans yW10_0; have d1 := ((bcell k1).1 _ 1 zW10).trans yW10_1; go_simp; refine comes_v ?_; exact ⟨k1, k2, k3, k4⟩))
            (try simp only [Act.put, List.setIfInBounds_toArray, List.set_cons_zero, List.set_cons_succ])
            refine wpB_done (by kernel_rfl) ?_ _
            intro W hW; obtain ⟨k1, k2, k3, k4⟩ := hW
            go_wp2_with fail
            go_roundg (n - (k + 1))
            case measure => have := HGK.out; omega
            case rel => exact ⟨k + 1, by omega, rfl, by go_num, k1, HF3⟩
        · have hn1 : (1 : Int) < (n : Int) := by omega
          have e1 : IntKind.i64.wrap ((k : Int) + 1) = (k : Int) + 1 := IntWalk.i64_in _ (by omega)
          have e2 : ¬ n = 0 := by omega
          have e3 : (0 : Int) ≤ ((k : Int) + 1) % (n : Int) := Int.emod_nonneg _ (by omega)
          have e4 : ((k : Int) + 1) % (n : Int) < (n : Int) := Int.emod_lt_of_pos _ (by omega)
          have e5 : ((k : Int) + 1).tmod (n : Int) = ((k : Int) + 1) % (n : Int) := Int.tmod_eq_emod_of_nonneg (by omega)
          have e6 : (((k : Int) + 1) % (n : Int)).toNat = (k + 1) % n := by rw [show ((k : Int) + 1) % (n : Int) = (((k + 1) % n : Nat) : Int) by simp]; exact Int.toNat_natCast _
          have HX := Lib.hid (And.intro e1 (And.intro e3 (And.intro e4 (And.intro e5 e6))))
          clear e1 e3 e4 e5 e6
          by_cases f1 : q1 = p1
          · have f2 : ¬ q2 = p2 := fun h => he ⟨f1, h⟩
            clear he
            subst f1
            go_wp2_with fail
            obtain ⟨e1, e3, e4, e5, e6⟩ := HX.out
            refine wp_region_B (fun W => Below W1.heap.size W1 W ∧ wo.heap.size < W.heap.size ∧ W.cell? ⟨wo.heap.size, 0, none⟩ = some (.int .i64 q1) ∧ W.cell? ⟨wo.heap.size, 1, none⟩ = some (.int .i64 q2)) (by kernel_rfl) ⟨hb1.drew, by simp, by go_simp, by go_simp⟩ ?_
            clear hq hb1
            first | refine wpB_skip 0 rfl (by kernel_rfl) (by kernel_rfl) (by kernel_rfl) (by rfl) ?_ | (refine wpB_text 0 (v := ?_) rfl (by kernel_rfl) (by kernel_rfl) (by kernel_rfl) (by rfl) (fun W hW => ?_) ?_; rotate_left; (obtain ⟨k1, k2, k3, k4⟩ := hW; have c1 := HC1.out W k1 ((k + 1) % n) m2; have d0 := ((bcell k1).1 _ 0 zW10).trans yW10_0; have d1 := ((bcell k1).1 _ 1 zW10).trans yW10_1; go_simp; refine comes_v ?_; exact ⟨k1, k2, k3, k4⟩))
            (try simp only [Act.put, List.setIfInBounds_toArray, List.set_cons_zero, List.set_cons_succ])
            first | refine wpB_skip 1 rfl (by kernel_rfl) (by kernel_rfl) (by kernel_rfl) (by rfl) ?_ | (refine wpB_text 1 (v := ?_) rfl (by kernel_rfl) (by kernel_rfl) (by kernel_rfl) (by rfl) (fun W hW => ?_) ?_; rotate_left; (obtain ⟨k1, k2, k3, k4⟩ := hW; have c1 := HC1.out W k1 ((k + 1) % n) m2; have d0 := ((bcell k1).1 _ 0 zW10).trans yW10_0; have d1 := ((bcell k1).1 _ 1 zW10).trans yW10_1; go_simp; refine comes_v ?_; exact ⟨k1, k2, k3, k4⟩))
            (try simp only [Act.put, List.setIfInBounds_toArray, List.set_cons_zero, List.set_cons_succ])
            first | refine wpB_skip 2 rfl (by kernel_rfl) (by kernel_rfl) (by kernel_rfl) (by rfl) ?_ | (refine wpB_text 2 (v := ?_) rfl (by kernel_rfl) (by kernel_rfl) (by kernel_rfl) (by rfl) (fun W hW => ?_) ?_; rotate_left; (obtain ⟨k1, k2, k3, k4⟩ := hW; have c1 := HC1.out W k1 ((k + 1) % n) m2; have d0 := ((bcell k1).1 _ 0 zW10).trans yW10_0; have d1 := ((bcell k1).1 _ 1 zW10).trans yW10_1; go_simp; refine comes_v ?_; exact ⟨k1, k2, k3, k4⟩))
            (try simp only [Act.put, List.setIfInBounds_toArray, List.set_cons_zero, List.set_cons_succ])
            first | refine wpB_skip 3 rfl (by kernel_rfl) (by kernel_rfl) (by kernel_rfl) (by rfl) ?_ | (refine wpB_text 3 (v := ?_) rfl (by kernel_rfl) (by kernel_rfl) (by kernel_rfl) (by rfl) (fun W hW => ?_) ?_; rotate_left; (obtain ⟨k1, k2, k3, k4⟩ := hW; have c1 := HC1.out W k1 ((k + 1) % n) m2; have d0 := ((bcell k1).1 _ 0 zW10).trans yW10_0; have d1 := ((bcell k1).1 _ 1 zW10).trans yW10_1; go_simp; refine comes_v ?_; exact ⟨k1, k2, k3, k4⟩))
            (try simp only [Act.put, List.setIfInBounds_toArray, List.set_cons_zero, List.set_cons_succ])
            first | refine wpB_skip 4 rfl (by kernel_rfl) (by kernel_rfl) (by kernel_rfl) (by rfl) ?_ | (refine wpB_text 4 (v := ?_) rfl (by kernel_rfl) (by kernel_rfl) (by kernel_rfl) (by rfl) (fun W hW => ?_) ?_; rotate_left; (obtain ⟨k1, k2, k3, k4⟩ := hW; have c1 := HC1.out W k1 ((k + 1) % n) m2; have d0 := ((bcell k1).1 _ 0 zW10).trans yW10_0; have d1 := ((bcell k1).1 _ 1 zW10).trans yW10_1; go_simp; refine comes_v ?_; exact ⟨k1, k2, k3, k4⟩))
            (try simp only [Act.put, List.setIfInBounds_toArray, List.set_cons_zero, List.set_cons_succ])
            first | refine wpB_skip 5 rfl (by kernel_rfl) (by kernel_rfl) (by kernel_rfl) (by rfl) ?_ | (refine wpB_text 5 (v := ?_) rfl (by kernel_rfl) (by kernel_rfl) (by kernel_rfl) (by rfl) (fun W hW => ?_) ?_; rotate_left; (obtain ⟨k1, k2, k3, k4⟩ := hW; have c1 := HC1.out W k1 ((k + 1) % n) m2; have d0 := ((bcell k1).1 _ 0 zW10).trans yW10_0; have d1 := ((bcell k1).1 _ 1 zW10).trans yW10_1; go_simp; refine comes_v ?_; exact ⟨k1, k2, k3, k4⟩))
            (try simp only [Act.put, List.setIfInBounds_toArray, List.set_cons_zero, List.set_cons_succ])
            first | refine wpB_skip 6 rfl (by kernel_rfl) (by kernel_rfl) (by kernel_rfl) (by rfl) ?_ | (refine wpB_text 6 (v := ?_) rfl (by kernel_rfl) (by kernel_rfl) (by kernel_rfl) (by rfl) (fun W hW => ?_) ?_; rotate_left; (obtain ⟨k1, k2, k3, k4⟩ := hW; have c1 := HC1.out W k1 ((k + 1) % n) m2; have d0 := ((bcell k1).1 _ 0 zW10).trans yW10_0; have d1 := ((bcell k1).1 _ 1 zW10).trans yW10_1; go_simp; refine comes_v ?_; exact ⟨k1, k2, k3, k4⟩))
            (try simp only [Act.put, List.setIfInBounds_toArray, List.set_cons_zero, List.set_cons_succ])
            first | refine wpB_skip 7 rfl (by kernel_rfl) (by kernel_rfl) (by kernel_rfl) (by rfl) ?_ | (refine wpB_text 7 (v := ?_) rfl (by kernel_rfl) (by kernel_rfl) (by kernel_rfl) (by rfl) (fun W hW => ?_) ?_; rotate_left; (obtain ⟨k1, k2, k3, k4⟩ := hW; have c1 := HC1.out W k1 ((k + 1) % n) m2; have d0 := ((bcell k1).1 _ 0 zW10).trans yW10_0; have d1 := ((bcell k1).1 _ 1 zW10).trans yW10_1; go_simp; refine comes_v ?_; exact ⟨k1, k2, k3, k4⟩))
            (try simp only [Act.put, List.setIfInBounds_toArray, List.set_cons_zero, List.set_cons_succ])
            first | refine wpB_skip 8 rfl (by kernel_rfl) (by kernel_rfl) (by kernel_rfl) (by rfl) ?_ | (refine wpB_text 8 (v := ?_) rfl (by kernel_rfl) (by kernel_rfl) (by kernel_rfl) (by rfl) (fun W hW => ?_) ?_; rotate_left; (obtain ⟨k1, k2, k3, k4⟩ := hW; have c1 := HC1.out W k1 ((k + 1) % n) m2; have d0 := ((bcell k1).1 _ 0 zW10).trans yW10_0; have d1 := ((bcell k1).1 _ 1 zW10).trans yW10_1; go_simp; refine comes_v ?_; exact ⟨k1, k2, k3, k4⟩))
            (try simp only [Act.put, List.setIfInBounds_toArray, List.set_cons_zero, List.set_cons_succ])
            first | refine wpB_skip 9 rfl (by kernel_rfl) (by kernel_rfl) (by kernel_rfl) (by rfl) ?_ | (refine wpB_text 9 (v := ?_) rfl (by kernel_rfl) (by kernel_rfl) (by kernel_rfl) (by rfl) (fun W hW => ?_) ?_; rotate_left; (obtain ⟨k1, k2, k3, k4⟩ := hW; have c1 := HC1.out W k1 ((k + 1) % n) m2; have d0 := ((bcell k1).1 _ 0 zW10).trans yW10_0; have d1 := ((bcell k1).1 _ 1 zW10).trans yW10_1; go_simp; refine comes_v ?_; exact ⟨k1, k2, k3, k4⟩))
            (try simp only [Act.put, List.setIfInBounds_toArray, List.set_cons_zero, List.set_cons_succ])
            first | refine wpB_skip 10 rfl (by kernel_rfl) (by kernel_rfl) (by kernel_rfl) (by rfl) ?_ | (refine wpB_text 10 (v := ?_) rfl (by kernel_rfl) (by kernel_rfl) (by kernel_rfl) (by rfl) (fun W hW => ?_) ?_; rotate_left; (obtain ⟨k1, k2, k3, k4⟩ := hW; have c1 := HC1.out W k1 ((k + 1) % n) m2; have d0 := ((bcell k1).1 _ 0 zW10).trans yW10_0; have d1 := ((bcell k1).1 _ 1 zW10).trans yW10_1; go_simp; refine comes_v ?_; exact ⟨k1, k2, k3, k4⟩))
            (try simp only [Act.put, List.setIfInBounds_toArray, List.set_cons_zero, List.set_cons_succ])
            first | refine wpB_skip 11 rfl (by kernel_rfl) (by kernel_rfl) (by kernel_rfl) (by rfl) ?_ | (refine wpB_text 11 (v := ?_) rfl (by kernel_rfl) (by kernel_rfl) (by kernel_rfl) (by rfl) (fun W hW => ?_) ?_; rotate_left; (obtain ⟨k1, k2, k3, k4⟩ := hW; have c1 := HC1.out W k1 ((k + 1) % n) m2; have d0 := ((bcell k1).1 _ 0 zW10).trans yW10_0; have d1 := ((bcell k1).1 _ 1 zW10).trans yW10_1; go_simp; refine comes_v ?_; exact ⟨k1, k2, k3, k4⟩))
            (try simp only [Act.put, List.setIfInBounds_toArray, List.set_cons_zero, List.set_cons_succ])
            first | refine wpB_skip 12 rfl (by kernel_rfl) (by kernel_rfl) (by kernel_rfl) (by rfl) ?_ | (refine wpB_text 12 (v := ?_) rfl (by kernel_rfl) (by kernel_rfl) (by kernel_rfl) (by rfl) (fun W hW => ?_) ?_; rotate_left; (obtain ⟨k1, k2, k3, k4⟩ := hW; have c1 := HC1.out W k1 ((k + 1) % n) m2; have d0 := ((bcell k1).1 _ 0 zW10).trans yW10_0; have d1 := ((bcell k1).1 _ 1 zW10).trans yW10_1; go_simp; refine comes_v ?_; exact ⟨k1, k2, k3, k4⟩))
            (try simp only [Act.put, List.setIfInBounds_toArray, List.set_cons_zero, List.set_cons_succ])
            first | refine wpB_skip 13 rfl (by kernel_rfl) (by kernel_rfl) (by kernel_rfl) (by rfl) ?_ | (refine wpB_text 13 (v := ?_) rfl (by kernel_rfl) (by kernel_rfl) (by kernel_rfl) (by rfl) (fun W hW => ?_) ?_; rotate_left; (obtain ⟨k1, k2, k3, k4⟩ := hW; have c1 := HC1.out W k1 ((k + 1) % n) m2; have d0 := ((bcell k1).1 _ 0 zW10).trans yW10_0; have d1 := ((bcell k1).1 _ 1 zW10).trans yW10_1; go_simp; refine comes_v ?_; exact ⟨k1, k2, k3, k4⟩))
            (try simp only [Act.put, List.setIfInBounds_toArray, List.set_cons_zero, List.set_cons_succ])
            first | refine wpB_skip 14 rfl (by kernel_rfl) (by kernel_rfl) (by kernel_rfl) (by rfl) ?_ | (refine wpB_text 14 (v := ?_) rfl (by kernel_rfl) (by kernel_rfl) (by kernel_rfl) (by rfl) (fun W hW => ?_) ?_; rotate_left; (obtain ⟨k1, k2, k3, k4⟩ := hW; have c1 := HC1.out W k1 ((k + 1) % n) m2; have d0 := ((bcell k1).1 _ 0 zW10).trans yW10_0; have d1 := ((bcell k1).1 _ 1 zW10).trans yW10_1; go_simp; refine comes_v ?_; exact ⟨k1, k2, k3, k4⟩))
            (try simp only [Act.put, List.setIfInBounds_toArray, List.set_cons_zero, List.set_cons_succ])
            first | refine wpB_skip 15 rfl (by kernel_rfl) (by kernel_rfl) (by kernel_rfl) (by rfl) ?_ | (refine wpB_text 15 (v := ?_) rfl (by kernel_rfl) (by kernel_rfl) (by kernel_rfl) (by rfl) (fun W hW => ?_) ?_; rotate_left; (obtain ⟨k1, k2, k3, k4⟩ := hW; have c1 := HC1.out W k1 ((k + 1) % n) m2; have d0 := ((bcell k1).1 _ 0 zW10).trans yW10_0; have d1 := ((bcell k1).1 _ 1 zW10).trans yW10_1; go_simp; refine comes_v ?_; exact ⟨k1, k2, k3, k4⟩))
            (try simp only [Act.put, List.setIfInBounds_toArray, List.set_cons_zero, List.set_cons_succ])
            first | refine wpB_skip 16 rfl (by kernel_rfl) (by kernel_rfl) (by kernel_rfl) (by rfl) ?_ | (refine wpB_text 16 (v := ?_) rfl (by kernel_rfl) (by kernel_rfl) (by kernel_rfl) (by rfl) (fun W hW => ?_) ?_; rotate_left; (obtain ⟨k1, k2, k3, k4⟩ := hW; have c1 := HC1.out W k1 ((k + 1) % n) m2; have d0 := ((bcell k1).1 _ 0 zW10).trans yW10_0; have d1 := ((bcell k1).1 _ 1 zW10).trans yW10_1; go_simp; refine comes_v ?_; exact ⟨k1, k2, k3, k4⟩))
            (try simp only [Act.put, List.setIfInBounds_toArray, List.set_cons_zero, List.set_cons_succ])
            first | refine wpB_skip 17 rfl (by kernel_rfl) (by kernel_rfl) (by kernel_rfl) (by rfl) ?_ | (refine wpB_text 17 (v := ?_) rfl (by kernel_rfl) (by kernel_rfl) (by kernel_rfl) (by rfl) (fun W hW => ?_) ?_; rotate_left; (obtain ⟨k1, k2, k3, k4⟩ := hW; have c1 := HC1.out W k1 ((k + 1) % n) m2; have d0 := ((bcell k1).1 _ 0 zW10).trans yW10_0; have d1 := ((bcell k1).1 _ 1 zW10).trans yW10_1; go_simp; refine comes_v ?_; exact ⟨k1, k2, k3, k4⟩))
            (try simp only [Act.put, List.setIfInBounds_toArray, List.set_cons_zero, List.set_cons_succ])
            first | refine wpB_skip 18 rfl (by kernel_rfl) (by kernel_rfl) (by kernel_rfl) (by rfl) ?_ | (refine wpB_text 18 (v := .bool ob) rfl (by kernel_rfl) (by kernel_rfl) (by kernel_rfl) (by rfl) (fun W hW => ?_) ?_; (obtain ⟨k1, k2, k3, k4⟩ := hW; have c1 := HC1.out W k1 ((k + 1) % n) m2; have d0 := ((bcell k1).1 _ 0 zW10).trans yW10_0; have d1 := ((bcell k1).1 _ 1 zW10).trans yW10_1; go_simp; exact comes_c ( T.out _) (fun wn hbn => box_keep ⟨k1, k2, k3, k4⟩ hbn)))
            (try simp only [Act.put, List.setIfInBounds_toArray, List.set_cons_zero, List.set_cons_succ])
            first | refine wpB_skip 19 rfl (by kernel_rfl) (by kernel_rfl) (by kernel_rfl) (by rfl) ?_ | (refine wpB_text 19 (v := ?_) rfl (by kernel_rfl) (by kernel_rfl) (by kernel_rfl) (by rfl) (fun W hW => ?_) ?_; rotate_left; (obtain ⟨k1, k2, k3, k4⟩ := hW; have c1 := HC1.out W k1 ((k + 1) % n) m2; have d0 := ((bcell k1).1 _ 0 zW10).trans yW10_0; have d1 := ((bcell k1).1 _ 1 zW10).trans yW10_1; go_simp; refine comes_v ?_; exact ⟨k1, k2, k3, k4⟩))
            (try simp only [Act.put, List.setIfInBounds_toArray, List.set_cons_zero, List.set_cons_succ])
            first | refine wpB_skip 20 rfl (by kernel_rfl) (by kernel_rfl) (by kernel_rfl) (by rfl) ?_ | (refine wpB_text 20 (v := ?_) rfl (by kernel_rfl) (by kernel_rfl) (by kernel_rfl) (by rfl) (fun W hW => ?_) ?_; rotate_left; (obtain ⟨k1, k2, k3, k4⟩ := hW; have c1 := HC1.out W k1 ((k + 1) % n) m2; have d0 := ((bcell k1).1 _ 0 zW10).trans yW10_0; have d1 := ((bcell k1).1 _ 1 zW10).trans yW10_1; go_simp; refine comes_v ?_; exact ⟨k1, k2, k3, k4⟩))
            (try simp only [Act.put, List.setIfInBounds_toArray, List.set_cons_zero, List.set_cons_succ])
            refine wpB_done (by kernel_rfl) ?_ _
            intro W hW; obtain ⟨k1, k2, k3, k4⟩ := hW
            clear e1 e3 e4 e5 e6
            cases ob with
            | true =>
              have HR1 := Lib.hid (HTk.out rfl)
              have BB := Lib.hid (TR.out _ k1)
              go_wp2_with fail
              go_ret
              exact ⟨ret_bool HR1.out.symm, BB.out⟩
            | false =>
              have HF3 := Lib.hid (HF2.out rfl)
              go_wp2_with fail
              go_roundg (n - (k + 1))
              case measure => have := HGK.out; omega
              case rel => exact ⟨k + 1, by omega, rfl, by go_num, k1, HF3⟩
          · clear he
            go_wp2_with fail
            obtain ⟨e1, e3, e4, e5, e6⟩ := HX.out
            refine wp_region_B (fun W => Below W1.heap.size W1 W ∧ wo.heap.size < W.heap.size ∧ W.cell? ⟨wo.heap.size, 0, none⟩ = some (.int .i64 q1) ∧ W.cell? ⟨wo.heap.size, 1, none⟩ = some (.int .i64 q2)) (by kernel_rfl) ⟨hb1.drew, by simp, by go_simp, by go_simp⟩ ?_
            clear hq hb1
            first | refine wpB_skip 0 rfl (by kernel_rfl) (by kernel_rfl) (by kernel_rfl) (by rfl) ?_ | (refine wpB_text 0 (v := ?_) rfl (by kernel_rfl) (by kernel_rfl) (by kernel_rfl) (by rfl) (fun W hW => ?_) ?_; rotate_left; (obtain ⟨k1, k2, k3, k4⟩ := hW; have c1 := HC1.out W k1 ((k + 1) % n) m2; have d0 := ((bcell k1).1 _ 0 zW10).trans yW10_0; have d1 := ((bcell k1).1 _ 1 zW10).trans yW10_1; go_simp; refine comes_v ?_; exact ⟨k1, k2, k3, k4⟩))
            (try simp only [Act.put, List.setIfInBounds_toArray, List.set_cons_zero, List.set_cons_succ])
            first | refine wpB_skip 1 rfl (by kernel_rfl) (by kernel_rfl) (by kernel_rfl) (by rfl) ?_ | (refine wpB_text 1 (v := ?_) rfl (by kernel_rfl) (by kernel_rfl) (by kernel_rfl) (by rfl) (fun W hW => ?_) ?_; rotate_left; (obtain ⟨k1, k2, k3, k4⟩ := hW; have c1 := HC1.out W k1 ((k + 1) % n) m2; have d0 := ((bcell k1).1 _ 0 zW10).trans yW10_0; have d1 := ((bcell k1).1 _ 1 zW10).trans yW10_1; go_simp; refine comes_v ?_; exact ⟨k1, k2, k3, k4⟩))
            (try simp only [Act.put, List.setIfInBounds_toArray, List.set_cons_zero, List.set_cons_succ])
            first | refine wpB_skip 2 rfl (by kernel_rfl) (by kernel_rfl) (by kernel_rfl) (by rfl) ?_ | (refine wpB_text 2 (v := ?_) rfl (by kernel_rfl) (by kernel_rfl) (by kernel_rfl) (by rfl) (fun W hW => ?_) ?_; rotate_left; (obtain ⟨k1, k2, k3, k4⟩ := hW; have c1 := HC1.out W k1 ((k + 1) % n) m2; have d0 := ((bcell k1).1 _ 0 zW10).trans yW10_0; have d1 := ((bcell k1).1 _ 1 zW10).trans yW10_1; go_simp; refine comes_v ?_; exact ⟨k1, k2, k3, k4⟩))
            (try simp only [Act.put, List.setIfInBounds_toArray, List.set_cons_zero, List.set_cons_succ])
            first | refine wpB_skip 3 rfl (by kernel_rfl) (by kernel_rfl) (by kernel_rfl) (by rfl) ?_ | (refine wpB_text 3 (v := ?_) rfl (by kernel_rfl) (by kernel_rfl) (by kernel_rfl) (by rfl) (fun W hW => ?_) ?_; rotate_left; (obtain ⟨k1, k2, k3, k4⟩ := hW; have c1 := HC1.out W k1 ((k + 1) % n) m2; have d0 := ((bcell k1).1 _ 0 zW10).trans yW10_0; have d1 := ((bcell k1).1 _ 1 zW10).trans yW10_1; go_simp; refine comes_v ?_; exact ⟨k1, k2, k3, k4⟩))
            (try simp only [Act.put, List.setIfInBounds_toArray, List.set_cons_zero, List.set_cons_succ])
            first | refine wpB_skip 4 rfl (by kernel_rfl) (by kernel_rfl) (by kernel_rfl) (by rfl) ?_ | (refine wpB_text 4 (v := ?_) rfl (by kernel_rfl) (by kernel_rfl) (by kernel_rfl) (by rfl) (fun W hW => ?_) ?_; rotate_left; (obtain ⟨k1, k2, k3, k4⟩ := hW; have c1 := HC1.out W k1 ((k + 1) % n) m2; have d0 := ((bcell k1).1 _ 0 zW10).trans yW10_0; have d1 := ((bcell k1).1 _ 1 zW10).trans yW10_1; go_simp; refine comes_v ?_; exact ⟨k1, k2, k3, k4⟩))
            (try simp only [Act.put, List.setIfInBounds_toArray, List.set_cons_zero, List.set_cons_succ])
            first | refine wpB_skip 5 rfl (by kernel_rfl) (by kernel_rfl) (by kernel_rfl) (by rfl) ?_ | (refine wpB_text 5 (v := ?_) rfl (by kernel_rfl) (by kernel_rfl) (by kernel_rfl) (by rfl) (fun W hW => ?_) ?_; rotate_left; (obtain ⟨k1, k2, k3, k4⟩ := hW; have c1 := HC1.out W k1 ((k + 1) % n) m2; have d0 := ((bcell k1).1 _ 0 zW10).trans yW10_0; have d1 := ((bcell k1).1 _ 1 zW10).trans yW10_1; go_simp; refine comes_v ?_; exact ⟨k1, k2, k3, k4⟩))
            (try simp only [Act.put, List.setIfInBounds_toArray, List.set_cons_zero, List.set_cons_succ])
            first | refine wpB_skip 6 rfl (by kernel_rfl) (by kernel_rfl) (by kernel_rfl) (by rfl) ?_ | (refine wpB_text 6 (v := ?_) rfl (by kernel_rfl) (by kernel_rfl) (by kernel_rfl) (by rfl) (fun W hW => ?_) ?_; rotate_left; (obtain ⟨k1, k2, k3, k4⟩ := hW; have c1 := HC1.out W k1 ((k + 1) % n) m2; have d0 := ((bcell k1).1 _ 0 zW10).trans yW10_0; have d1 := ((bcell k1).1 _ 1 zW10).trans yW10_1; go_simp; refine comes_v ?_; exact ⟨k1, k2, k3, k4⟩))
            (try simp only [Act.put, List.setIfInBounds_toArray, List.set_cons_zero, List.set_cons_succ])
            first | refine wpB_skip 7 rfl (by kernel_rfl) (by kernel_rfl) (by kernel_rfl) (by rfl) ?_ | (refine wpB_text 7 (v := ?_) rfl (by kernel_rfl) (by kernel_rfl) (by kernel_rfl) (by rfl) (fun W hW => ?_) ?_; rotate_left; (obtain ⟨k1, k2, k3, k4⟩ := hW; have c1 := HC1.out W k1 ((k + 1) % n) m2; have d0 := ((bcell k1).1 _ 0 zW10).trans yW10_0; have d1 := ((bcell k1).1 _ 1 zW10).trans yW10_1; go_simp; refine comes_v ?_; exact ⟨k1, k2, k3, k4⟩))
            (try simp only [Act.put, List.setIfInBounds_toArray, List.set_cons_zero, List.set_cons_succ])
            first | refine wpB_skip 8 rfl (by kernel_rfl) (by kernel_rfl) (by kernel_rfl) (by rfl) ?_ | (refine wpB_text 8 (v := ?_) rfl (by kernel_rfl) (by kernel_rfl) (by kernel_rfl) (by rfl) (fun W hW => ?_) ?_; rotate_left; (obtain ⟨k1, k2, k3, k4⟩ := hW; have c1 := HC1.out W k1 ((k + 1) % n) m2; have d0 := ((bcell k1).1 _ 0 zW10).trans yW10_0; have d1 := ((bcell k1).1 _ 1 zW10).trans yW10_1; go_simp; refine comes_v ?_; exact ⟨k1, k2, k3, k4⟩))
            (try simp only [Act.put, List.setIfInBounds_toArray, List.set_cons_zero, List.set_cons_succ])
            first | refine wpB_skip 9 rfl (by kernel_rfl) (by kernel_rfl) (by kernel_rfl) (by rfl) ?_ | (refine wpB_text 9 (v := ?_) rfl (by kernel_rfl) (by kernel_rfl) (by kernel_rfl) (by rfl) (fun W hW => ?_) ?_; rotate_left; (obtain ⟨k1, k2, k3, k4⟩ := hW; have c1 := HC1.out W k1 ((k + 1) % n) m2; have d0 := ((bcell k1).1 _ 0 zW10).trans yW10_0; have d1 := ((bcell k1).1 _ 1 zW10).trans yW10_1; go_simp; refine comes_v ?_; exact ⟨k1, k2, k3, k4⟩))
            (try simp only [Act.put, List.setIfInBounds_toArray, List.set_cons_zero, List.set_cons_succ])
            first | refine wpB_skip 10 rfl (by kernel_rfl) (by kernel_rfl) (by kernel_rfl) (by rfl) ?_ | (refine wpB_text 10 (v := ?_) rfl (by kernel_rfl) (by kernel_rfl) (by kernel_rfl) (by rfl) (fun W hW => ?_) ?_; rotate_left; (obtain ⟨k1, k2, k3, k4⟩ := hW; have c1 := HC1.out W k1 ((k + 1) % n) m2; have d0 := ((bcell k1).1 _ 0 zW10).trans yW10_0; have d1 := ((bcell k1).1 _ 1 zW10).trans yW10_1; go_simp; refine comes_v ?_; exact ⟨k1, k2, k3, k4⟩))
            (try simp only [Act.put, List.setIfInBounds_toArray, List.set_cons_zero, List.set_cons_succ])
            first | refine wpB_skip 11 rfl (by kernel_rfl) (by kernel_rfl) (by kernel_rfl) (by rfl) ?_ | (refine wpB_text 11 (v := ?_) rfl (by kernel_rfl) (by kernel_rfl) (by kernel_rfl) (by rfl) (fun W hW => ?_) ?_; rotate_left; (obtain ⟨k1, k2, k3, k4⟩ := hW; have c1 := HC1.out W k1 ((k + 1) % n) m2; have d0 := ((bcell k1).1 _ 0 zW10).trans yW10_0; have d1 := ((bcell k1).1 _ 1 zW10).trans yW10_1; go_simp; refine comes_v ?_; exact ⟨k1, k2, k3, k4⟩))
            (try simp only [Act.put, List.setIfInBounds_toArray, List.set_cons_zero, List.set_cons_succ])
            first | refine wpB_skip 12 rfl (by kernel_rfl) (by kernel_rfl) (by kernel_rfl) (by rfl) ?_ | (refine wpB_text 12 (v := ?_) rfl (by kernel_rfl) (by kernel_rfl) (by kernel_rfl) (by rfl) (fun W hW => ?_) ?_; rotate_left; (obtain ⟨k1, k2, k3, k4⟩ := hW; have c1 := HC1.out W k1 ((k + 1) % n) m2; have d0 := ((bcell k1).1 _ 0 zW10).trans yW10_0; have d1 := ((bcell k1).1 _ 1 zW10).trans yW10_1; go_simp; refine comes_v ?_; exact ⟨k1, k2, k3, k4⟩))
            (try simp only [Act.put, List.setIfInBounds_toArray, List.set_cons_zero, List.set_cons_succ])
            first | refine wpB_skip 13 rfl (by kernel_rfl) (by kernel_rfl) (by kernel_rfl) (by rfl) ?_ | (refine wpB_text 13 (v := ?_) rfl (by kernel_rfl) (by kernel_rfl) (by kernel_rfl) (by rfl) (fun W hW => ?_) ?_; rotate_left; (obtain ⟨k1, k2, k3, k4⟩ := hW; have c1 := HC1.out W k1 ((k + 1) % n) m2; have d0 := ((bcell k1).1 _ 0 zW10).trans yW10_0; have d1 := ((bcell k1).1 _ 1 zW10).trans yW10_1; go_simp; refine comes_v ?_; exact ⟨k1, k2, k3, k4⟩))
            (try simp only [Act.put, List.setIfInBounds_toArray, List.set_cons_zero, List.set_cons_succ])
            first | refine wpB_skip 14 rfl (by kernel_rfl) (by kernel_rfl) (by kernel_rfl) (by rfl) ?_ | (refine wpB_text 14 (v := ?_) rfl (by kernel_rfl) (by kernel_rfl) (by kernel_rfl) (by rfl) (fun W hW => ?_) ?_; rotate_left; (obtain ⟨k1, k2, k3, k4⟩ := hW; have c1 := HC1.out W k1 ((k + 1) % n) m2; have d0 := ((bcell k1).1 _ 0 zW10).trans yW10_0; have d1 := ((bcell k1).1 _ 1 zW10).trans yW10_1; go_simp; refine comes_v ?_; exact ⟨k1, k2, k3, k4⟩))
            (try simp only [Act.put, List.setIfInBounds_toArray, List.set_cons_zero, List.set_cons_succ])
            first | refine wpB_skip 15 rfl (by kernel_rfl) (by kernel_rfl) (by kernel_rfl) (by rfl) ?_ | (refine wpB_text 15 (v := ?_) rfl (by kernel_rfl) (by kernel_rfl) (by kernel_rfl) (by rfl) (fun W hW => ?_) ?_; rotate_left; (obtain ⟨k1, k2, k3, k4⟩ := hW; have c1 := HC1.out W k1 ((k + 1) % n) m2; have d0 := ((bcell k1).1 _ 0 zW10).trans yW10_0; have d1 := ((bcell k1).1 _ 1 zW10).trans yW10_1; go_simp; refine comes_v ?_; exact ⟨k1, k2, k3, k4⟩))
            (try simp only [Act.put, List.setIfInBounds_toArray, List.set_cons_zero, List.set_cons_succ])
            first | refine wpB_skip 16 rfl (by kernel_rfl) (by kernel_rfl) (by kernel_rfl) (by rfl) ?_ | (refine wpB_text 16 (v := ?_) rfl (by kernel_rfl) (by kernel_rfl) (by kernel_rfl) (by rfl) (fun W hW => ?_) ?_; rotate_left; (obtain ⟨k1, k2, k3, k4⟩ := hW; have c1 := HC1.out W k1 ((k + 1) % n) m2; have d0 := ((bcell k1).1 _ 0 zW10).trans yW10_0; have d1 := ((bcell k1).1 _ 1 zW10).trans yW10_1; go_simp; refine comes_v ?_; exact ⟨k1, k2, k3, k4⟩))
            (try simp only [Act.put, List.setIfInBounds_toArray, List.set_cons_zero, List.set_cons_succ])
            first | refine wpB_skip 17 rfl (by kernel_rfl) (by kernel_rfl) (by kernel_rfl) (by rfl) ?_ | (refine wpB_text 17 (v := ?_) rfl (by kernel_rfl) (by kernel_rfl) (by kernel_rfl) (by rfl) (fun W hW => ?_) ?_; rotate_left; (obtain ⟨k1, k2, k3, k4⟩ := hW; have c1 := HC1.out W k1 ((k + 1) % n) m2; have d0 := ((bcell k1).1 _ 0 zW10).trans yW10_0; have d1 := ((bcell k1).1 _ 1 zW10).trans yW10_1; go_simp; refine comes_v ?_; exact ⟨k1, k2, k3, k4⟩))
            (try simp only [Act.put, List.setIfInBounds_toArray, List.set_cons_zero, List.set_cons_succ])
            first | refine wpB_skip 18 rfl (by kernel_rfl) (by kernel_rfl) (by kernel_rfl) (by rfl) ?_ | (refine wpB_text 18 (v := .bool ob) rfl (by kernel_rfl) (by kernel_rfl) (by kernel_rfl) (by rfl) (fun W hW => ?_) ?_; (obtain ⟨k1, k2, k3, k4⟩ := hW; have c1 := HC1.out W k1 ((k + 1) % n) m2; have d0 := ((bcell k1).1 _ 0 zW10).trans yW10_0; have d1 := ((bcell k1).1 _ 1 zW10).trans yW10_1; go_simp; exact comes_c ( T.out _) (fun wn hbn => box_keep ⟨k1, k2, k3, k4⟩ hbn)))
            (try simp only [Act.put, List.setIfInBounds_toArray, List.set_cons_zero, List.set_cons_succ])
            first | refine wpB_skip 19 rfl (by kernel_rfl) (by kernel_rfl) (by kernel_rfl) (by rfl) ?_ | (refine wpB_text 19 (v := ?_) rfl (by kernel_rfl) (by kernel_rfl) (by kernel_rfl) (by rfl) (fun W hW => ?_) ?_; rotate_left; (obtain ⟨k1, k2, k3, k4⟩ := hW; have c1 := HC1.out W k1 ((k + 1) % n) m2; have d0 := ((bcell k1).1 _ 0 zW10).trans yW10_0; have d1 := ((bcell k1).1 _ 1 zW10).trans yW10_1; go_simp; refine comes_v ?_; exact ⟨k1, k2, k3, k4⟩))
            (try simp only [Act.put, List.setIfInBounds_toArray, List.set_cons_zero, List.set_cons_succ])
            first | refine wpB_skip 20 rfl (by kernel_rfl) (by kernel_rfl) (by kernel_rfl) (by rfl) ?_ | (refine wpB_text 20 (v := ?_) rfl (by kernel_rfl) (by kernel_rfl) (by kernel_rfl) (by rfl) (fun W hW => ?_) ?_; rotate_left; (obtain ⟨k1, k2, k3, k4⟩ := hW; have c1 := HC1.out W k1 ((k + 1) % n) m2; have d0 := ((bcell k1).1 _ 0 zW10).trans yW10_0; have d1 := ((bcell k1).1 _ 1 zW10).trans yW10_1; go_simp; refine comes_v ?_; exact ⟨k1, k2, k3, k4⟩))
            (try simp only [Act.put, List.setIfInBounds_toArray, List.set_cons_zero, List.set_cons_succ])
            refine wpB_done (by kernel_rfl) ?_ _
            intro W hW; obtain ⟨k1, k2, k3, k4⟩ := hW
            clear e1 e3 e4 e5 e6
            cases ob with
            | true =>
              have HR1 := Lib.hid (HTk.out rfl)
              have BB := Lib.hid (TR.out _ k1)
              go_wp2_with fail
              go_ret
              exact ⟨ret_bool HR1.out.symm, BB.out⟩
            | false =>
              have HF3 := Lib.hid (HF2.out rfl)
              go_wp2_with fail
              go_roundg (n - (k + 1))
              case measure => have := HGK.out; omega
              case rel => exact ⟨k + 1, by omega, rfl, by go_num, k1, HF3⟩
    · have hkn : n = k := by omega
      have HR1 := Lib.hid (HF0.out (fun i hi => hF.out i (by omega)))
      subst hkn
      have BB := Lib.hid (TR.out _ hB)
      go_wp2_with fail
      go_ret
      exact ⟨ret_bool HR1.out.symm, BB.out⟩
set_option maxHeartbeats 8000000 in
theorem bdIn_any (A : Option Addr) (c : Nat) (l : List (Int × Int)) (p : Int × Int) (w : World) (h1 : 1 ≤ l.length) (hn : l.length ≤ 60) (hp : ∀ i, i < l.length → isPg (vx l i) = true) (hpp : isPg p = true) (hR : Rd w w.heap.size A l) :
    Calls Try.prog 60 #[.slice A l.length c, .agg #[.int .i64 p.1, .int .i64 p.2]] w fun e w' => e = .returned (.bool (inHB l p)) ∧ Below w.heap.size w w' := by
  by_cases h3 : l.length < 3
  · have KO := Lib.hid (fun W (hb : Below w.heap.size w W) => bdOn_any A c l p W h1 hn hp hpp (rd_more (rd_below hR hb (Nat.le_refl _)) hb.size))
    have e : inHB l p = onHB l p := by unfold inHB; rw [if_pos h3]
    rw [e]
    obtain ⟨p1, p2⟩ := p
    clear hR hp hpp e
    generalize onHB l (p1, p2) = r at *
    have hn3 : (l.length : Int) < 3 := by omega
    go_enter Try.func60, Try.ntmps60
    go_wp2_with fail
    obtain ⟨W1, hW1⟩ : ∃ W1, W1 = (w.alloc (.cells #[.int .i64 p1, .int .i64 p2] 38)) := ⟨_, rfl⟩
    rw [← hW1]
    have yW10_0 : W1.cell? ⟨w.heap.size, 0, none⟩ = some (.int .i64 p1) := by rw [hW1]; go_simp
    have yW10_1 : W1.cell? ⟨w.heap.size, 1, none⟩ = some (.int .i64 p2) := by rw [hW1]; go_simp
    have fW10 : ∀ o, W1.frozen? ⟨w.heap.size, o, none⟩ = false := by intro o; rw [hW1]; (repeat rw [frozen?_alloc_cells]); simp [World.frozen?]
    have zW10 : w.heap.size < W1.heap.size := by rw [hW1]; simp <;> omega
    have BW1 : Below w.heap.size w W1 := by rw [hW1]; exact (Below.alloc (Below.refl _ _) (by simp <;> omega) _)
    have eW1 : Hid (W1.heap.size = w.heap.size + 1) := Lib.hid (by rw [hW1]; simp)
    clear hW1
    refine (KO.out W1 BW1).mono ?_; rintro e w2 ⟨rfl, hb2⟩
    have B2 := BW1.trans (hb2.mono BW1.size)
    go_wp2_with fail
    go_ret
    exact ⟨rfl, B2⟩
  obtain ⟨p1, p2⟩ := p
  obtain ⟨b, off, rfl, hb, HC⟩ := pts_of (by omega) hR
  have ZP := Lib.hid (fun i => pgs_sz hp i (by omega))
  have ZQ : Hid (Sz p1 p2) := Lib.hid (sz_of hpp)
  have e : inHB l (p1, p2) = @decide (InH l (p1, p2)) (Classical.propDecidable _) := by unfold inHB; rw [if_neg h3]
  have HF0 : Hid (∀ i, i < l.length → twI (vx l i).1 (vx l i).2 (vx l (i + 1)).1 (vx l (i + 1)).2 p1 p2 < 0 → inHB l (p1, p2) = false) := Lib.hid (fun i hi h => by
    rw [e]
    refine @decide_eq_false _ (Classical.propDecidable _) (fun hin => ?_)
    have : 0 ≤ twI (vx l i).1 (vx l i).2 (vx l (i + 1)).1 (vx l (i + 1)).2 p1 p2 := hin i hi
    omega)
  have HT : Hid ((∀ i, i < l.length → 0 ≤ twI (vx l i).1 (vx l i).2 (vx l (i + 1)).1 (vx l (i + 1)).2 p1 p2) → inHB l (p1, p2) = true) := Lib.hid (fun h => by
    rw [e]
    exact @decide_eq_true _ (Classical.propDecidable _) h)
  have hn3 : ¬ (l.length : Int) < 3 := by omega
  clear hp hpp hR e
  generalize inHB l (p1, p2) = r at *
  generalize hN : l.length = n at *
  have HN := Lib.hid hN
  clear hN
  go_enter Try.func60, Try.ntmps60
  go_wp2_with fail
  obtain ⟨W1, hW1⟩ : ∃ W1, W1 = (w.alloc (.cells #[.int .i64 p1, .int .i64 p2] 38)) := ⟨_, rfl⟩
  rw [← hW1]
  have yW10_0 : W1.cell? ⟨w.heap.size, 0, none⟩ = some (.int .i64 p1) := by rw [hW1]; go_simp
  have yW10_1 : W1.cell? ⟨w.heap.size, 1, none⟩ = some (.int .i64 p2) := by rw [hW1]; go_simp
  have fW10 : ∀ o, W1.frozen? ⟨w.heap.size, o, none⟩ = false := by intro o; rw [hW1]; (repeat rw [frozen?_alloc_cells]); simp [World.frozen?]
  have zW10 : w.heap.size < W1.heap.size := by rw [hW1]; simp <;> omega
  have BW1 : Below w.heap.size w W1 := by rw [hW1]; exact (Below.alloc (Below.refl _ _) (by simp <;> omega) _)
  have eW1 : Hid (W1.heap.size = w.heap.size + 1) := Lib.hid (by rw [hW1]; simp)
  clear hW1
  have HC1 : Hid (∀ W, Below W1.heap.size W1 W → ∀ i, i < n → W.cell? ⟨b, off + i * 2, none⟩ = some (.int .i64 (vx l i).1) ∧ W.cell? ⟨b, off + i * 2 + 1, none⟩ = some (.int .i64 (vx l i).2)) := Lib.hid (fun W hW => HC.out W (BW1.trans (hW.mono BW1.size)))
  have TR : Hid (∀ W, Below W1.heap.size W1 W → Below w.heap.size w W) := Lib.hid (fun W hW => BW1.trans (hW.mono BW1.size))
  clear fW10 eW1
  have hbW : b < W1.heap.size := by omega
  clear HC
  go_loopg [15] n (fun g i wr => ∃ k : Nat, k ≤ n ∧ g = n - k ∧ i = .int .i64 k ∧ Below W1.heap.size W1 wr ∧ Hid (∀ i, i < k → 0 ≤ twI (vx l i).1 (vx l i).2 (vx l (i + 1)).1 (vx l (i + 1)).2 p1 p2))
  case atStart => exact ⟨0, Nat.zero_le _, rfl, rfl, Below.refl _ _, Lib.hid (fun i h => absurd h (Nat.not_lt_zero _))⟩
  case round =>
    obtain ⟨k, hk, hg, rfl, hB, hF⟩ := hrel
    rename World => wo
    have HGK := Lib.hid hg
    clear hg
    by_cases hlt : k < n
    · have m2 : (k + 1) % n < n := Nat.mod_lt _ (by omega)
      have hq := HC1.out wo hB k hlt
      have hzB := hB.size
      have hbo : b < wo.heap.size := by omega
      have hb1 := Below.alloc hB hzB (.cells #[.int .i64 (vx l k).1, .int .i64 (vx l k).2] 38)
      have T := Lib.hid (fun W => (show Calls Try.prog 69 #[.agg #[.int .i64 (vx l k).1, .int .i64 (vx l k).2], .agg #[.int .i64 (vx l ((k + 1) % n)).1, .int .i64 (vx l ((k + 1) % n)).2], .agg #[.int .i64 p1, .int .i64 p2]] W fun e w' => e = .returned (.int .i64 (twI (vx l k).1 (vx l k).2 (vx l (k + 1)).1 (vx l (k + 1)).2 p1 p2)) ∧ Below W.heap.size W w' from by
        rw [← HN.out, vx_per]; exact pgTurn_any _ _ _ _ _ _ W (ZP.out _) (ZP.out _) ZQ.out))
      have HFk := Lib.hid (HF0.out k hlt)
      have HF2 : Hid (0 ≤ twI (vx l k).1 (vx l k).2 (vx l (k + 1)).1 (vx l (k + 1)).2 p1 p2 → ∀ i, i < k + 1 → 0 ≤ twI (vx l i).1 (vx l i).2 (vx l (i + 1)).1 (vx l (i + 1)).2 p1 p2) := Lib.hid (fun h i hi => by
        by_cases e : i = k
        · rw [e]; exact h
        · exact hF.out i (by omega))
      generalize twI (vx l k).1 (vx l k).2 (vx l (k + 1)).1 (vx l (k + 1)).2 p1 p2 = t at *
      generalize (vx l k).1 = q1 at *
      generalize (vx l k).2 = q2 at *
      go_wp2_with fail
      have e1 : IntKind.i64.wrap ((k : Int) + 1) = (k : Int) + 1 := IntWalk.i64_in _ (by omega)
      have e2 : ¬ n = 0 := by omega
      have e3 : (0 : Int) ≤ ((k : Int) + 1) % (n : Int) := Int.emod_nonneg _ (by omega)
      have e4 : ((k : Int) + 1) % (n : Int) < (n : Int) := Int.emod_lt_of_pos _ (by omega)
      have e5 : ((k : Int) + 1).tmod (n : Int) = ((k : Int) + 1) % (n : Int) := Int.tmod_eq_emod_of_nonneg (by omega)
      have e6 : (((k : Int) + 1) % (n : Int)).toNat = (k + 1) % n := by rw [show ((k : Int) + 1) % (n : Int) = (((k + 1) % n : Nat) : Int) by simp]; exact Int.toNat_natCast _
      refine wp_region_B (fun W => Below W1.heap.size W1 W ∧ wo.heap.size < W.heap.size ∧ W.cell? ⟨wo.heap.size, 0, none⟩ = some (.int .i64 q1) ∧ W.cell? ⟨wo.heap.size, 1, none⟩ = some (.int .i64 q2)) (by kernel_rfl) ⟨hb1.drew, by simp, by go_simp, by go_simp⟩ ?_
      clear hq hb1
      first | refine wpB_skip 0 rfl (by kernel_rfl) (by kernel_rfl) (by kernel_rfl) (by rfl) ?_ | (refine wpB_text 0 (v := ?_) rfl (by kernel_rfl) (by kernel_rfl) (by kernel_rfl) (by rfl) (fun W hW => ?_) ?_; rotate_left; (obtain ⟨k1, k2, k3, k4⟩ := hW; have c1 := HC1.out W k1 ((k + 1) % n) m2; have d0 := ((bcell k1).1 _ 0 zW10).trans yW10_0; have d1 := ((bcell k1).1 _ 1 zW10).trans yW10_1; go_simp; refine comes_v ?_; exact ⟨k1, k2, k3, k4⟩))
      (try simp only [Act.put, List.setIfInBounds_toArray, List.set_cons_zero, List.set_cons_succ])
      first | refine wpB_skip 1 rfl (by kernel_rfl) (by kernel_rfl) (by kernel_rfl) (by rfl) ?_ | (refine wpB_text 1 (v := ?_) rfl (by kernel_rfl) (by kernel_rfl) (by kernel_rfl) (by rfl) (fun W hW => ?_) ?_; rotate_left; (obtain ⟨k1, k2, k3, k4⟩ := hW; have c1 := HC1.out W k1 ((k + 1) % n) m2; have d0 := ((bcell k1).1 _ 0 zW10).trans yW10_0; have d1 := ((bcell k1).1 _ 1 zW10).trans yW10_1; go_simp; refine comes_v ?_; exact ⟨k1, k2, k3, k4⟩))
      (try simp only [Act.put, List.setIfInBounds_toArray, List.set_cons_zero, List.set_cons_succ])
      first | refine wpB_skip 2 rfl (by kernel_rfl) (by kernel_rfl) (by kernel_rfl) (by rfl) ?_ | (refine wpB_text 2 (v := ?_) rfl (by kernel_rfl) (by kernel_rfl) (by kernel_rfl) (by rfl) (fun W hW => ?_) ?_; rotate_left; (obtain ⟨k1, k2, k3, k4⟩ := hW; have c1 := HC1.out W k1 ((k + 1) % n) m2; have d0 := ((bcell k1).1 _ 0 zW10).trans yW10_0; have d1 := ((bcell k1).1 _ 1 zW10).trans yW10_1; go_simp; refine comes_v ?_; exact ⟨k1, k2, k3, k4⟩))
      (try simp only [Act.put, List.setIfInBounds_toArray, List.set_cons_zero, List.set_cons_succ])
      first | refine wpB_skip 3 rfl (by kernel_rfl) (by kernel_rfl) (by kernel_rfl) (by rfl) ?_ | (refine wpB_text 3 (v := ?_) rfl (by kernel_rfl) (by kernel_rfl) (by kernel_rfl) (by rfl) (fun W hW => ?_) ?_; rotate_left; (obtain ⟨k1, k2, k3, k4⟩ := hW; have c1 := HC1.out W k1 ((k + 1) % n) m2; have d0 := ((bcell k1).1 _ 0 zW10).trans yW10_0; have d1 := ((bcell k1).1 _ 1 zW10).trans yW10_1; go_simp; refine comes_v ?_; exact ⟨k1, k2, k3, k4⟩))
      (try simp only [Act.put, List.setIfInBounds_toArray, List.set_cons_zero, List.set_cons_succ])
      first | refine wpB_skip 4 rfl (by kernel_rfl) (by kernel_rfl) (by kernel_rfl) (by rfl) ?_ | (refine wpB_text 4 (v := ?_) rfl (by kernel_rfl) (by kernel_rfl) (by kernel_rfl) (by rfl) (fun W hW => ?_) ?_; rotate_left; (obtain ⟨k1, k2, k3, k4⟩ := hW; have c1 := HC1.out W k1 ((k + 1) % n) m2; have d0 := ((bcell k1).1 _ 0 zW10).trans yW10_0; have d1 := ((bcell k1).1 _ 1 zW10).trans yW10_1; go_simp; refine comes_v ?_; exact ⟨k1, k2, k3, k4⟩))
      (try simp only [Act.put, List.setIfInBounds_toArray, List.set_cons_zero, List.set_cons_succ])
      first | refine wpB_skip 5 rfl (by kernel_rfl) (by kernel_rfl) (by kernel_rfl) (by rfl) ?_ | (refine wpB_text 5 (v := ?_) rfl (by kernel_rfl) (by kernel_rfl) (by kernel_rfl) (by rfl) (fun W hW => ?_) ?_; rotate_left; (obtain ⟨k1, k2, k3, k4⟩ := hW; have c1 := HC1.out W k1 ((k + 1) % n) m2; have d0 := ((bcell k1).1 _ 0 zW10).trans yW10_0; have d1 := ((bcell k1).1 _ 1 zW10).trans yW10_1; go_simp; refine comes_v ?_; exact ⟨k1, k2, k3, k4⟩))
      (try simp only [Act.put, List.setIfInBounds_toArray, List.set_cons_zero, List.set_cons_succ])
      first | refine wpB_skip 6 rfl (by kernel_rfl) (by kernel_rfl) (by kernel_rfl) (by rfl) ?_ | (refine wpB_text 6 (v := ?_) rfl (by kernel_rfl) (by kernel_rfl) (by kernel_rfl) (by rfl) (fun W hW => ?_) ?_; rotate_left; (obtain ⟨k1, k2, k3, k4⟩ := hW; have c1 := HC1.out W k1 ((k + 1) % n) m2; have d0 := ((bcell k1).1 _ 0 zW10).trans yW10_0; have d1 := ((bcell k1).1 _ 1 zW10).trans yW10_1; go_simp; refine comes_v ?_; exact ⟨k1, k2, k3, k4⟩))
      (try simp only [Act.put, List.setIfInBounds_toArray, List.set_cons_zero, List.set_cons_succ])
      first | refine wpB_skip 7 rfl (by kernel_rfl) (by kernel_rfl) (by kernel_rfl) (by rfl) ?_ | (refine wpB_text 7 (v := ?_) rfl (by kernel_rfl) (by kernel_rfl) (by kernel_rfl) (by rfl) (fun W hW => ?_) ?_; rotate_left; (obtain ⟨k1, k2, k3, k4⟩ := hW; have c1 := HC1.out W k1 ((k + 1) % n) m2; have d0 := ((bcell k1).1 _ 0 zW10).trans yW10_0; have d1 := ((bcell k1).1 _ 1 zW10).trans yW10_1; go_simp; refine comes_v ?_; exact ⟨k1, k2, k3, k4⟩))
      (try simp only [Act.put, List.setIfInBounds_toArray, List.set_cons_zero, List.set_cons_succ])
      first | refine wpB_skip 8 rfl (by kernel_rfl) (by kernel_rfl) (by kernel_rfl) (by rfl) ?_ | (refine wpB_text 8 (v := ?_) rfl (by kernel_rfl) (by kernel_rfl) (by kernel_rfl) (by rfl) (fun W hW => ?_) ?_; rotate_left; (obtain ⟨k1, k2, k3, k4⟩ := hW; have c1 := HC1.out W k1 ((k + 1) % n) m2; have d0 := ((bcell k1).1 _ 0 zW10).trans yW10_0; have d1 := ((bcell k1).1 _ 1 zW10).trans yW10_1; go_simp; refine comes_v ?_; exact ⟨k1, k2, k3, k4⟩))
      (try simp only [Act.put, List.setIfInBounds_toArray, List.set_cons_zero, List.set_cons_succ])
      first | refine wpB_skip 9 rfl (by kernel_rfl) (by kernel_rfl) (by kernel_rfl) (by rfl) ?_ | (refine wpB_text 9 (v := ?_) rfl (by kernel_rfl) (by kernel_rfl) (by kernel_rfl) (by rfl) (fun W hW => ?_) ?_; rotate_left; (obtain ⟨k1, k2, k3, k4⟩ := hW; have c1 := HC1.out W k1 ((k + 1) % n) m2; have d0 := ((bcell k1).1 _ 0 zW10).trans yW10_0; have d1 := ((bcell k1).1 _ 1 zW10).trans yW10_1; go_simp; refine comes_v ?_; exact ⟨k1, k2, k3, k4⟩))
      (try simp only [Act.put, List.setIfInBounds_toArray, List.set_cons_zero, List.set_cons_succ])
      first | refine wpB_skip 10 rfl (by kernel_rfl) (by kernel_rfl) (by kernel_rfl) (by rfl) ?_ | (refine wpB_text 10 (v := .int .i64 t) rfl (by kernel_rfl) (by kernel_rfl) (by kernel_rfl) (by rfl) (fun W hW => ?_) ?_; (obtain ⟨k1, k2, k3, k4⟩ := hW; have c1 := HC1.out W k1 ((k + 1) % n) m2; have d0 := ((bcell k1).1 _ 0 zW10).trans yW10_0; have d1 := ((bcell k1).1 _ 1 zW10).trans yW10_1; go_simp; exact comes_c ( T.out _) (fun wn hbn => box_keep ⟨k1, k2, k3, k4⟩ hbn)))
      (try simp only [Act.put, List.setIfInBounds_toArray, List.set_cons_zero, List.set_cons_succ])
      first | refine wpB_skip 11 rfl (by kernel_rfl) (by kernel_rfl) (by kernel_rfl) (by rfl) ?_ | (refine wpB_text 11 (v := ?_) rfl (by kernel_rfl) (by kernel_rfl) (by kernel_rfl) (by rfl) (fun W hW => ?_) ?_; rotate_left; (obtain ⟨k1, k2, k3, k4⟩ := hW; have c1 := HC1.out W k1 ((k + 1) % n) m2; have d0 := ((bcell k1).1 _ 0 zW10).trans yW10_0; have d1 := ((bcell k1).1 _ 1 zW10).trans yW10_1; go_simp; refine comes_v ?_; exact ⟨k1, k2, k3, k4⟩))
      (try simp only [Act.put, List.setIfInBounds_toArray, List.set_cons_zero, List.set_cons_succ])
      refine wpB_done (by kernel_rfl) ?_ _
      intro W hW; obtain ⟨k1, k2, k3, k4⟩ := hW
      clear e1 e3 e4 e5 e6
      by_cases ht : t < 0
      · have HR1 := Lib.hid (HFk.out ht)
        have BB := Lib.hid (TR.out _ k1)
        go_wp2_with fail
        go_ret
        exact ⟨ret_bool HR1.out.symm, BB.out⟩
      · have HF3 := Lib.hid (HF2.out (by omega))
        go_wp2_with fail
        go_roundg (n - (k + 1))
        case measure => have := HGK.out; omega
        case rel => exact ⟨k + 1, by omega, rfl, by go_num, k1, HF3⟩
    · have hkn : n = k := by omega
      have HR1 := Lib.hid (HT.out (fun i hi => hF.out i (by omega)))
      subst hkn
      have BB := Lib.hid (TR.out _ hB)
      go_wp2_with fail
      go_ret
      exact ⟨ret_bool HR1.out.symm, BB.out⟩
theorem apart_none {v v' : Value} (h : v.ownBlock = none) : v.ownBlock = none ∨ v.ownBlock ≠ v'.ownBlock := Or.inl h
set_option maxHeartbeats 8000000 in
theorem bdOuter_any (A : Option Addr) (c n : Nat) (l : List (Int × Int)) (w : World) (hln : l.length = n) (hd : Dif l) (hR : Rd w w.heap.size A l) :
    Calls Try.prog 66 #[.slice A n c] w fun e w' => (∃ v1 v2, e = .returned (.tuple #[v1, v2]) ∧ w'.ownsRow w.heap.size 38 2 v1 (onL l).length (flat (onL l)) ∧ w'.ownsRow w.heap.size 38 2 v2 (offL l).length (flat (offL l))) ∧ Below w.heap.size w w' := by
  obtain ⟨i0, hi0, hz0, hz1, hz2⟩ := info_parts peg_info
  have HI := Lib.hid (And.intro hi0 (And.intro hz0 (And.intro hz1 hz2)))
  have K1 := Lib.hid (fun W (hb : Below w.heap.size w W) => bandS_any A c n l W hln hd (rd_more (rd_below hR hb (Nat.le_refl _)) hb.size))
  have K2 := Lib.hid (fun W (hb : Below w.heap.size w W) => bdSorted_any A c n l W hln (by have := hd.few; omega) (rd_more (rd_below hR hb (Nat.le_refl _)) hb.size))
  have hsl := srt_len l
  have hn30 : n ≤ 30 := by have := hd.few; omega
  have hn1 : 1 ≤ n := by have := hd.few; omega
  have hsn : (srt l).length = n := by omega
  have hpos := band_pos hd
  have hfew := band_few hd
  have KO := Lib.hid (fun g cap k W (hk : k < n) (h : Rd W W.heap.size (some ⟨g, 0, none⟩) (band l)) => bdOn_any (some ⟨g, 0, none⟩) cap (band l) (pt (srt l) k) W hpos hfew (band_pegs hd) (dif_pegs hd _ (srt_mem.1 (pt_mem (by omega)))) h)
  have HY1 : Hid (∀ k, k < n → onHB (band l) (pt (srt l) k) = true → pick (onF (band l)) (srt l) (k + 1) = pick (onF (band l)) (srt l) k ++ [pt (srt l) k]) := Lib.hid (fun k hk h => pick_yes (by omega) h)
  have HY2 : Hid (∀ k, k < n → onHB (band l) (pt (srt l) k) = true → pick (offF (band l)) (srt l) (k + 1) = pick (offF (band l)) (srt l) k) := Lib.hid (fun k hk h => pick_no (by omega) (by unfold offF; rw [h]; rfl))
  have HN1 : Hid (∀ k, k < n → onHB (band l) (pt (srt l) k) = false → pick (onF (band l)) (srt l) (k + 1) = pick (onF (band l)) (srt l) k) := Lib.hid (fun k hk h => pick_no (by omega) h)
  have HN2 : Hid (∀ k, k < n → onHB (band l) (pt (srt l) k) = false → pick (offF (band l)) (srt l) (k + 1) = pick (offF (band l)) (srt l) k ++ [pt (srt l) k]) := Lib.hid (fun k hk h => pick_yes (by omega) (by unfold offF; rw [h]; rfl))
  have HL1 : Hid (∀ k, (pick (onF (band l)) (srt l) k).length ≤ k) := Lib.hid (fun k => pick_len _ _ _)
  have HL2 : Hid (∀ k, (pick (offF (band l)) (srt l) k).length ≤ k) := Lib.hid (fun k => pick_len _ _ _)
  have H01 : Hid (pick (onF (band l)) (srt l) 0 = []) := Lib.hid (pick_zero _ _)
  have H02 : Hid (pick (offF (band l)) (srt l) 0 = []) := Lib.hid (pick_zero _ _)
  have HE1 : Hid (onL l = pick (onF (band l)) (srt l) n) := Lib.hid (pick_all _ _ (by omega)).symm
  have HE2 : Hid (offL l = pick (offF (band l)) (srt l) n) := Lib.hid (pick_all _ _ (by omega)).symm
  clear hR hd hln hi0 hz0 hz1 hz2 hsl hfew
  generalize onL l = res1 at *
  generalize offL l = res2 at *
  generalize pick (onF (band l)) (srt l) = PK at *
  generalize pick (offF (band l)) (srt l) = QK at *
  generalize band l = H at *
  generalize srt l = s at *
  subst hsn
  go_enter Try.func66, Try.ntmps66
  go_wp2_with fail
  refine (K1.out w (Below.refl _ _)).mono ?_; rintro e w1 ⟨⟨v1, rfl, ho1⟩, hb1⟩
  obtain ⟨gh, ch, rfl, _, _, hRh⟩ := rd_own ho1 hpos
  have HRh := Lib.hid hRh
  clear ho1 hRh K1
  go_wp2_with fail
  refine (K2.out w1 hb1).mono ?_; rintro e w2 ⟨⟨v2, rfl, ho2⟩, hb2⟩
  obtain ⟨gs, cs, rfl, _, _, hRs⟩ := rd_own ho2 (by omega)
  have HRs := Lib.hid (fun W (hW : Below w2.heap.size w2 W) i (hi : i < s.length) => (show W.cell? ⟨gs, i * 2, none⟩ = some (.int .i64 (pt s i).1) ∧ W.cell? ⟨gs, i * 2 + 1, none⟩ = some (.int .i64 (pt s i).2) ∧ gs < w2.heap.size from by
    obtain ⟨b, off, e, hlt, hc⟩ := hRs (by omega)
    injection e with e
    injection e with e1 e2
    subst e1; subst e2
    obtain ⟨q1, q2⟩ := hc i _ (pt_get hi)
    rw [Nat.zero_add] at q1 q2
    exact ⟨(hW.cell (p := ⟨gs, i * 2, none⟩) hlt).trans q1, (hW.cell (p := ⟨gs, i * 2 + 1, none⟩) hlt).trans q2, hlt⟩))
  have B2 := hb1.trans (hb2.mono hb1.size)
  have HB2 := Lib.hid B2
  have HRh2 := Lib.hid (fun W (hW : Below w2.heap.size w2 W) => rd_more (rd_below (rd_more (rd_below HRh.out hb2 (Nat.le_refl _)) hb2.size) hW (Nat.le_refl _)) hW.size)
  clear ho2 hRs K2 HRh hb1 hb2 B2
  go_wp2_with fail
  go_loopg [5, 6, 14] s.length (fun g o1 o2 i wr => ∃ (k : Nat) (u1 u2 : Value), u1 = o1 ∧ u2 = o2 ∧ k ≤ s.length ∧ g = s.length - k ∧ i = .int .i64 k ∧ Below w2.heap.size w2 wr ∧ Hid (wr.ownsRow w2.heap.size 38 2 u1 (PK k).length (flat (PK k))) ∧ Hid (wr.ownsRow w2.heap.size 38 2 u2 (QK k).length (flat (QK k))) ∧ Hid (u1.ownBlock = none ∨ u2.ownBlock = none ∨ u1.ownBlock ≠ u2.ownBlock))
  case atStart => exact ⟨0, _, _, rfl, rfl, Nat.zero_le _, rfl, rfl, Below.refl _ _, Lib.hid (by rw [H01.out]; exact World.ownsRow_nil _ _ _ _), Lib.hid (by rw [H02.out]; exact World.ownsRow_nil _ _ _ _), Lib.hid (Or.inl rfl)⟩
  case round =>
    obtain ⟨k, u1, u2, rfl, rfl, hk, hg, rfl, hB, hO1, hO2, hX⟩ := hrel
    rename World => wo
    have HGK := Lib.hid hg
    clear hg
    by_cases hlt : k < s.length
    · obtain ⟨x1, x2, hgs⟩ := HRs.out wo hB k hlt
      have hl1 := HL1.out k
      have hl2 := HL2.out k
      have KOk := Lib.hid (fun W h => KO.out gh ch k W hlt h)
      have HIO := Lib.hid (And.intro (And.intro (HY1.out k hlt) (HY2.out k hlt)) (And.intro (HN1.out k hlt) (HN2.out k hlt)))
      have hzB := hB.size
      have zb : gs < wo.heap.size := by omega
      generalize onHB H (pt s k) = ob at *
      obtain ⟨q1, q2, hqe⟩ : ∃ q1 q2, pt s k = (q1, q2) := ⟨_, _, rfl⟩
      rw [hqe] at x1 x2 HIO KOk
      clear hqe hgs
      generalize hK0 : PK k = Jk at *
      have HK0 := Lib.hid hK0
      clear hK0
      generalize hK9 : QK k = Ik at *
      have HK9 := Lib.hid hK9
      clear hK9
      go_wp2_with fail
      obtain ⟨Wc, hWc⟩ : ∃ Wc, Wc = (wo.alloc (.cells #[.int .i64 q1, .int .i64 q2] 38)) := ⟨_, rfl⟩
      rw [← hWc]
      have yWc0_0 : Wc.cell? ⟨wo.heap.size, 0, none⟩ = some (.int .i64 q1) := by rw [hWc]; go_simp
      have yWc0_1 : Wc.cell? ⟨wo.heap.size, 1, none⟩ = some (.int .i64 q2) := by rw [hWc]; go_simp
      have fWc0 : ∀ o, Wc.frozen? ⟨wo.heap.size, o, none⟩ = false := by intro o; rw [hWc]; (repeat rw [frozen?_alloc_cells]); simp [World.frozen?]
      have zWc0 : wo.heap.size < Wc.heap.size := by rw [hWc]; simp <;> omega
      have BWc : Below wo.heap.size wo Wc := by rw [hWc]; exact (Below.alloc (Below.refl _ _) (by simp <;> omega) _)
      have eWc : Hid (Wc.heap.size = wo.heap.size + 1) := Lib.hid (by rw [hWc]; simp)
      clear hWc
      have BC := hB.trans (BWc.mono hzB)
      refine (KOk.out Wc (HRh2.out Wc BC)).mono ?_; rintro e w4 ⟨rfl, hb4⟩
      have B4 := BC.trans (hb4.mono BC.size)
      have y0 := ((bcell hb4).1 _ 0 zWc0).trans yWc0_0
      have y1 := ((bcell hb4).1 _ 1 zWc0).trans yWc0_1
      have z4 := Nat.lt_of_lt_of_le zWc0 hb4.size
      have HO4 := Lib.hid (ownB (ownB hO1.out BWc (Nat.le_refl _)) hb4 (Nat.le_refl _))
      have HP4 := Lib.hid (ownB (ownB hO2.out BWc (Nat.le_refl _)) hb4 (Nat.le_refl _))
      have hz4 := B4.size
      clear x1 x2 hb4 yWc0_0 yWc0_1 fWc0 eWc BWc zWc0 BC hO1 hO2 KOk
      have HBU := Lib.hid (Below.alloc B4 hz4 (.cells #[.int .i64 q1, .int .i64 q2] 38))
      have HO5 := Lib.hid (HO4.out.alloc (.cells #[.int .i64 q1, .int .i64 q2] 38))
      have HP5 := Lib.hid (HP4.out.alloc (.cells #[.int .i64 q1, .int .i64 q2] 38))
      have HLT := Lib.hid (And.intro (World.ownsRow.lt HO4.out) (World.ownsRow.lt HP4.out))
      have hz5 := HBU.out.size
      clear HO4 HP4
      cases ob with
      | true =>
        have HK1 := Lib.hid (HIO.out.1.1 rfl)
        have HK2 := Lib.hid (HIO.out.1.2 rfl)
        clear HIO
        go_wp2_with (at_builtin; refine wpList_append_own_at _ rfl (.tmp 21) (.tmp 23) 25 rfl w2.heap.size 38 i0 (.agg #[.int .i64 0, .int .i64 0]) 2 16 Try.underlying25 HI.out.1 HI.out.2.1 HI.out.2.2.1 HI.out.2.2.2 rfl (by decide) u1 Jk.length (flat Jk) rfl HO5.out ⟨w4.heap.size, 0, none⟩ 1 1 [.int .i64 q1, .int .i64 q2] rfl rfl (two_cells (by go_simp) (by go_simp)) (two_one _ _) (by unfold maxLen; omega) (by omega) hz5 ?_)
        intro v' w9 own9 hgr9 _ hat
        have hw4 : (w4.alloc (.cells #[.int .i64 q1, .int .i64 q2] 38)).heap.size = w4.heap.size + 1 := by simp
        have B9 := HBU.out.grown hgr9 HBU.out.size (fun g hg => (World.ownsRow.lt HO5.out g hg).1)
        have HO9 : Hid (w9.ownsRow w2.heap.size 38 2 v' (PK (k + 1)).length (flat (PK (k + 1)))) := Lib.hid (by
          rw [HK1.out, flat_snoc, List.length_append]
          exact own9)
        have HP9 : Hid (w9.ownsRow w2.heap.size 38 2 u2 (QK (k + 1)).length (flat (QK (k + 1)))) := Lib.hid (by
          rw [HK2.out]
          refine HP5.out.kept hgr9 ?_
          rcases hX.out with h | h | h
          · by_cases h2 : u2.ownBlock = none
            · exact Or.inl h2
            · exact Or.inr (by rw [h]; exact h2)
          · exact Or.inl h
          · exact Or.inr (fun e => h e.symm))
        have HX9 : Hid (v'.ownBlock = none ∨ u2.ownBlock = none ∨ v'.ownBlock ≠ u2.ownBlock) := Lib.hid (by
          rcases hat with h | h
          · rw [h]; exact hX.out
          · refine Or.inr (Or.inr (fun e => ?_))
            rw [h] at e
            have := (HLT.out.2 _ e.symm).2
            omega)
        clear own9 hgr9 hat HBU HO5 HP5 hX HLT
        go_wp2_with fail
        go_roundg (s.length - (k + 1))
        case measure => have := HGK.out; omega
        case rel => exact ⟨k + 1, v', u2, rfl, rfl, by omega, rfl, by go_num, B9, HO9, HP9, HX9⟩
      | false =>
        have HK1 := Lib.hid (HIO.out.2.1 rfl)
        have HK2 := Lib.hid (HIO.out.2.2 rfl)
        clear HIO
        go_wp2_with (at_builtin; refine wpList_append_own_at _ rfl (.tmp 25) (.tmp 27) 25 rfl w2.heap.size 38 i0 (.agg #[.int .i64 0, .int .i64 0]) 2 16 Try.underlying25 HI.out.1 HI.out.2.1 HI.out.2.2.1 HI.out.2.2.2 rfl (by decide) u2 Ik.length (flat Ik) rfl HP5.out ⟨w4.heap.size, 0, none⟩ 1 1 [.int .i64 q1, .int .i64 q2] rfl rfl (two_cells (by go_simp) (by go_simp)) (two_one _ _) (by unfold maxLen; omega) (by omega) hz5 ?_)
        intro v' w9 own9 hgr9 _ hat
        have hw4 : (w4.alloc (.cells #[.int .i64 q1, .int .i64 q2] 38)).heap.size = w4.heap.size + 1 := by simp
        have B9 := HBU.out.grown hgr9 HBU.out.size (fun g hg => (World.ownsRow.lt HP5.out g hg).1)
        have HP9 : Hid (w9.ownsRow w2.heap.size 38 2 v' (QK (k + 1)).length (flat (QK (k + 1)))) := Lib.hid (by
          rw [HK2.out, flat_snoc, List.length_append]
          exact own9)
        have HO9 : Hid (w9.ownsRow w2.heap.size 38 2 u1 (PK (k + 1)).length (flat (PK (k + 1)))) := Lib.hid (by
          rw [HK1.out]
          refine HO5.out.kept hgr9 ?_
          rcases hX.out with h | h | h
          · exact Or.inl h
          · by_cases h2 : u1.ownBlock = none
            · exact Or.inl h2
            · exact Or.inr (by rw [h]; exact h2)
          · exact Or.inr h)
        have HX9 : Hid (u1.ownBlock = none ∨ v'.ownBlock = none ∨ u1.ownBlock ≠ v'.ownBlock) := Lib.hid (by
          rcases hat with h | h
          · rw [h]; exact hX.out
          · refine Or.inr (Or.inr (fun e => ?_))
            rw [h] at e
            have := (HLT.out.1 _ e).2
            omega)
        clear own9 hgr9 hat HBU HO5 HP5 hX HLT
        go_wp2_with fail
        go_roundg (s.length - (k + 1))
        case measure => have := HGK.out; omega
        case rel => exact ⟨k + 1, u1, v', rfl, rfl, by omega, rfl, by go_num, B9, HO9, HP9, HX9⟩
    · have hkn : k = s.length := by omega
      subst hkn
      have HO := Lib.hid (show wo.ownsRow w.heap.size 38 2 u1 res1.length (flat res1) from by rw [HE1.out]; exact own_base hO1.out HB2.out.size)
      have HP := Lib.hid (show wo.ownsRow w.heap.size 38 2 u2 res2.length (flat res2) from by rw [HE2.out]; exact own_base hO2.out HB2.out.size)
      have HBB := Lib.hid (HB2.out.trans (hB.mono HB2.out.size))
      clear hO1 hO2
      go_wp2_with fail
      go_ret2
      exact ⟨⟨_, _, rfl, HO.out, HP.out⟩, HBB.out⟩
set_option maxHeartbeats 4000000 in
theorem bdHas_any (A : Option Addr) (c n : Nat) (l : List (Int × Int)) (p : Int × Int) (w : World) (hln : l.length = n) (hn : n ≤ 1048576) (hR : Rd w w.heap.size A l) :
    Calls Try.prog 63 #[.slice A n c, .agg #[.int .i64 p.1, .int .i64 p.2]] w fun e w' => e = .returned (.bool (decide (p ∈ l))) ∧ Below w.heap.size w w' := by
  have HN := Lib.hid hln
  have HC : Hid (∀ W, Below w.heap.size w W → ∀ i, i < n → ∃ b off, A = some ⟨b, off, none⟩ ∧ b < w.heap.size ∧ W.cell? ⟨b, off + i * 2, none⟩ = some (.int .i64 (vx l i).1) ∧ W.cell? ⟨b, off + i * 2 + 1, none⟩ = some (.int .i64 (vx l i).2)) := Lib.hid (fun W hW i hi => by
    obtain ⟨b, off, e, hb, hc⟩ := hR (by omega)
    obtain ⟨h1, h2⟩ := hc i _ (vx_get (by omega))
    exact ⟨b, off, e, hb, (hW.cell (p := ⟨b, off + i * 2, none⟩) hb).trans h1, (hW.cell (p := ⟨b, off + i * 2 + 1, none⟩) hb).trans h2⟩)
  clear hR hln
  obtain ⟨p1, p2⟩ := p
  have HI := Lib.hid (in_iff (l := l) (p := (p1, p2)))
  have HY : Hid ((p1, p2) ∈ l → decide ((p1, p2) ∈ l) = true) := Lib.hid (fun h => decide_eq_true h)
  have HZ : Hid ((p1, p2) ∉ l → decide ((p1, p2) ∈ l) = false) := Lib.hid (fun h => decide_eq_false h)
  generalize decide ((p1, p2) ∈ l) = r at *
  go_enter Try.func63, Try.ntmps63
  go_wp2_with fail
  obtain ⟨W1, hW1⟩ : ∃ W1, W1 = (w.alloc (.cells #[.int .i64 p1, .int .i64 p2] 38)) := ⟨_, rfl⟩
  rw [← hW1]
  have yW10_0 : W1.cell? ⟨w.heap.size, 0, none⟩ = some (.int .i64 p1) := by rw [hW1]; go_simp
  have yW10_1 : W1.cell? ⟨w.heap.size, 1, none⟩ = some (.int .i64 p2) := by rw [hW1]; go_simp
  have fW10 : ∀ o, W1.frozen? ⟨w.heap.size, o, none⟩ = false := by intro o; rw [hW1]; (repeat rw [frozen?_alloc_cells]); simp [World.frozen?]
  have zW10 : w.heap.size < W1.heap.size := by rw [hW1]; simp <;> omega
  have BW1 : Below w.heap.size w W1 := by rw [hW1]; exact (Below.alloc (Below.refl _ _) (by simp <;> omega) _)
  have eW1 : Hid (W1.heap.size = w.heap.size + 1) := Lib.hid (by rw [hW1]; simp)
  clear hW1
  go_loopg [9] n (fun g i wr => ∃ k : Nat, k ≤ n ∧ g = n - k ∧ i = .int .i64 k ∧ Below W1.heap.size W1 wr ∧ Hid (∀ j, j < k → vx l j ≠ (p1, p2)))
  case atStart => exact ⟨0, Nat.zero_le _, rfl, rfl, Below.refl _ _, Lib.hid (fun i h => absurd h (Nat.not_lt_zero _))⟩
  case round =>
    obtain ⟨k, hk, hg, rfl, hB, hF⟩ := hrel
    rename World => wo
    have HGK := Lib.hid hg
    clear hg
    have BP := BW1.trans (hB.mono BW1.size)
    by_cases hlt : k < n
    · obtain ⟨b, off, hA, hb, x1, x2⟩ := HC.out wo BP k hlt
      subst hA
      have zb : b < wo.heap.size := Nat.lt_of_lt_of_le hb BP.size
      obtain ⟨hcB, hfB⟩ := bcell hB
      have y1 := (hcB _ 0 zW10).trans yW10_0
      have y2 := (hcB _ 1 zW10).trans yW10_1
      have zw : w.heap.size < wo.heap.size := Nat.lt_of_lt_of_le zW10 hB.size
      obtain ⟨q1, q2, hqe⟩ : ∃ q1 q2, vx l k = (q1, q2) := ⟨_, _, rfl⟩
      rw [hqe] at x1 x2
      have HQE := Lib.hid hqe
      have hz0 := hB.size
      have BA := Below.alloc hB hz0 (.cells #[.int .i64 q1, .int .i64 q2] 38)
      have BPA := Below.alloc BP BP.size (.cells #[.int .i64 q1, .int .i64 q2] 38)
      clear hqe hcB hfB yW10_0 yW10_1 fW10 zW10 hB
      by_cases h1 : p1 = q1
      · by_cases h2 : p2 = q2
        · subst h1; subst h2
          have hin : Hid (r = true) := Lib.hid (HY.out (HI.out.2 ⟨k, by have := HN.out; omega, HQE.out⟩))
          go_wp2_with fail
          go_ret
          exact ⟨ret_bool hin.out.symm, BPA⟩
        · have hF2 : Hid (∀ j, j < k + 1 → vx l j ≠ (p1, p2)) := Lib.hid (fun j hj => by
            by_cases hjk : j = k
            · subst hjk; intro e; rw [HQE.out] at e; injection e with e1 e2; exact h2 e2.symm
            · exact hF.out j (by omega))
          subst h1
          go_wp2_with fail
          go_roundg (n - (k + 1))
          case measure => have := HGK.out; omega
          case rel => exact ⟨k + 1, by omega, rfl, by go_num, BA, hF2⟩
      · have hF2 : Hid (∀ j, j < k + 1 → vx l j ≠ (p1, p2)) := Lib.hid (fun j hj => by
          by_cases hjk : j = k
          · subst hjk; intro e; rw [HQE.out] at e; injection e with e1 e2; exact h1 e1.symm
          · exact hF.out j (by omega))
        go_wp2_with fail
        go_roundg (n - (k + 1))
        case measure => have := HGK.out; omega
        case rel => exact ⟨k + 1, by omega, rfl, by go_num, BA, hF2⟩
    · have hkn : n = k := by omega
      subst hkn
      have hno : Hid (r = false) := Lib.hid (HZ.out (fun h => by
        obtain ⟨i, hi, e⟩ := HI.out.1 h
        exact hF.out i (by have := HN.out; omega) e))
      go_wp2_with fail
      go_ret
      exact ⟨ret_bool hno.out.symm, BP⟩
theorem lay_step {LL : List (List (Int × Int))} {r l : List (Int × Int)} {f : Nat} (h : LL ++ layF f r = layers l) (hf : r.length ≤ f) (hr : 0 < r.length) : ∃ f', f = f' + 1 ∧ (LL ++ [onL r]) ++ layF f' (offL r) = layers l := by
  obtain ⟨f', rfl⟩ : ∃ f', f = f' + 1 := ⟨f - 1, by omega⟩
  refine ⟨f', rfl, ?_⟩
  rw [← h, layF_cons (by intro e; rw [e] at hr; simp at hr), List.append_assoc]
  rfl
theorem lay_stop {LL : List (List (Int × Int))} {r l : List (Int × Int)} {f : Nat} (h : LL ++ layF f r = layers l) (hr : r.length = 0) : LL = layers l := by
  have : r = [] := List.eq_nil_of_length_eq_zero hr
  rw [← h, this, layF_nil, List.append_nil]
set_option maxHeartbeats 8000000 in
theorem bdLayers_any (A : Option Addr) (c n : Nat) (l : List (Int × Int)) (w : World) (hln : l.length = n) (hd : Dif l) (hR : Rd w w.heap.size A l) :
    Calls Try.prog 71 #[.slice A n c] w fun e w' => (∃ v cs, e = .returned v ∧ RowsL w' w.heap.size v (layers l) cs) ∧ Below w.heap.size w w' := by
  obtain ⟨i0, hi0, hz0, hz1, hz2⟩ := info_parts3 pegs_info
  have HI := Lib.hid (And.intro hi0 (And.intro hz0 (And.intro hz1 hz2)))
  have hn30 : n ≤ 30 := by have := hd.few; omega
  have HS : Hid (Rd w w.heap.size A l ∧ Dif l ∧ ([] ++ layF l.length l = layers l)) := Lib.hid ⟨hR, hd, rfl⟩
  clear hR hd hi0 hz0 hz1 hz2
  subst hln
  go_enter Try.func71, Try.ntmps71
  go_wp2_with fail
  go_loopg [0, 3] l.length (fun g o0 o3 wr => ∃ (r : List (Int × Int)) (X : Option Addr) (cx : Nat) (LL : List (List (Int × Int))) (cs : List Value) (f : Nat) (ov : Value), ov = o3 ∧ o0 = .slice X r.length cx ∧ g = r.length ∧ LL.length + r.length ≤ l.length ∧ Below w.heap.size w wr ∧ Hid ((0 < r.length → Dif r) ∧ RowsL wr w.heap.size ov LL cs ∧ Rd wr wr.heap.size X r ∧ LL ++ layF f r = layers l ∧ r.length ≤ f))
  case atStart => exact ⟨l, A, c, [], [], l.length, _, rfl, rfl, rfl, by simp, Below.refl _ _, Lib.hid ⟨fun _ => HS.out.2.1, rowsL_nil _ _, HS.out.1, HS.out.2.2, Nat.le_refl _⟩⟩
  case round =>
    obtain ⟨r, X, cx, LL, cs, f, o3, rfl, rfl, hg, hll, hB, hH⟩ := hrel
    rename World => wo
    have HGK := Lib.hid hg
    clear hg HS
    by_cases h0 : 0 < r.length
    · have hd := hH.out.1 h0
      have KO := Lib.hid (bdOuter_any X cx r.length r wo rfl hd hH.out.2.2.1)
      have HLT := Lib.hid (off_lt hd)
      have HON := Lib.hid (on_pos hd)
      have HOF := Lib.hid (off_dif hd)
      have HST := Lib.hid (lay_step hH.out.2.2.2.1 hH.out.2.2.2.2 h0)
      have HFU := Lib.hid hH.out.2.2.2.2
      have HRW := Lib.hid hH.out.2.1
      have HRL := Lib.hid (rowsL_lt hH.out.2.1)
      clear hd hH
      have hzB := hB.size
      generalize hkr : r.length = k at *
      have HKR := Lib.hid hkr
      clear hkr
      have hk1 : (0 : Int) < (k : Int) := by omega
      go_wp2_with fail
      refine KO.out.mono ?_; rintro e w1 ⟨⟨v1, v2, rfl, ho1, ho2⟩, hb1⟩
      obtain ⟨g1, c1, rfl, _, _, _⟩ := rd_own ho1 HON.out
      have B1 := hB.trans (hb1.mono hB.size)
      have hz1 := B1.size
      have HO1 := Lib.hid (own_base ho1 hzB)
      have HUP := Lib.hid (fun b hb => (World.ownsRow.lt ho1 b hb).1)
      have HO2 := Lib.hid (own_base ho2 hzB)
      have HR1 := Lib.hid (rowsL_below HRW.out hb1 (Nat.le_refl _))
      clear ho1 ho2 hb1 HRW KO
      generalize hm1 : (onL r).length = m1 at *
      have HM1 := Lib.hid hm1
      clear hm1
      have HBU := Lib.hid (Below.alloc B1 hz1 (.cells #[.slice (some ⟨g1, 0, none⟩) m1 c1] 25))
      have HR5 := Lib.hid (rowsL_alloc HR1.out (.cells #[.slice (some ⟨g1, 0, none⟩) m1 c1] 25))
      have HP1 := Lib.hid (HO1.out.alloc (.cells #[.slice (some ⟨g1, 0, none⟩) m1 c1] 25))
      have HP2 := Lib.hid (HO2.out.alloc (.cells #[.slice (some ⟨g1, 0, none⟩) m1 c1] 25))
      have hz5 := HBU.out.size
      clear HR1 HO1 HO2
      go_wp2_with (at_builtin; refine wpList_append_own_at _ rfl (.tmp 14) (.tmp 16) 44 rfl w.heap.size 25 i0 (.slice none 0 0) 1 24 Try.underlying44 HI.out.1 HI.out.2.1 HI.out.2.2.1 HI.out.2.2.2 rfl (by decide) o3 LL.length cs rfl HR5.out.1 ⟨w1.heap.size, 0, none⟩ 1 1 [.slice (some ⟨g1, 0, none⟩) m1 c1] rfl rfl (one_cells (by go_simp)) (one_slice _ _ _) (by unfold maxLen; omega) (by omega) hz5 ?_)
      intro v' w9 own9 hgr9 _ hat
      have B9 := HBU.out.grown hgr9 HBU.out.size (fun g hg => (World.ownsRow.lt HR5.out.1 g hg).1)
      have HR9 := Lib.hid (rowsL_push (m := onL r) (u := .slice (some ⟨g1, 0, none⟩) m1 c1) HR5.out (by rw [HM1.out]; exact HP1.out) own9 hgr9 wo.heap.size HRL.out HUP.out)
      obtain ⟨X2, c2, rfl, _, _, hq2⟩ := rw_of_own (HP2.out.kept hgr9 (own_diff HP2.out HR5.out.1 (by decide)))
      have HQ2 := Lib.hid (rd_more (rw_rd hq2) (Nat.le_refl _))
      clear own9 hgr9 hat HBU HR5 HP1 HP2 hq2
      go_wp2_with fail
      go_roundg (offL r).length
      case measure => have := HGK.out; have := HLT.out; omega
      case rel =>
        obtain ⟨f', hf', hst⟩ := HST.out
        exact ⟨offL r, X2, c2, LL ++ [onL r], _, f', _, rfl, rfl, rfl, by rw [List.length_append]; have := HLT.out; simp; omega, B9, Lib.hid ⟨HOF.out, HR9.out, HQ2.out, hst, by have := HLT.out; have := HFU.out; omega⟩⟩
    · have hr0 : r.length = 0 := by omega
      have HE := Lib.hid (show RowsL wo w.heap.size o3 (layers l) cs from by rw [← lay_stop hH.out.2.2.2.1 hr0]; exact hH.out.2.1)
      clear hH
      generalize r.length = k at *
      subst hr0
      go_wp2_with fail
      go_ret
      exact ⟨⟨_, _, rfl, HE.out⟩, hB⟩
set_option maxHeartbeats 8000000 in
theorem specLayerOfPeg_yes (A : Option Addr) (c : Nat) (l : List (Int × Int)) (p1 p2 : Int) (w : World) (hn : l.length ≤ 1048576) (hcap : l.length ≤ c) (hc2 : c ≤ 9223372036854775807) (hd : Dif l) (hp : (p1, p2) ∈ l) (hR : Rd w w.heap.size A l) :
    Calls Try.prog 44 #[.slice A l.length c, .agg #[.int .i64 p1, .int .i64 p2]] w fun e w' => e = .returned (.tuple #[.int .i64 (lvI l p1 p2), .bool (lvB l p1 p2)]) ∧ Below w.heap.size w w' := by
  have K := Lib.hid (fun W (hb : Below w.heap.size w W) => bdGood_any A c l W hn hcap hc2 (rd_more (rd_below hR hb (Nat.le_refl _)) hb.size))
  rw [difB_true hd] at K
  have KA := Lib.hid (fun W (hb : Below w.heap.size w W) => (bdHas_any A c l.length l (p1, p2) W rfl hn (rd_more (rd_below hR hb (Nat.le_refl _)) hb.size)).mono fun e w' hh => (show e = .returned (.bool true) ∧ Below W.heap.size W w' from ⟨hh.1.trans (ret_bool (decide_eq_true hp)), hh.2⟩))
  have KL := Lib.hid (fun W (hb : Below w.heap.size w W) => bdLayers_any A c l.length l W rfl hd (rd_more (rd_below hR hb (Nat.le_refl _)) hb.size))
  have HRES0 : Hid (lopF (p1, p2) ((layers l).drop 0) 0 = (lvI l p1 p2, lvB l p1 p2)) := Lib.hid (by unfold lvI lvB; rw [difB_true hd]; rfl)
  have HFEW0 : Hid (∀ m ∈ layers l, m.length ≤ 1048576) := Lib.hid (fun m hm => by have := lay_len _ _ _ hm; have := hd.few; omega)
  have HNE0 : Hid (∀ m ∈ layers l, 0 < m.length) := Lib.hid (lay_ne _ _ (fun _ => hd))
  have HPOS0 : Hid (0 < (layers l).length) := Lib.hid (lay_pos hd)
  have HLE0 : Hid ((layers l).length ≤ 30) := Lib.hid (by have := lay_few l.length l; have := hd.few; unfold layers; omega)
  clear hR hd hp
  generalize lvI l p1 p2 = r1 at *
  generalize lvB l p1 p2 = r2 at *
  generalize layers l = LL at *
  go_enter Try.func44, Try.ntmps44
  go_wp2_with fail
  obtain ⟨W1, hW1⟩ : ∃ W1, W1 = (w.alloc (.cells #[.int .i64 p1, .int .i64 p2] 38)) := ⟨_, rfl⟩
  rw [← hW1]
  have yW10_0 : W1.cell? ⟨w.heap.size, 0, none⟩ = some (.int .i64 p1) := by rw [hW1]; go_simp
  have yW10_1 : W1.cell? ⟨w.heap.size, 1, none⟩ = some (.int .i64 p2) := by rw [hW1]; go_simp
  have fW10 : ∀ o, W1.frozen? ⟨w.heap.size, o, none⟩ = false := by intro o; rw [hW1]; (repeat rw [frozen?_alloc_cells]); simp [World.frozen?]
  have zW10 : w.heap.size < W1.heap.size := by rw [hW1]; simp <;> omega
  have BW1 : Below w.heap.size w W1 := by rw [hW1]; exact (Below.alloc (Below.refl _ _) (by simp <;> omega) _)
  have eW1 : Hid (W1.heap.size = w.heap.size + 1) := Lib.hid (by rw [hW1]; simp)
  clear hW1
  refine (K.out W1 BW1).mono ?_; rintro e w2 ⟨rfl, hb2⟩
  have B2 := BW1.trans (hb2.mono BW1.size)
  have v0 := ((bcell hb2).1 _ 0 zW10).trans yW10_0
  have v1 := ((bcell hb2).1 _ 1 zW10).trans yW10_1
  have z2 := Nat.lt_of_lt_of_le zW10 hb2.size
  clear hb2 yW10_0 yW10_1 fW10 eW1 zW10 BW1 K
  go_wp2_with fail
  refine (KA.out w2 B2).mono ?_; rintro e w3 ⟨rfl, hb3⟩
  have B3 := B2.trans (hb3.mono B2.size)
  have u0 := ((bcell hb3).1 _ 0 z2).trans v0
  have u1 := ((bcell hb3).1 _ 1 z2).trans v1
  have z3 := Nat.lt_of_lt_of_le z2 hb3.size
  clear hb3 v0 v1 z2 B2 KA
  go_wp2_with fail
  refine (KL.out w3 B3).mono ?_; rintro e w4 ⟨⟨v, cs, rfl, hrow⟩, hb4⟩
  have B4 := B3.trans (hb4.mono B3.size)
  have y0 := ((bcell hb4).1 _ 0 z3).trans u0
  have y1 := ((bcell hb4).1 _ 1 z3).trans u1
  have z4 := Nat.lt_of_lt_of_le z3 hb4.size
  have HTR := Lib.hid B4
  clear hb4 u0 u1 z3 B3 KL B4
  rcases own_val hrow.1 with ⟨_, h0⟩ | ⟨g, cap, rfl, _, _, _, _⟩
  · have := HPOS0.out; omega
  have HROW := Lib.hid hrow
  clear hrow
  have hn30 := HLE0.out
  generalize hnl : LL.length = n at *
  have HNL := Lib.hid hnl
  have HRES := HRES0
  have HFEW := HFEW0
  have HNE := HNE0
  clear hnl HRES0 HFEW0 HNE0 HPOS0 HLE0
  have HY := Lib.hid y0
  have HY1 := Lib.hid y1
  clear y0 y1
  go_wp2_with fail
  go_loopg [20] n (fun g i wr => ∃ k : Nat, k ≤ n ∧ g = n - k ∧ i = .int .i64 k ∧ Below w4.heap.size w4 wr ∧ Hid (lopF (p1, p2) (LL.drop k) k = (r1, r2)))
  case atStart => exact ⟨0, Nat.zero_le _, rfl, rfl, Below.refl _ _, HRES⟩
  case round =>
    obtain ⟨k, hk, hg, rfl, hB, hF⟩ := hrel
    rename World => wo
    have HGK := Lib.hid hg
    clear hg
    by_cases hlt : k < n
    · have HRo := Lib.hid (rowsL_below HROW.out hB (Nat.le_refl _))
      obtain ⟨m, gi, ci, hm, hcm, hrd, hgw⟩ := rowsL_read HRo.out HNL.out HNE.out k hlt
      have KHk := Lib.hid (bdHas_any (some ⟨gi, 0, none⟩) ci m.length m (p1, p2) wo rfl (HFEW.out m (List.mem_of_getElem? hm)) hrd)
      have HLA := Lib.hid (lop_at (p := (p1, p2)) hm)
      have hc := (bcell hB).1
      have x0 := (hc _ 0 z4).trans HY.out
      have x1 := (hc _ 1 z4).trans HY1.out
      have hzB := hB.size
      have zo : w.heap.size < wo.heap.size := by omega
      clear hrd hm hc HRo
      generalize m.length = lm at *
      go_wp2_with fail
      refine KHk.out.mono ?_; rintro e w5 ⟨rfl, hb5⟩
      have B5 := hB.trans (hb5.mono hB.size)
      clear x0 x1 hb5 KHk hcm
      by_cases hpm : (p1, p2) ∈ m
      · rw [decide_eq_true hpm]
        have HR1 : Hid ((r1, r2) = ((k : Int) + 1, true)) := Lib.hid (by rw [← hF.out, HLA.out, if_pos hpm])
        have HBB := Lib.hid (HTR.out.trans (B5.mono HTR.out.size))
        have hw : IntKind.i64.wrap ((k : Int) + 1) = (k : Int) + 1 := IntWalk.i64_in _ (by omega)
        clear hpm HLA
        have e1 : r1 = (k : Int) + 1 := (Prod.mk.inj HR1.out).1
        have e2 : r2 = true := (Prod.mk.inj HR1.out).2
        subst e1; subst e2
        go_wp2_with fail
        go_ret2
        exact ⟨rfl, HBB.out⟩
      · rw [decide_eq_false hpm]
        have HR1 : Hid (lopF (p1, p2) (LL.drop (k + 1)) (k + 1) = (r1, r2)) := Lib.hid (by rw [← hF.out, HLA.out, if_neg hpm])
        clear hpm HLA hF
        go_wp2_with fail
        go_roundg (n - (k + 1))
        case measure => have := HGK.out; omega
        case rel => exact ⟨k + 1, by omega, rfl, by go_num, B5, HR1⟩
    · have hkn : k = n := by omega
      subst hkn
      have HR1 : Hid ((r1, r2) = ((0 : Int), false)) := Lib.hid (by rw [← hF.out, ← HNL.out]; exact lop_end)
      have HBB := Lib.hid (HTR.out.trans (hB.mono HTR.out.size))
      have e1 : r1 = 0 := (Prod.mk.inj HR1.out).1
      have e2 : r2 = false := (Prod.mk.inj HR1.out).2
      subst e1; subst e2
      clear hF
      go_wp2_with fail
      go_ret2
      exact ⟨rfl, HBB.out⟩
theorem specLayerOfPeg_any (A : Option Addr) (c : Nat) (l : List (Int × Int)) (p1 p2 : Int) (w : World) (hn : l.length ≤ 1048576) (hcap : l.length ≤ c) (hc2 : c ≤ 9223372036854775807) (hR : Rd w w.heap.size A l) :
    Calls Try.prog 44 #[.slice A l.length c, .agg #[.int .i64 p1, .int .i64 p2]] w fun e w' => e = .returned (.tuple #[.int .i64 (lvI l p1 p2), .bool (lvB l p1 p2)]) ∧ Below w.heap.size w w' := by
  have K := Lib.hid (fun W (hb : Below w.heap.size w W) => bdGood_any A c l W hn hcap hc2 (rd_more (rd_below hR hb (Nat.le_refl _)) hb.size))
  by_cases hd : Dif l
  · by_cases hp : (p1, p2) ∈ l
    · exact specLayerOfPeg_yes A c l p1 p2 w hn hcap hc2 hd hp hR
    · rw [difB_true hd] at K
      have KA := Lib.hid (fun W (hb : Below w.heap.size w W) => (bdHas_any A c l.length l (p1, p2) W rfl hn (rd_more (rd_below hR hb (Nat.le_refl _)) hb.size)).mono fun e w' hh => (show e = .returned (.bool false) ∧ Below W.heap.size W w' from ⟨hh.1.trans (ret_bool (decide_eq_false hp)), hh.2⟩))
      have e1 : lvI l p1 p2 = 0 := by unfold lvI; rw [difB_true hd, lop_out hp]; rfl
      have e2 : lvB l p1 p2 = false := by unfold lvB; rw [difB_true hd, lop_out hp]; rfl
      rw [e1, e2]
      clear hR hd hp e1 e2
      go_enter Try.func44, Try.ntmps44
      go_wp2_with fail
      obtain ⟨W1, hW1⟩ : ∃ W1, W1 = (w.alloc (.cells #[.int .i64 p1, .int .i64 p2] 38)) := ⟨_, rfl⟩
      rw [← hW1]
      have yW10_0 : W1.cell? ⟨w.heap.size, 0, none⟩ = some (.int .i64 p1) := by rw [hW1]; go_simp
      have yW10_1 : W1.cell? ⟨w.heap.size, 1, none⟩ = some (.int .i64 p2) := by rw [hW1]; go_simp
      have fW10 : ∀ o, W1.frozen? ⟨w.heap.size, o, none⟩ = false := by intro o; rw [hW1]; (repeat rw [frozen?_alloc_cells]); simp [World.frozen?]
      have zW10 : w.heap.size < W1.heap.size := by rw [hW1]; simp <;> omega
      have BW1 : Below w.heap.size w W1 := by rw [hW1]; exact (Below.alloc (Below.refl _ _) (by simp <;> omega) _)
      have eW1 : Hid (W1.heap.size = w.heap.size + 1) := Lib.hid (by rw [hW1]; simp)
      clear hW1
      refine (K.out W1 BW1).mono ?_; rintro e w2 ⟨rfl, hb2⟩
      have B2 := BW1.trans (hb2.mono BW1.size)
      have v0 := ((bcell hb2).1 _ 0 zW10).trans yW10_0
      have v1 := ((bcell hb2).1 _ 1 zW10).trans yW10_1
      have z2 := Nat.lt_of_lt_of_le zW10 hb2.size
      clear hb2 yW10_0 yW10_1 fW10 eW1 zW10 BW1 K
      go_wp2_with fail
      refine (KA.out w2 B2).mono ?_; rintro e w3 ⟨rfl, hb3⟩
      have B3 := B2.trans (hb3.mono B2.size)
      clear hb3 v0 v1 z2 B2 KA
      go_wp2_with fail
      go_ret2
      exact ⟨rfl, B3⟩
  · rw [difB_false hd] at K
    have e1 : lvI l p1 p2 = 0 := by unfold lvI; rw [difB_false hd]; rfl
    have e2 : lvB l p1 p2 = false := by unfold lvB; rw [difB_false hd]; rfl
    rw [e1, e2]
    clear hR hd e1 e2
    go_enter Try.func44, Try.ntmps44
    go_wp2_with fail
    obtain ⟨W1, hW1⟩ : ∃ W1, W1 = (w.alloc (.cells #[.int .i64 p1, .int .i64 p2] 38)) := ⟨_, rfl⟩
    rw [← hW1]
    have yW10_0 : W1.cell? ⟨w.heap.size, 0, none⟩ = some (.int .i64 p1) := by rw [hW1]; go_simp
    have yW10_1 : W1.cell? ⟨w.heap.size, 1, none⟩ = some (.int .i64 p2) := by rw [hW1]; go_simp
    have fW10 : ∀ o, W1.frozen? ⟨w.heap.size, o, none⟩ = false := by intro o; rw [hW1]; (repeat rw [frozen?_alloc_cells]); simp [World.frozen?]
    have zW10 : w.heap.size < W1.heap.size := by rw [hW1]; simp <;> omega
    have BW1 : Below w.heap.size w W1 := by rw [hW1]; exact (Below.alloc (Below.refl _ _) (by simp <;> omega) _)
    have eW1 : Hid (W1.heap.size = w.heap.size + 1) := Lib.hid (by rw [hW1]; simp)
    clear hW1
    refine (K.out W1 BW1).mono ?_; rintro e w2 ⟨rfl, hb2⟩
    have B2 := BW1.trans (hb2.mono BW1.size)
    clear hb2 yW10_0 yW10_1 fW10 eW1 zW10 BW1 K
    go_wp2_with fail
    go_ret2
    exact ⟨rfl, B2⟩
end Go.Proofs.Ythpbnfmfedggjaa
