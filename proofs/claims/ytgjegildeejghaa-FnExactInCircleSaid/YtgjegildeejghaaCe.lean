/- contracts: CircleOfThree, on both sides -/
import Derived.Test.YtgjegildeejghaaCd
import Derived.Test.YtgjegildeejghaaZ
namespace Go.Proofs.Ytgjegildeejghaa
open Go.ChangeShapes Go.WideShapes Go.ChangeAt Go.RowKit Go.Joins
set_option linter.unusedVariables false
set_option linter.unusedSimpArgs false
set_option maxRecDepth 4000
theorem tri_turn {l : List (Int × Int)} {a1 a2 b1 b2 c1 c2 : Int} (h : Tri l a1 a2 b1 b2 c1 c2) : twI a1 a2 b1 b2 c1 c2 ≠ 0 := by
  have := h.2.turn 0 (by rw [h.1]; simp)
  rw [show vx l 0 = (a1, a2) by rw [h.1]; rfl, show vx l (0 + 1) = (b1, b2) by rw [h.1]; rfl, show vx l (0 + 2) = (c1, c2) by rw [h.1]; rfl] at this
  exact this
theorem tri_cir {l : List (Int × Int)} {a1 a2 b1 b2 c1 c2 : Int} (h : Tri l a1 a2 b1 b2 c1 c2) :
    cirX l = (cxI a1 a2 b1 b2 c1 c2).tdiv (cgI (cxI a1 a2 b1 b2 c1 c2) (cyI a1 a2 b1 b2 c1 c2) (cdI a1 a2 b1 b2 c1 c2)) ∧ cirY l = (cyI a1 a2 b1 b2 c1 c2).tdiv (cgI (cxI a1 a2 b1 b2 c1 c2) (cyI a1 a2 b1 b2 c1 c2) (cdI a1 a2 b1 b2 c1 c2)) ∧ cirD l = (cdI a1 a2 b1 b2 c1 c2).tdiv (cgI (cxI a1 a2 b1 b2 c1 c2) (cyI a1 a2 b1 b2 c1 c2) (cdI a1 a2 b1 b2 c1 c2)) := by
  unfold cirX cirY cirD cirG
  rw [six_tri h, six_tri h, six_tri h]
  exact ⟨rfl, rfl, rfl⟩
set_option maxHeartbeats 1000000 in
theorem specCircleOfThree_any (A : Option Addr) (c : Nat) (l : List (Int × Int)) (w : World) (hn : l.length ≤ 1048576) (hcap : l.length ≤ c) (hc2 : c ≤ 9223372036854775807) (hR : Rd w w.heap.size A l) :
    Calls Try.prog 42 #[.slice A l.length c] w fun e w' => e = .returned (.tuple #[.int .i64 (isel (tB l) (cirX l)), .int .i64 (isel (tB l) (cirY l)), .int .i64 (isel (tB l) (cirD l)), .bool (tB l)]) ∧ Below w.heap.size w w' := by
  have K := Lib.hid (trThree_any A c l w hn hcap hc2 hR)
  by_cases ht : tB l = true
  · obtain ⟨a1, a2, b1, b2, c1, c2, htr⟩ := tB_true ht
    obtain ⟨u1, u2, u3, u4, u5, u6⟩ := tri_bd htr
    have htn := tri_turn htr
    rw [ht] at K ⊢
    rw [isel_t, isel_t, isel_t, (tri_cir htr).1, (tri_cir htr).2.1, (tri_cir htr).2.2]
    obtain ⟨rfl, hg⟩ := htr
    obtain ⟨b, off, rfl, hb, H3⟩ := rd3_of hR
    exact specCircle_walk b off c a1 a2 b1 b2 c1 c2 w hc2 hb u1 u2 u3 u4 u5 u6 htn K H3
  · have htf : tB l = false := by simpa using ht
    rw [htf] at K ⊢
    rw [isel_f, isel_f, isel_f]
    clear ht htf hR
    go_enter Try.func42, Try.ntmps42
    go_wp2_with fail
    refine K.out.mono ?_; rintro e w1 ⟨rfl, hb1⟩
    go_wp2_with fail
    refine bodyPost_ret (v := .tuple #[.int .i64 0, .int .i64 0, .int .i64 0, .bool false]) (by simp [results, Try.results42, go_sem]) rfl ⟨rfl, hb1⟩
set_option maxHeartbeats 1000000 in
theorem implCircleOfThree_any (A : Option Addr) (c : Nat) (l : List (Int × Int)) (w : World) (hn : l.length ≤ 1048576) (hR : Rd w w.heap.size A l) :
    Calls Try.prog 43 #[.slice A l.length c] w fun e w' => e = .returned (.tuple #[.int .i64 (isel (tB l) (cirX l)), .int .i64 (isel (tB l) (cirY l)), .int .i64 (isel (tB l) (cirD l)), .bool (tB l)]) ∧ Below w.heap.size w w' := by
  by_cases ht : tB l = true
  · obtain ⟨a1, a2, b1, b2, c1, c2, htr⟩ := tB_true ht
    have K := Lib.hid (threeOf_t A c l a1 a2 b1 b2 c1 c2 w hR htr)
    rw [ht, isel_t, isel_t, isel_t]
    have K3 := Lib.hid (fun W => circle_any l a1 a2 b1 b2 c1 c2 W htr (tri_turn htr))
    rw [← (tri_cir htr).1, ← (tri_cir htr).2.1, ← (tri_cir htr).2.2] at K3
    have T1 := tri_bd htr
    have E1 := tdiv_le (sixI cxI l) (cirG l)
    have E2 := tdiv_le (sixI cyI l) (cirG l)
    have E3 := tdiv_le (sixI cdI l) (cirG l)
    clear T1 E1 E2 E3 ht htr hR
    generalize cirX l = X at *
    generalize cirY l = Y at *
    generalize cirD l = D at *
    go_enter Try.func43, Try.ntmps43
    go_wp2_with fail
    refine K.out.mono ?_; rintro e w1 ⟨rfl, hb1⟩
    have BA := Below.alloc hb1 hb1.size (.cells #[.int .i64 a1, .int .i64 a2, .int .i64 b1, .int .i64 b2, .int .i64 c1, .int .i64 c2] 67)
    go_wp2_with fail
    refine (K3.out _).mono ?_; rintro e w2 ⟨rfl, hb2⟩
    have B2 := BA.trans (hb2.mono BA.size)
    have zz := B2.size
    clear BA hb1 hb2
    go_wp2_with fail
    obtain ⟨W0, hW0⟩ : ∃ W0, W0 = (w2.alloc (.cells #[.int .i64 X, .int .i64 Y] 46)) := ⟨_, rfl⟩
    rw [← hW0]
    have yW00_0 : W0.cell? ⟨w2.heap.size, 0, none⟩ = some (.int .i64 X) := by rw [hW0]; go_simp
    have yW00_1 : W0.cell? ⟨w2.heap.size, 1, none⟩ = some (.int .i64 Y) := by rw [hW0]; go_simp
    have fW00 : ∀ o, W0.frozen? ⟨w2.heap.size, o, none⟩ = false := by intro o; rw [hW0]; (repeat rw [frozen?_alloc_cells]); simp [World.frozen?]
    have zW00 : w2.heap.size < W0.heap.size := by rw [hW0]; simp <;> omega
    have BW0 : Below w2.heap.size w2 W0 := by rw [hW0]; exact (Below.alloc (Below.refl _ _) (by simp <;> omega) _)
    have eW0 : Hid (W0.heap.size = w2.heap.size + 1) := Lib.hid (by rw [hW0]; simp)
    clear hW0
    refine wp_region_B (fun W => Below W0.heap.size W0 W) (by kernel_rfl) (by repeat (first | exact Below.refl _ _ | apply Below.drew)) ?_
    first | refine wpB_skip 0 rfl (by kernel_rfl) (by kernel_rfl) (by kernel_rfl) (by rfl) ?_ | (refine wpB_text 0 (v := ?_) rfl (by kernel_rfl) (by kernel_rfl) (by kernel_rfl) (by rfl) (fun W hW => ?_) ?_; rotate_left; (have k1 := hW; obtain ⟨hc1, hf1⟩ := bcell k1; go_simp; refine comes_v ?_; exact k1))
    (try simp only [Act.put, List.setIfInBounds_toArray, List.set_cons_zero, List.set_cons_succ])
    first | refine wpB_skip 1 rfl (by kernel_rfl) (by kernel_rfl) (by kernel_rfl) (by rfl) ?_ | (refine wpB_text 1 (v := ?_) rfl (by kernel_rfl) (by kernel_rfl) (by kernel_rfl) (by rfl) (fun W hW => ?_) ?_; rotate_left; (have k1 := hW; obtain ⟨hc1, hf1⟩ := bcell k1; go_simp; refine comes_v ?_; exact k1))
    (try simp only [Act.put, List.setIfInBounds_toArray, List.set_cons_zero, List.set_cons_succ])
    first | refine wpB_skip 2 rfl (by kernel_rfl) (by kernel_rfl) (by kernel_rfl) (by rfl) ?_ | (refine wpB_text 2 (v := ?_) rfl (by kernel_rfl) (by kernel_rfl) (by kernel_rfl) (by rfl) (fun W hW => ?_) ?_; rotate_left; (have k1 := hW; obtain ⟨hc1, hf1⟩ := bcell k1; go_simp; refine comes_v ?_; exact k1))
    (try simp only [Act.put, List.setIfInBounds_toArray, List.set_cons_zero, List.set_cons_succ])
    first | refine wpB_skip 3 rfl (by kernel_rfl) (by kernel_rfl) (by kernel_rfl) (by rfl) ?_ | (refine wpB_text 3 (v := ?_) rfl (by kernel_rfl) (by kernel_rfl) (by kernel_rfl) (by rfl) (fun W hW => ?_) ?_; rotate_left; (have k1 := hW; obtain ⟨hc1, hf1⟩ := bcell k1; go_simp; refine comes_v ?_; exact k1))
    (try simp only [Act.put, List.setIfInBounds_toArray, List.set_cons_zero, List.set_cons_succ])
    first | refine wpB_skip 4 rfl (by kernel_rfl) (by kernel_rfl) (by kernel_rfl) (by rfl) ?_ | (refine wpB_text 4 (v := ?_) rfl (by kernel_rfl) (by kernel_rfl) (by kernel_rfl) (by rfl) (fun W hW => ?_) ?_; rotate_left; (have k1 := hW; obtain ⟨hc1, hf1⟩ := bcell k1; go_simp; refine comes_v ?_; exact k1))
    (try simp only [Act.put, List.setIfInBounds_toArray, List.set_cons_zero, List.set_cons_succ])
    first | refine wpB_skip 5 rfl (by kernel_rfl) (by kernel_rfl) (by kernel_rfl) (by rfl) ?_ | (refine wpB_text 5 (v := ?_) rfl (by kernel_rfl) (by kernel_rfl) (by kernel_rfl) (by rfl) (fun W hW => ?_) ?_; rotate_left; (have k1 := hW; obtain ⟨hc1, hf1⟩ := bcell k1; go_simp; refine comes_v ?_; exact k1))
    (try simp only [Act.put, List.setIfInBounds_toArray, List.set_cons_zero, List.set_cons_succ])
    first | refine wpB_skip 6 rfl (by kernel_rfl) (by kernel_rfl) (by kernel_rfl) (by rfl) ?_ | (refine wpB_text 6 (v := ?_) rfl (by kernel_rfl) (by kernel_rfl) (by kernel_rfl) (by rfl) (fun W hW => ?_) ?_; rotate_left; (have k1 := hW; obtain ⟨hc1, hf1⟩ := bcell k1; go_simp; refine comes_v ?_; exact k1))
    (try simp only [Act.put, List.setIfInBounds_toArray, List.set_cons_zero, List.set_cons_succ])
    first | refine wpB_skip 7 rfl (by kernel_rfl) (by kernel_rfl) (by kernel_rfl) (by rfl) ?_ | (refine wpB_text 7 (v := ?_) rfl (by kernel_rfl) (by kernel_rfl) (by kernel_rfl) (by rfl) (fun W hW => ?_) ?_; rotate_left; (have k1 := hW; obtain ⟨hc1, hf1⟩ := bcell k1; go_simp; refine comes_v ?_; exact k1))
    (try simp only [Act.put, List.setIfInBounds_toArray, List.set_cons_zero, List.set_cons_succ])
    first | refine wpB_skip 8 rfl (by kernel_rfl) (by kernel_rfl) (by kernel_rfl) (by rfl) ?_ | (refine wpB_text 8 (v := ?_) rfl (by kernel_rfl) (by kernel_rfl) (by kernel_rfl) (by rfl) (fun W hW => ?_) ?_; rotate_left; (have k1 := hW; obtain ⟨hc1, hf1⟩ := bcell k1; go_simp; refine comes_v ?_; exact k1))
    (try simp only [Act.put, List.setIfInBounds_toArray, List.set_cons_zero, List.set_cons_succ])
    refine wpB_done (by kernel_rfl) ?_ _
    intro W hW; have k1 := hW
    have B3 := B2.trans ((BW0.mono B2.size).trans (k1.mono (by have := BW0.size; have := B2.size; omega)))
    go_wp2_with fail
    refine bodyPost_ret (v := .tuple #[.int .i64 X, .int .i64 Y, .int .i64 D, .bool true]) (by simp [results, Try.results43, go_sem]) rfl ⟨rfl, B3⟩
  · have K := Lib.hid (threeOf_f A c l w hn hR ht)
    have htf : tB l = false := by simpa using ht
    rw [htf, isel_f, isel_f, isel_f]
    clear ht htf hR
    go_enter Try.func43, Try.ntmps43
    go_wp2_with fail
    refine K.out.mono ?_; rintro e w1 ⟨rfl, hb1⟩
    have BA := Below.alloc hb1 hb1.size (.cells #[.int .i64 0, .int .i64 0, .int .i64 0, .int .i64 0, .int .i64 0, .int .i64 0] 67)
    go_wp2_with fail
    refine bodyPost_ret (v := .tuple #[.int .i64 0, .int .i64 0, .int .i64 0, .bool false]) (by simp [results, Try.results43, go_sem]) rfl ⟨rfl, BA⟩
end Go.Proofs.Ytgjegildeejghaa
