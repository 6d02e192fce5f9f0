/- contracts: do two lines cross, do two lines meet, the program -/
import Derived.Test.YtheddoinnakneaaH
import Derived.Test.YtheddoinnakneaaI
namespace Go.Proofs.Ytheddoinnakneaa
open Go.ChangeShapes Go.WideShapes Go.ChangeAt Go.RowKit Go.Joins
set_option linter.unusedVariables false
set_option linter.unusedSimpArgs false
set_option maxRecDepth 4000
theorem linesCross_any (a1 a2 b1 b2 c1 c2 d1 d2 : Int) (w : World) (pa : isPegB a1 a2 = true) (pb : isPegB b1 b2 = true) (pc : isPegB c1 c2 = true) (pd : isPegB d1 d2 = true) :
    Calls Try.prog 142 #[.agg #[.int .i64 a1, .int .i64 a2], .agg #[.int .i64 b1, .int .i64 b2], .agg #[.int .i64 c1, .int .i64 c2], .agg #[.int .i64 d1, .int .i64 d2]] w fun e w' => e = .returned (.bool (decide (twI a1 a2 b1 b2 c1 c2 * twI a1 a2 b1 b2 d1 d2 < 0) && decide (twI c1 c2 d1 d2 a1 a2 * twI c1 c2 d1 d2 b1 b2 < 0))) ∧ Below w.heap.size w w' := by
  have ha := sz_of pa
  have hb := sz_of pb
  have hc := sz_of pc
  have hd := sz_of pd
  have T1 := Lib.hid (fun W => twiceThree_any a1 a2 b1 b2 c1 c2 W ha hb hc)
  have T2 := Lib.hid (fun W => twiceThree_any a1 a2 b1 b2 d1 d2 W ha hb hd)
  have T3 := Lib.hid (fun W => twiceThree_any c1 c2 d1 d2 a1 a2 W hc hd ha)
  have T4 := Lib.hid (fun W => twiceThree_any c1 c2 d1 d2 b1 b2 W hc hd hb)
  have q1 := tw_bd40 pa pb pc
  have q2 := tw_bd40 pa pb pd
  have q3 := tw_bd40 pc pd pa
  have q4 := tw_bd40 pc pd pb
  clear ha hb hc hd pa pb pc pd
  generalize twI a1 a2 b1 b2 c1 c2 = t1 at *
  generalize twI a1 a2 b1 b2 d1 d2 = t2 at *
  generalize twI c1 c2 d1 d2 a1 a2 = t3 at *
  generalize twI c1 c2 d1 d2 b1 b2 = t4 at *
  have r1 := mul_bd (m := 12800) (n := 12800) q1.1 q1.2 q2.1 q2.2
  have r2 := mul_bd (m := 12800) (n := 12800) q3.1 q3.2 q4.1 q4.2
  obtain ⟨p1, p2⟩ := r1
  obtain ⟨p3, p4⟩ := r2
  have e1 : IntKind.i64.wrap (t1 * t2) = t1 * t2 := IntWalk.i64_in _ (by omega)
  have e2 : IntKind.i64.wrap (t3 * t4) = t3 * t4 := IntWalk.i64_in _ (by omega)
  go_enter Try.func142, Try.ntmps142
  go_wp2_with fail
  by_cases hm : t1 * t2 < 0
  · have hd := decide_eq_true hm
    refine wp_region_B (fun W => Below w.heap.size w W ∧ w.heap.size + 3 < W.heap.size ∧ W.cell? ⟨w.heap.size, 0, none⟩ = some (.int .i64 a1) ∧ W.cell? ⟨w.heap.size, 1, none⟩ = some (.int .i64 a2) ∧ W.cell? ⟨w.heap.size + 1, 0, none⟩ = some (.int .i64 b1) ∧ W.cell? ⟨w.heap.size + 1, 1, none⟩ = some (.int .i64 b2) ∧ W.cell? ⟨w.heap.size + 2, 0, none⟩ = some (.int .i64 c1) ∧ W.cell? ⟨w.heap.size + 2, 1, none⟩ = some (.int .i64 c2) ∧ W.cell? ⟨w.heap.size + 3, 0, none⟩ = some (.int .i64 d1) ∧ W.cell? ⟨w.heap.size + 3, 1, none⟩ = some (.int .i64 d2)) (by kernel_rfl) (held4 (box4 w _ a1 a2 b1 b2 c1 c2 d1 d2) ((Below.refl _ _).drew)) ?_
    first | refine wpB_skip 0 rfl (by kernel_rfl) (by kernel_rfl) (by kernel_rfl) (by rfl) ?_ | (refine wpB_text 0 (v := ?_) rfl (by kernel_rfl) (by kernel_rfl) (by kernel_rfl) (by rfl) (fun W hW => ?_) ?_; rotate_left; (obtain ⟨k1, k2, k3, k4, k5, k6, k7, k8, k9, k10⟩ := hW;  go_simp; refine comes_v ?_; exact ⟨k1, k2, k3, k4, k5, k6, k7, k8, k9, k10⟩))
    (try simp only [Act.put, List.setIfInBounds_toArray, List.set_cons_zero, List.set_cons_succ])
    first | refine wpB_skip 1 rfl (by kernel_rfl) (by kernel_rfl) (by kernel_rfl) (by rfl) ?_ | (refine wpB_text 1 (v := ?_) rfl (by kernel_rfl) (by kernel_rfl) (by kernel_rfl) (by rfl) (fun W hW => ?_) ?_; rotate_left; (obtain ⟨k1, k2, k3, k4, k5, k6, k7, k8, k9, k10⟩ := hW;  go_simp; refine comes_v ?_; exact ⟨k1, k2, k3, k4, k5, k6, k7, k8, k9, k10⟩))
    (try simp only [Act.put, List.setIfInBounds_toArray, List.set_cons_zero, List.set_cons_succ])
    first | refine wpB_skip 2 rfl (by kernel_rfl) (by kernel_rfl) (by kernel_rfl) (by rfl) ?_ | (refine wpB_text 2 (v := ?_) rfl (by kernel_rfl) (by kernel_rfl) (by kernel_rfl) (by rfl) (fun W hW => ?_) ?_; rotate_left; (obtain ⟨k1, k2, k3, k4, k5, k6, k7, k8, k9, k10⟩ := hW;  go_simp; refine comes_v ?_; exact ⟨k1, k2, k3, k4, k5, k6, k7, k8, k9, k10⟩))
    (try simp only [Act.put, List.setIfInBounds_toArray, List.set_cons_zero, List.set_cons_succ])
    first | refine wpB_skip 3 rfl (by kernel_rfl) (by kernel_rfl) (by kernel_rfl) (by rfl) ?_ | (refine wpB_text 3 (v := .int .i64 t1) rfl (by kernel_rfl) (by kernel_rfl) (by kernel_rfl) (by rfl) (fun W hW => ?_) ?_; (obtain ⟨k1, k2, k3, k4, k5, k6, k7, k8, k9, k10⟩ := hW;  go_simp; exact comes_c ( T1.out _) (fun wn hbn => held4 ⟨k1, k2, k3, k4, k5, k6, k7, k8, k9, k10⟩ hbn)))
    (try simp only [Act.put, List.setIfInBounds_toArray, List.set_cons_zero, List.set_cons_succ])
    first | refine wpB_skip 4 rfl (by kernel_rfl) (by kernel_rfl) (by kernel_rfl) (by rfl) ?_ | (refine wpB_text 4 (v := ?_) rfl (by kernel_rfl) (by kernel_rfl) (by kernel_rfl) (by rfl) (fun W hW => ?_) ?_; rotate_left; (obtain ⟨k1, k2, k3, k4, k5, k6, k7, k8, k9, k10⟩ := hW;  go_simp; refine comes_v ?_; exact ⟨k1, k2, k3, k4, k5, k6, k7, k8, k9, k10⟩))
    (try simp only [Act.put, List.setIfInBounds_toArray, List.set_cons_zero, List.set_cons_succ])
    first | refine wpB_skip 5 rfl (by kernel_rfl) (by kernel_rfl) (by kernel_rfl) (by rfl) ?_ | (refine wpB_text 5 (v := ?_) rfl (by kernel_rfl) (by kernel_rfl) (by kernel_rfl) (by rfl) (fun W hW => ?_) ?_; rotate_left; (obtain ⟨k1, k2, k3, k4, k5, k6, k7, k8, k9, k10⟩ := hW;  go_simp; refine comes_v ?_; exact ⟨k1, k2, k3, k4, k5, k6, k7, k8, k9, k10⟩))
    (try simp only [Act.put, List.setIfInBounds_toArray, List.set_cons_zero, List.set_cons_succ])
    first | refine wpB_skip 6 rfl (by kernel_rfl) (by kernel_rfl) (by kernel_rfl) (by rfl) ?_ | (refine wpB_text 6 (v := ?_) rfl (by kernel_rfl) (by kernel_rfl) (by kernel_rfl) (by rfl) (fun W hW => ?_) ?_; rotate_left; (obtain ⟨k1, k2, k3, k4, k5, k6, k7, k8, k9, k10⟩ := hW;  go_simp; refine comes_v ?_; exact ⟨k1, k2, k3, k4, k5, k6, k7, k8, k9, k10⟩))
    (try simp only [Act.put, List.setIfInBounds_toArray, List.set_cons_zero, List.set_cons_succ])
    first | refine wpB_skip 7 rfl (by kernel_rfl) (by kernel_rfl) (by kernel_rfl) (by rfl) ?_ | (refine wpB_text 7 (v := .int .i64 t2) rfl (by kernel_rfl) (by kernel_rfl) (by kernel_rfl) (by rfl) (fun W hW => ?_) ?_; (obtain ⟨k1, k2, k3, k4, k5, k6, k7, k8, k9, k10⟩ := hW;  go_simp; exact comes_c ( T2.out _) (fun wn hbn => held4 ⟨k1, k2, k3, k4, k5, k6, k7, k8, k9, k10⟩ hbn)))
    (try simp only [Act.put, List.setIfInBounds_toArray, List.set_cons_zero, List.set_cons_succ])
    first | refine wpB_skip 8 rfl (by kernel_rfl) (by kernel_rfl) (by kernel_rfl) (by rfl) ?_ | (refine wpB_text 8 (v := ?_) rfl (by kernel_rfl) (by kernel_rfl) (by kernel_rfl) (by rfl) (fun W hW => ?_) ?_; rotate_left; (obtain ⟨k1, k2, k3, k4, k5, k6, k7, k8, k9, k10⟩ := hW;  go_simp; refine comes_v ?_; exact ⟨k1, k2, k3, k4, k5, k6, k7, k8, k9, k10⟩))
    (try simp only [Act.put, List.setIfInBounds_toArray, List.set_cons_zero, List.set_cons_succ])
    first | refine wpB_skip 9 rfl (by kernel_rfl) (by kernel_rfl) (by kernel_rfl) (by rfl) ?_ | (refine wpB_text 9 (v := ?_) rfl (by kernel_rfl) (by kernel_rfl) (by kernel_rfl) (by rfl) (fun W hW => ?_) ?_; rotate_left; (obtain ⟨k1, k2, k3, k4, k5, k6, k7, k8, k9, k10⟩ := hW;  go_simp; refine comes_v ?_; exact ⟨k1, k2, k3, k4, k5, k6, k7, k8, k9, k10⟩))
    (try simp only [Act.put, List.setIfInBounds_toArray, List.set_cons_zero, List.set_cons_succ])
    first | refine wpB_skip 10 rfl (by kernel_rfl) (by kernel_rfl) (by kernel_rfl) (by rfl) ?_ | (refine wpB_text 10 (v := ?_) rfl (by kernel_rfl) (by kernel_rfl) (by kernel_rfl) (by rfl) (fun W hW => ?_) ?_; rotate_left; (obtain ⟨k1, k2, k3, k4, k5, k6, k7, k8, k9, k10⟩ := hW;  go_simp; refine comes_v ?_; exact ⟨k1, k2, k3, k4, k5, k6, k7, k8, k9, k10⟩))
    (try simp only [Act.put, List.setIfInBounds_toArray, List.set_cons_zero, List.set_cons_succ])
    first | refine wpB_skip 11 rfl (by kernel_rfl) (by kernel_rfl) (by kernel_rfl) (by rfl) ?_ | (refine wpB_text 11 (v := ?_) rfl (by kernel_rfl) (by kernel_rfl) (by kernel_rfl) (by rfl) (fun W hW => ?_) ?_; rotate_left; (obtain ⟨k1, k2, k3, k4, k5, k6, k7, k8, k9, k10⟩ := hW;  go_simp; refine comes_v ?_; exact ⟨k1, k2, k3, k4, k5, k6, k7, k8, k9, k10⟩))
    (try simp only [Act.put, List.setIfInBounds_toArray, List.set_cons_zero, List.set_cons_succ])
    first | refine wpB_skip 12 rfl (by kernel_rfl) (by kernel_rfl) (by kernel_rfl) (by rfl) ?_ | (refine wpB_text 12 (v := ?_) rfl (by kernel_rfl) (by kernel_rfl) (by kernel_rfl) (by rfl) (fun W hW => ?_) ?_; rotate_left; (obtain ⟨k1, k2, k3, k4, k5, k6, k7, k8, k9, k10⟩ := hW;  go_simp; refine comes_v ?_; exact ⟨k1, k2, k3, k4, k5, k6, k7, k8, k9, k10⟩))
    (try simp only [Act.put, List.setIfInBounds_toArray, List.set_cons_zero, List.set_cons_succ])
    first | refine wpB_skip 13 rfl (by kernel_rfl) (by kernel_rfl) (by kernel_rfl) (by rfl) ?_ | (refine wpB_text 13 (v := ?_) rfl (by kernel_rfl) (by kernel_rfl) (by kernel_rfl) (by rfl) (fun W hW => ?_) ?_; rotate_left; (obtain ⟨k1, k2, k3, k4, k5, k6, k7, k8, k9, k10⟩ := hW;  go_simp; refine comes_v ?_; exact ⟨k1, k2, k3, k4, k5, k6, k7, k8, k9, k10⟩))
    (try simp only [Act.put, List.setIfInBounds_toArray, List.set_cons_zero, List.set_cons_succ])
    first | refine wpB_skip 14 rfl (by kernel_rfl) (by kernel_rfl) (by kernel_rfl) (by rfl) ?_ | (refine wpB_text 14 (v := .int .i64 t3) rfl (by kernel_rfl) (by kernel_rfl) (by kernel_rfl) (by rfl) (fun W hW => ?_) ?_; (obtain ⟨k1, k2, k3, k4, k5, k6, k7, k8, k9, k10⟩ := hW;  go_simp; exact comes_c ( T3.out _) (fun wn hbn => held4 ⟨k1, k2, k3, k4, k5, k6, k7, k8, k9, k10⟩ hbn)))
    (try simp only [Act.put, List.setIfInBounds_toArray, List.set_cons_zero, List.set_cons_succ])
    first | refine wpB_skip 15 rfl (by kernel_rfl) (by kernel_rfl) (by kernel_rfl) (by rfl) ?_ | (refine wpB_text 15 (v := ?_) rfl (by kernel_rfl) (by kernel_rfl) (by kernel_rfl) (by rfl) (fun W hW => ?_) ?_; rotate_left; (obtain ⟨k1, k2, k3, k4, k5, k6, k7, k8, k9, k10⟩ := hW;  go_simp; refine comes_v ?_; exact ⟨k1, k2, k3, k4, k5, k6, k7, k8, k9, k10⟩))
    (try simp only [Act.put, List.setIfInBounds_toArray, List.set_cons_zero, List.set_cons_succ])
    first | refine wpB_skip 16 rfl (by kernel_rfl) (by kernel_rfl) (by kernel_rfl) (by rfl) ?_ | (refine wpB_text 16 (v := ?_) rfl (by kernel_rfl) (by kernel_rfl) (by kernel_rfl) (by rfl) (fun W hW => ?_) ?_; rotate_left; (obtain ⟨k1, k2, k3, k4, k5, k6, k7, k8, k9, k10⟩ := hW;  go_simp; refine comes_v ?_; exact ⟨k1, k2, k3, k4, k5, k6, k7, k8, k9, k10⟩))
    (try simp only [Act.put, List.setIfInBounds_toArray, List.set_cons_zero, List.set_cons_succ])
    first | refine wpB_skip 17 rfl (by kernel_rfl) (by kernel_rfl) (by kernel_rfl) (by rfl) ?_ | (refine wpB_text 17 (v := ?_) rfl (by kernel_rfl) (by kernel_rfl) (by kernel_rfl) (by rfl) (fun W hW => ?_) ?_; rotate_left; (obtain ⟨k1, k2, k3, k4, k5, k6, k7, k8, k9, k10⟩ := hW;  go_simp; refine comes_v ?_; exact ⟨k1, k2, k3, k4, k5, k6, k7, k8, k9, k10⟩))
    (try simp only [Act.put, List.setIfInBounds_toArray, List.set_cons_zero, List.set_cons_succ])
    first | refine wpB_skip 18 rfl (by kernel_rfl) (by kernel_rfl) (by kernel_rfl) (by rfl) ?_ | (refine wpB_text 18 (v := .int .i64 t4) rfl (by kernel_rfl) (by kernel_rfl) (by kernel_rfl) (by rfl) (fun W hW => ?_) ?_; (obtain ⟨k1, k2, k3, k4, k5, k6, k7, k8, k9, k10⟩ := hW;  go_simp; exact comes_c ( T4.out _) (fun wn hbn => held4 ⟨k1, k2, k3, k4, k5, k6, k7, k8, k9, k10⟩ hbn)))
    (try simp only [Act.put, List.setIfInBounds_toArray, List.set_cons_zero, List.set_cons_succ])
    first | refine wpB_skip 19 rfl (by kernel_rfl) (by kernel_rfl) (by kernel_rfl) (by rfl) ?_ | (refine wpB_text 19 (v := ?_) rfl (by kernel_rfl) (by kernel_rfl) (by kernel_rfl) (by rfl) (fun W hW => ?_) ?_; rotate_left; (obtain ⟨k1, k2, k3, k4, k5, k6, k7, k8, k9, k10⟩ := hW;  go_simp; refine comes_v ?_; exact ⟨k1, k2, k3, k4, k5, k6, k7, k8, k9, k10⟩))
    (try simp only [Act.put, List.setIfInBounds_toArray, List.set_cons_zero, List.set_cons_succ])
    first | refine wpB_skip 20 rfl (by kernel_rfl) (by kernel_rfl) (by kernel_rfl) (by rfl) ?_ | (refine wpB_text 20 (v := ?_) rfl (by kernel_rfl) (by kernel_rfl) (by kernel_rfl) (by rfl) (fun W hW => ?_) ?_; rotate_left; (obtain ⟨k1, k2, k3, k4, k5, k6, k7, k8, k9, k10⟩ := hW;  go_simp; refine comes_v ?_; exact ⟨k1, k2, k3, k4, k5, k6, k7, k8, k9, k10⟩))
    (try simp only [Act.put, List.setIfInBounds_toArray, List.set_cons_zero, List.set_cons_succ])
    first | refine wpB_skip 21 rfl (by kernel_rfl) (by kernel_rfl) (by kernel_rfl) (by rfl) ?_ | (refine wpB_text 21 (v := ?_) rfl (by kernel_rfl) (by kernel_rfl) (by kernel_rfl) (by rfl) (fun W hW => ?_) ?_; rotate_left; (obtain ⟨k1, k2, k3, k4, k5, k6, k7, k8, k9, k10⟩ := hW;  go_simp; refine comes_v ?_; exact ⟨k1, k2, k3, k4, k5, k6, k7, k8, k9, k10⟩))
    (try simp only [Act.put, List.setIfInBounds_toArray, List.set_cons_zero, List.set_cons_succ])
    first | refine wpB_skip 22 rfl (by kernel_rfl) (by kernel_rfl) (by kernel_rfl) (by rfl) ?_ | (refine wpB_text 22 (v := ?_) rfl (by kernel_rfl) (by kernel_rfl) (by kernel_rfl) (by rfl) (fun W hW => ?_) ?_; rotate_left; (obtain ⟨k1, k2, k3, k4, k5, k6, k7, k8, k9, k10⟩ := hW;  go_simp; refine comes_v ?_; exact ⟨k1, k2, k3, k4, k5, k6, k7, k8, k9, k10⟩))
    (try simp only [Act.put, List.setIfInBounds_toArray, List.set_cons_zero, List.set_cons_succ])
    refine wpB_done (by kernel_rfl) ?_ _
    intro W hW; obtain ⟨k1, k2, k3, k4, k5, k6, k7, k8, k9, k10⟩ := hW
    clear e1 e2
    go_wp2_with fail
    go_ret
    exact ⟨ret_bool (by simp [hm]), k1⟩
  · have hd := decide_eq_false hm
    refine wp_region_B (fun W => Below w.heap.size w W ∧ w.heap.size + 3 < W.heap.size ∧ W.cell? ⟨w.heap.size, 0, none⟩ = some (.int .i64 a1) ∧ W.cell? ⟨w.heap.size, 1, none⟩ = some (.int .i64 a2) ∧ W.cell? ⟨w.heap.size + 1, 0, none⟩ = some (.int .i64 b1) ∧ W.cell? ⟨w.heap.size + 1, 1, none⟩ = some (.int .i64 b2) ∧ W.cell? ⟨w.heap.size + 2, 0, none⟩ = some (.int .i64 c1) ∧ W.cell? ⟨w.heap.size + 2, 1, none⟩ = some (.int .i64 c2) ∧ W.cell? ⟨w.heap.size + 3, 0, none⟩ = some (.int .i64 d1) ∧ W.cell? ⟨w.heap.size + 3, 1, none⟩ = some (.int .i64 d2)) (by kernel_rfl) (held4 (box4 w _ a1 a2 b1 b2 c1 c2 d1 d2) ((Below.refl _ _).drew)) ?_
    first | refine wpB_skip 0 rfl (by kernel_rfl) (by kernel_rfl) (by kernel_rfl) (by rfl) ?_ | (refine wpB_text 0 (v := ?_) rfl (by kernel_rfl) (by kernel_rfl) (by kernel_rfl) (by rfl) (fun W hW => ?_) ?_; rotate_left; (obtain ⟨k1, k2, k3, k4, k5, k6, k7, k8, k9, k10⟩ := hW;  go_simp; refine comes_v ?_; exact ⟨k1, k2, k3, k4, k5, k6, k7, k8, k9, k10⟩))
    (try simp only [Act.put, List.setIfInBounds_toArray, List.set_cons_zero, List.set_cons_succ])
    first | refine wpB_skip 1 rfl (by kernel_rfl) (by kernel_rfl) (by kernel_rfl) (by rfl) ?_ | (refine wpB_text 1 (v := ?_) rfl (by kernel_rfl) (by kernel_rfl) (by kernel_rfl) (by rfl) (fun W hW => ?_) ?_; rotate_left; (obtain ⟨k1, k2, k3, k4, k5, k6, k7, k8, k9, k10⟩ := hW;  go_simp; refine comes_v ?_; exact ⟨k1, k2, k3, k4, k5, k6, k7, k8, k9, k10⟩))
    (try simp only [Act.put, List.setIfInBounds_toArray, List.set_cons_zero, List.set_cons_succ])
    first | refine wpB_skip 2 rfl (by kernel_rfl) (by kernel_rfl) (by kernel_rfl) (by rfl) ?_ | (refine wpB_text 2 (v := ?_) rfl (by kernel_rfl) (by kernel_rfl) (by kernel_rfl) (by rfl) (fun W hW => ?_) ?_; rotate_left; (obtain ⟨k1, k2, k3, k4, k5, k6, k7, k8, k9, k10⟩ := hW;  go_simp; refine comes_v ?_; exact ⟨k1, k2, k3, k4, k5, k6, k7, k8, k9, k10⟩))
    (try simp only [Act.put, List.setIfInBounds_toArray, List.set_cons_zero, List.set_cons_succ])
    first | refine wpB_skip 3 rfl (by kernel_rfl) (by kernel_rfl) (by kernel_rfl) (by rfl) ?_ | (refine wpB_text 3 (v := .int .i64 t1) rfl (by kernel_rfl) (by kernel_rfl) (by kernel_rfl) (by rfl) (fun W hW => ?_) ?_; (obtain ⟨k1, k2, k3, k4, k5, k6, k7, k8, k9, k10⟩ := hW;  go_simp; exact comes_c ( T1.out _) (fun wn hbn => held4 ⟨k1, k2, k3, k4, k5, k6, k7, k8, k9, k10⟩ hbn)))
    (try simp only [Act.put, List.setIfInBounds_toArray, List.set_cons_zero, List.set_cons_succ])
    first | refine wpB_skip 4 rfl (by kernel_rfl) (by kernel_rfl) (by kernel_rfl) (by rfl) ?_ | (refine wpB_text 4 (v := ?_) rfl (by kernel_rfl) (by kernel_rfl) (by kernel_rfl) (by rfl) (fun W hW => ?_) ?_; rotate_left; (obtain ⟨k1, k2, k3, k4, k5, k6, k7, k8, k9, k10⟩ := hW;  go_simp; refine comes_v ?_; exact ⟨k1, k2, k3, k4, k5, k6, k7, k8, k9, k10⟩))
    (try simp only [Act.put, List.setIfInBounds_toArray, List.set_cons_zero, List.set_cons_succ])
    first | refine wpB_skip 5 rfl (by kernel_rfl) (by kernel_rfl) (by kernel_rfl) (by rfl) ?_ | (refine wpB_text 5 (v := ?_) rfl (by kernel_rfl) (by kernel_rfl) (by kernel_rfl) (by rfl) (fun W hW => ?_) ?_; rotate_left; (obtain ⟨k1, k2, k3, k4, k5, k6, k7, k8, k9, k10⟩ := hW;  go_simp; refine comes_v ?_; exact ⟨k1, k2, k3, k4, k5, k6, k7, k8, k9, k10⟩))
    (try simp only [Act.put, List.setIfInBounds_toArray, List.set_cons_zero, List.set_cons_succ])
    first | refine wpB_skip 6 rfl (by kernel_rfl) (by kernel_rfl) (by kernel_rfl) (by rfl) ?_ | (refine wpB_text 6 (v := ?_) rfl (by kernel_rfl) (by kernel_rfl) (by kernel_rfl) (by rfl) (fun W hW => ?_) ?_; rotate_left; (obtain ⟨k1, k2, k3, k4, k5, k6, k7, k8, k9, k10⟩ := hW;  go_simp; refine comes_v ?_; exact ⟨k1, k2, k3, k4, k5, k6, k7, k8, k9, k10⟩))
    (try simp only [Act.put, List.setIfInBounds_toArray, List.set_cons_zero, List.set_cons_succ])
    first | refine wpB_skip 7 rfl (by kernel_rfl) (by kernel_rfl) (by kernel_rfl) (by rfl) ?_ | (refine wpB_text 7 (v := .int .i64 t2) rfl (by kernel_rfl) (by kernel_rfl) (by kernel_rfl) (by rfl) (fun W hW => ?_) ?_; (obtain ⟨k1, k2, k3, k4, k5, k6, k7, k8, k9, k10⟩ := hW;  go_simp; exact comes_c ( T2.out _) (fun wn hbn => held4 ⟨k1, k2, k3, k4, k5, k6, k7, k8, k9, k10⟩ hbn)))
    (try simp only [Act.put, List.setIfInBounds_toArray, List.set_cons_zero, List.set_cons_succ])
    first | refine wpB_skip 8 rfl (by kernel_rfl) (by kernel_rfl) (by kernel_rfl) (by rfl) ?_ | (refine wpB_text 8 (v := ?_) rfl (by kernel_rfl) (by kernel_rfl) (by kernel_rfl) (by rfl) (fun W hW => ?_) ?_; rotate_left; (obtain ⟨k1, k2, k3, k4, k5, k6, k7, k8, k9, k10⟩ := hW;  go_simp; refine comes_v ?_; exact ⟨k1, k2, k3, k4, k5, k6, k7, k8, k9, k10⟩))
    (try simp only [Act.put, List.setIfInBounds_toArray, List.set_cons_zero, List.set_cons_succ])
    first | refine wpB_skip 9 rfl (by kernel_rfl) (by kernel_rfl) (by kernel_rfl) (by rfl) ?_ | (refine wpB_text 9 (v := ?_) rfl (by kernel_rfl) (by kernel_rfl) (by kernel_rfl) (by rfl) (fun W hW => ?_) ?_; rotate_left; (obtain ⟨k1, k2, k3, k4, k5, k6, k7, k8, k9, k10⟩ := hW;  go_simp; refine comes_v ?_; exact ⟨k1, k2, k3, k4, k5, k6, k7, k8, k9, k10⟩))
    (try simp only [Act.put, List.setIfInBounds_toArray, List.set_cons_zero, List.set_cons_succ])
    first | refine wpB_skip 10 rfl (by kernel_rfl) (by kernel_rfl) (by kernel_rfl) (by rfl) ?_ | (refine wpB_text 10 (v := ?_) rfl (by kernel_rfl) (by kernel_rfl) (by kernel_rfl) (by rfl) (fun W hW => ?_) ?_; rotate_left; (obtain ⟨k1, k2, k3, k4, k5, k6, k7, k8, k9, k10⟩ := hW;  go_simp; refine comes_v ?_; exact ⟨k1, k2, k3, k4, k5, k6, k7, k8, k9, k10⟩))
    (try simp only [Act.put, List.setIfInBounds_toArray, List.set_cons_zero, List.set_cons_succ])
    first | refine wpB_skip 11 rfl (by kernel_rfl) (by kernel_rfl) (by kernel_rfl) (by rfl) ?_ | (refine wpB_text 11 (v := ?_) rfl (by kernel_rfl) (by kernel_rfl) (by kernel_rfl) (by rfl) (fun W hW => ?_) ?_; rotate_left; (obtain ⟨k1, k2, k3, k4, k5, k6, k7, k8, k9, k10⟩ := hW;  go_simp; refine comes_v ?_; exact ⟨k1, k2, k3, k4, k5, k6, k7, k8, k9, k10⟩))
    (try simp only [Act.put, List.setIfInBounds_toArray, List.set_cons_zero, List.set_cons_succ])
    first | refine wpB_skip 12 rfl (by kernel_rfl) (by kernel_rfl) (by kernel_rfl) (by rfl) ?_ | (refine wpB_text 12 (v := ?_) rfl (by kernel_rfl) (by kernel_rfl) (by kernel_rfl) (by rfl) (fun W hW => ?_) ?_; rotate_left; (obtain ⟨k1, k2, k3, k4, k5, k6, k7, k8, k9, k10⟩ := hW;  go_simp; refine comes_v ?_; exact ⟨k1, k2, k3, k4, k5, k6, k7, k8, k9, k10⟩))
    (try simp only [Act.put, List.setIfInBounds_toArray, List.set_cons_zero, List.set_cons_succ])
    first | refine wpB_skip 13 rfl (by kernel_rfl) (by kernel_rfl) (by kernel_rfl) (by rfl) ?_ | (refine wpB_text 13 (v := ?_) rfl (by kernel_rfl) (by kernel_rfl) (by kernel_rfl) (by rfl) (fun W hW => ?_) ?_; rotate_left; (obtain ⟨k1, k2, k3, k4, k5, k6, k7, k8, k9, k10⟩ := hW;  go_simp; refine comes_v ?_; exact ⟨k1, k2, k3, k4, k5, k6, k7, k8, k9, k10⟩))
    (try simp only [Act.put, List.setIfInBounds_toArray, List.set_cons_zero, List.set_cons_succ])
    first | refine wpB_skip 14 rfl (by kernel_rfl) (by kernel_rfl) (by kernel_rfl) (by rfl) ?_ | (refine wpB_text 14 (v := .int .i64 t3) rfl (by kernel_rfl) (by kernel_rfl) (by kernel_rfl) (by rfl) (fun W hW => ?_) ?_; (obtain ⟨k1, k2, k3, k4, k5, k6, k7, k8, k9, k10⟩ := hW;  go_simp; exact comes_c ( T3.out _) (fun wn hbn => held4 ⟨k1, k2, k3, k4, k5, k6, k7, k8, k9, k10⟩ hbn)))
    (try simp only [Act.put, List.setIfInBounds_toArray, List.set_cons_zero, List.set_cons_succ])
    first | refine wpB_skip 15 rfl (by kernel_rfl) (by kernel_rfl) (by kernel_rfl) (by rfl) ?_ | (refine wpB_text 15 (v := ?_) rfl (by kernel_rfl) (by kernel_rfl) (by kernel_rfl) (by rfl) (fun W hW => ?_) ?_; rotate_left; (obtain ⟨k1, k2, k3, k4, k5, k6, k7, k8, k9, k10⟩ := hW;  go_simp; refine comes_v ?_; exact ⟨k1, k2, k3, k4, k5, k6, k7, k8, k9, k10⟩))
    (try simp only [Act.put, List.setIfInBounds_toArray, List.set_cons_zero, List.set_cons_succ])
    first | refine wpB_skip 16 rfl (by kernel_rfl) (by kernel_rfl) (by kernel_rfl) (by rfl) ?_ | (refine wpB_text 16 (v := ?_) rfl (by kernel_rfl) (by kernel_rfl) (by kernel_rfl) (by rfl) (fun W hW => ?_) ?_; rotate_left; (obtain ⟨k1, k2, k3, k4, k5, k6, k7, k8, k9, k10⟩ := hW;  go_simp; refine comes_v ?_; exact ⟨k1, k2, k3, k4, k5, k6, k7, k8, k9, k10⟩))
    (try simp only [Act.put, List.setIfInBounds_toArray, List.set_cons_zero, List.set_cons_succ])
    first | refine wpB_skip 17 rfl (by kernel_rfl) (by kernel_rfl) (by kernel_rfl) (by rfl) ?_ | (refine wpB_text 17 (v := ?_) rfl (by kernel_rfl) (by kernel_rfl) (by kernel_rfl) (by rfl) (fun W hW => ?_) ?_; rotate_left; (obtain ⟨k1, k2, k3, k4, k5, k6, k7, k8, k9, k10⟩ := hW;  go_simp; refine comes_v ?_; exact ⟨k1, k2, k3, k4, k5, k6, k7, k8, k9, k10⟩))
    (try simp only [Act.put, List.setIfInBounds_toArray, List.set_cons_zero, List.set_cons_succ])
    first | refine wpB_skip 18 rfl (by kernel_rfl) (by kernel_rfl) (by kernel_rfl) (by rfl) ?_ | (refine wpB_text 18 (v := .int .i64 t4) rfl (by kernel_rfl) (by kernel_rfl) (by kernel_rfl) (by rfl) (fun W hW => ?_) ?_; (obtain ⟨k1, k2, k3, k4, k5, k6, k7, k8, k9, k10⟩ := hW;  go_simp; exact comes_c ( T4.out _) (fun wn hbn => held4 ⟨k1, k2, k3, k4, k5, k6, k7, k8, k9, k10⟩ hbn)))
    (try simp only [Act.put, List.setIfInBounds_toArray, List.set_cons_zero, List.set_cons_succ])
    first | refine wpB_skip 19 rfl (by kernel_rfl) (by kernel_rfl) (by kernel_rfl) (by rfl) ?_ | (refine wpB_text 19 (v := ?_) rfl (by kernel_rfl) (by kernel_rfl) (by kernel_rfl) (by rfl) (fun W hW => ?_) ?_; rotate_left; (obtain ⟨k1, k2, k3, k4, k5, k6, k7, k8, k9, k10⟩ := hW;  go_simp; refine comes_v ?_; exact ⟨k1, k2, k3, k4, k5, k6, k7, k8, k9, k10⟩))
    (try simp only [Act.put, List.setIfInBounds_toArray, List.set_cons_zero, List.set_cons_succ])
    first | refine wpB_skip 20 rfl (by kernel_rfl) (by kernel_rfl) (by kernel_rfl) (by rfl) ?_ | (refine wpB_text 20 (v := ?_) rfl (by kernel_rfl) (by kernel_rfl) (by kernel_rfl) (by rfl) (fun W hW => ?_) ?_; rotate_left; (obtain ⟨k1, k2, k3, k4, k5, k6, k7, k8, k9, k10⟩ := hW;  go_simp; refine comes_v ?_; exact ⟨k1, k2, k3, k4, k5, k6, k7, k8, k9, k10⟩))
    (try simp only [Act.put, List.setIfInBounds_toArray, List.set_cons_zero, List.set_cons_succ])
    first | refine wpB_skip 21 rfl (by kernel_rfl) (by kernel_rfl) (by kernel_rfl) (by rfl) ?_ | (refine wpB_text 21 (v := ?_) rfl (by kernel_rfl) (by kernel_rfl) (by kernel_rfl) (by rfl) (fun W hW => ?_) ?_; rotate_left; (obtain ⟨k1, k2, k3, k4, k5, k6, k7, k8, k9, k10⟩ := hW;  go_simp; refine comes_v ?_; exact ⟨k1, k2, k3, k4, k5, k6, k7, k8, k9, k10⟩))
    (try simp only [Act.put, List.setIfInBounds_toArray, List.set_cons_zero, List.set_cons_succ])
    first | refine wpB_skip 22 rfl (by kernel_rfl) (by kernel_rfl) (by kernel_rfl) (by rfl) ?_ | (refine wpB_text 22 (v := ?_) rfl (by kernel_rfl) (by kernel_rfl) (by kernel_rfl) (by rfl) (fun W hW => ?_) ?_; rotate_left; (obtain ⟨k1, k2, k3, k4, k5, k6, k7, k8, k9, k10⟩ := hW;  go_simp; refine comes_v ?_; exact ⟨k1, k2, k3, k4, k5, k6, k7, k8, k9, k10⟩))
    (try simp only [Act.put, List.setIfInBounds_toArray, List.set_cons_zero, List.set_cons_succ])
    refine wpB_done (by kernel_rfl) ?_ _
    intro W hW; obtain ⟨k1, k2, k3, k4, k5, k6, k7, k8, k9, k10⟩ := hW
    clear e1 e2
    go_wp2_with fail
    go_ret
    exact ⟨ret_bool (by simp [hm]), k1⟩
theorem linesMeet_any (a1 a2 b1 b2 c1 c2 d1 d2 : Int) (w : World) (pa : isPegB a1 a2 = true) (pb : isPegB b1 b2 = true) (pc : isPegB c1 c2 = true) (pd : isPegB d1 d2 = true) :
    Calls Try.prog 125 #[.agg #[.int .i64 a1, .int .i64 a2], .agg #[.int .i64 b1, .int .i64 b2], .agg #[.int .i64 c1, .int .i64 c2], .agg #[.int .i64 d1, .int .i64 d2]] w fun e w' => e = .returned (.bool (meetB a1 a2 b1 b2 c1 c2 d1 d2)) ∧ Below w.heap.size w w' := by
  have ha := sz_of pa
  have hb := sz_of pb
  have hc := sz_of pc
  have hd := sz_of pd
  have K1 := Lib.hid (fun W => isBetween_any a1 a2 c1 c2 d1 d2 W ha hc hd)
  have K2 := Lib.hid (fun W => isBetween_any b1 b2 c1 c2 d1 d2 W hb hc hd)
  have K3 := Lib.hid (fun W => isBetween_any c1 c2 a1 a2 b1 b2 W hc ha hb)
  have K4 := Lib.hid (fun W => isBetween_any d1 d2 a1 a2 b1 b2 W hd ha hb)
  have KX := Lib.hid (fun W => linesCross_any a1 a2 b1 b2 c1 c2 d1 d2 W pa pb pc pd)
  clear ha hb hc hd pa pb pc pd
  have eq : meetB a1 a2 b1 b2 c1 c2 d1 d2 = (onB c1 c2 d1 d2 a1 a2 || onB c1 c2 d1 d2 b1 b2 || onB a1 a2 b1 b2 c1 c2 || onB a1 a2 b1 b2 d1 d2 ||
      (decide (twI a1 a2 b1 b2 c1 c2 * twI a1 a2 b1 b2 d1 d2 < 0) && decide (twI c1 c2 d1 d2 a1 a2 * twI c1 c2 d1 d2 b1 b2 < 0))) := by
    unfold meetB; rw [Bool.decide_and]
    generalize onB a1 a2 b1 b2 c1 c2 = o1
    generalize onB a1 a2 b1 b2 d1 d2 = o2
    generalize onB c1 c2 d1 d2 a1 a2 = o3
    generalize onB c1 c2 d1 d2 b1 b2 = o4
    cases o1 <;> cases o2 <;> cases o3 <;> cases o4 <;> rfl
  rw [eq]
  clear eq
  generalize twI a1 a2 b1 b2 c1 c2 = t1 at *
  generalize twI a1 a2 b1 b2 d1 d2 = t2 at *
  generalize twI c1 c2 d1 d2 a1 a2 = t3 at *
  generalize twI c1 c2 d1 d2 b1 b2 = t4 at *
  generalize onB c1 c2 d1 d2 a1 a2 = o1 at *
  generalize onB c1 c2 d1 d2 b1 b2 = o2 at *
  generalize onB a1 a2 b1 b2 c1 c2 = o3 at *
  generalize onB a1 a2 b1 b2 d1 d2 = o4 at *
  cases o1
  · go_enter Try.func125, Try.ntmps125
    go_wp2_with fail
    refine (K1.out _).mono ?_; rintro e w1 ⟨rfl, hb1⟩
    obtain ⟨hc1, hf1⟩ := bcell hb1
    have z1_0 : w.heap.size < w1.heap.size := by (have := hb1.size; simp at this; omega)
    have z1_1 : w.heap.size + 1 < w1.heap.size := by (have := hb1.size; simp at this; omega)
    have z1_2 : w.heap.size + 2 < w1.heap.size := by (have := hb1.size; simp at this; omega)
    have z1_3 : w.heap.size + 3 < w1.heap.size := by (have := hb1.size; simp at this; omega)
    have B1 : Below w.heap.size w w1 := (Below.alloc (Below.alloc (Below.alloc (Below.alloc (Below.refl _ _) (by simp <;> omega) _) (by simp <;> omega) _) (by simp <;> omega) _) (by simp <;> omega) _).trans (hb1.mono (by simp <;> omega))
    go_wp2_with fail
    cases o2
    · refine (K2.out _).mono ?_; rintro e w2 ⟨rfl, hb2⟩
      obtain ⟨hc2, hf2⟩ := bcell hb2
      have z2_0 : w.heap.size < w2.heap.size := by (have := hb2.size; omega)
      have z2_1 : w.heap.size + 1 < w2.heap.size := by (have := hb2.size; omega)
      have z2_2 : w.heap.size + 2 < w2.heap.size := by (have := hb2.size; omega)
      have z2_3 : w.heap.size + 3 < w2.heap.size := by (have := hb2.size; omega)
      have B2 : Below w.heap.size w w2 := B1.trans (hb2.mono (by have := B1.size; omega))
      go_wp2_with fail
      cases o3
      · refine (K3.out _).mono ?_; rintro e w3 ⟨rfl, hb3⟩
        obtain ⟨hc3, hf3⟩ := bcell hb3
        have z3_0 : w.heap.size < w3.heap.size := by (have := hb3.size; omega)
        have z3_1 : w.heap.size + 1 < w3.heap.size := by (have := hb3.size; omega)
        have z3_2 : w.heap.size + 2 < w3.heap.size := by (have := hb3.size; omega)
        have z3_3 : w.heap.size + 3 < w3.heap.size := by (have := hb3.size; omega)
        have B3 : Below w.heap.size w w3 := B2.trans (hb3.mono (by have := B2.size; omega))
        go_wp2_with fail
        cases o4
        · refine (K4.out _).mono ?_; rintro e w4 ⟨rfl, hb4⟩
          obtain ⟨hc4, hf4⟩ := bcell hb4
          have z4_0 : w.heap.size < w4.heap.size := by (have := hb4.size; omega)
          have z4_1 : w.heap.size + 1 < w4.heap.size := by (have := hb4.size; omega)
          have z4_2 : w.heap.size + 2 < w4.heap.size := by (have := hb4.size; omega)
          have z4_3 : w.heap.size + 3 < w4.heap.size := by (have := hb4.size; omega)
          have B4 : Below w.heap.size w w4 := B3.trans (hb4.mono (by have := B3.size; omega))
          go_wp2_with fail
          refine (KX.out _).mono ?_; rintro e w5 ⟨rfl, hb5⟩
          obtain ⟨hc5, hf5⟩ := bcell hb5
          have z5_0 : w.heap.size < w5.heap.size := by (have := hb5.size; omega)
          have z5_1 : w.heap.size + 1 < w5.heap.size := by (have := hb5.size; omega)
          have z5_2 : w.heap.size + 2 < w5.heap.size := by (have := hb5.size; omega)
          have z5_3 : w.heap.size + 3 < w5.heap.size := by (have := hb5.size; omega)
          have B5 : Below w.heap.size w w5 := B4.trans (hb5.mono (by have := B4.size; omega))
          go_wp2_with fail
          go_ret
          exact ⟨rfl, B5⟩
        · refine (K4.out _).mono ?_; rintro e w4 ⟨rfl, hb4⟩
          obtain ⟨hc4, hf4⟩ := bcell hb4
          have z4_0 : w.heap.size < w4.heap.size := by (have := hb4.size; omega)
          have z4_1 : w.heap.size + 1 < w4.heap.size := by (have := hb4.size; omega)
          have z4_2 : w.heap.size + 2 < w4.heap.size := by (have := hb4.size; omega)
          have z4_3 : w.heap.size + 3 < w4.heap.size := by (have := hb4.size; omega)
          have B4 : Below w.heap.size w w4 := B3.trans (hb4.mono (by have := B3.size; omega))
          go_wp2_with fail
          go_ret
          exact ⟨rfl, B4⟩
      · refine (K3.out _).mono ?_; rintro e w3 ⟨rfl, hb3⟩
        obtain ⟨hc3, hf3⟩ := bcell hb3
        have z3_0 : w.heap.size < w3.heap.size := by (have := hb3.size; omega)
        have z3_1 : w.heap.size + 1 < w3.heap.size := by (have := hb3.size; omega)
        have z3_2 : w.heap.size + 2 < w3.heap.size := by (have := hb3.size; omega)
        have z3_3 : w.heap.size + 3 < w3.heap.size := by (have := hb3.size; omega)
        have B3 : Below w.heap.size w w3 := B2.trans (hb3.mono (by have := B2.size; omega))
        go_wp2_with fail
        go_ret
        exact ⟨rfl, B3⟩
    · refine (K2.out _).mono ?_; rintro e w2 ⟨rfl, hb2⟩
      obtain ⟨hc2, hf2⟩ := bcell hb2
      have z2_0 : w.heap.size < w2.heap.size := by (have := hb2.size; omega)
      have z2_1 : w.heap.size + 1 < w2.heap.size := by (have := hb2.size; omega)
      have z2_2 : w.heap.size + 2 < w2.heap.size := by (have := hb2.size; omega)
      have z2_3 : w.heap.size + 3 < w2.heap.size := by (have := hb2.size; omega)
      have B2 : Below w.heap.size w w2 := B1.trans (hb2.mono (by have := B1.size; omega))
      go_wp2_with fail
      go_ret
      exact ⟨rfl, B2⟩
  · go_enter Try.func125, Try.ntmps125
    go_wp2_with fail
    refine (K1.out _).mono ?_; rintro e w1 ⟨rfl, hb1⟩
    obtain ⟨hc1, hf1⟩ := bcell hb1
    have z1_0 : w.heap.size < w1.heap.size := by (have := hb1.size; simp at this; omega)
    have z1_1 : w.heap.size + 1 < w1.heap.size := by (have := hb1.size; simp at this; omega)
    have z1_2 : w.heap.size + 2 < w1.heap.size := by (have := hb1.size; simp at this; omega)
    have z1_3 : w.heap.size + 3 < w1.heap.size := by (have := hb1.size; simp at this; omega)
    have B1 : Below w.heap.size w w1 := (Below.alloc (Below.alloc (Below.alloc (Below.alloc (Below.refl _ _) (by simp <;> omega) _) (by simp <;> omega) _) (by simp <;> omega) _) (by simp <;> omega) _).trans (hb1.mono (by simp <;> omega))
    go_wp2_with fail
    go_ret
    exact ⟨rfl, B1⟩
end Go.Proofs.Ytheddoinnakneaa
