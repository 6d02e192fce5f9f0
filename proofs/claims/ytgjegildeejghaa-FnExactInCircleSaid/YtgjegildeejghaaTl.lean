/- contracts: squares of a triangle's sides -/
import Derived.Test.YtgjegildeejghaaTe
import Derived.Test.YtgjegildeejghaaKi
import Derived.BigRegion
namespace Go.Proofs.Ytgjegildeejghaa
open Go.ChangeShapes Go.WideShapes Go.ChangeAt Go.RowKit Go.Joins
set_option linter.unusedVariables false
set_option linter.unusedSimpArgs false
set_option maxRecDepth 4000
/-- the square of how far two points are -/
def sqI (a1 a2 b1 b2 : Int) : Int := (a1 - b1) * (a1 - b1) + (a2 - b2) * (a2 - b2)
theorem sqI_comm (a1 a2 b1 b2 : Int) : sqI a1 a2 b1 b2 = sqI b1 b2 a1 a2 := by unfold sqI; grind
def sqP (p q : Int × Int) : Int := sqI p.1 p.2 q.1 q.2
/-- side number j of a triangle -/
def sdF (l : List (Int × Int)) (j : Nat) : Int := sqP (vx l (j + 1)) (vx l (j + 2))
theorem sqI_bd {a1 a2 b1 b2 : Int} (h1 : -40 ≤ a1 ∧ a1 ≤ 40) (h2 : -40 ≤ a2 ∧ a2 ≤ 40) (h3 : -40 ≤ b1 ∧ b1 ≤ 40) (h4 : -40 ≤ b2 ∧ b2 ≤ 40) : 0 ≤ sqI a1 a2 b1 b2 ∧ sqI a1 a2 b1 b2 ≤ 12800 := by
  have s1 := mul_bd (x := a1 - b1) (y := a1 - b1) (m := 80) (n := 80) (by omega) (by omega) (by omega) (by omega)
  have s2 := mul_bd (x := a2 - b2) (y := a2 - b2) (m := 80) (n := 80) (by omega) (by omega) (by omega) (by omega)
  have t1 := (sq_bd (x := a1 - b1) (by omega)).1
  have t2 := (sq_bd (x := a2 - b2) (by omega)).1
  unfold sqI
  omega
theorem trSquare_any (a1 a2 b1 b2 : Int) (w : World) (h1 : -40 ≤ a1 ∧ a1 ≤ 40) (h2 : -40 ≤ a2 ∧ a2 ≤ 40) (h3 : -40 ≤ b1 ∧ b1 ≤ 40) (h4 : -40 ≤ b2 ∧ b2 ≤ 40) :
    Calls Try.prog 91 #[.agg #[.int .i64 a1, .int .i64 a2], .agg #[.int .i64 b1, .int .i64 b2]] w fun e w' => e = .returned (.int .i64 (sqI a1 a2 b1 b2)) ∧ Below w.heap.size w w' := by
  have s1 := mul_bd (x := a1 - b1) (y := a1 - b1) (m := 80) (n := 80) (by omega) (by omega) (by omega) (by omega)
  have s2 := mul_bd (x := a2 - b2) (y := a2 - b2) (m := 80) (n := 80) (by omega) (by omega) (by omega) (by omega)
  obtain ⟨x1, x2⟩ := s1
  obtain ⟨x3, x4⟩ := s2
  obtain ⟨y1, y2⟩ := h1
  obtain ⟨y3, y4⟩ := h2
  obtain ⟨y5, y6⟩ := h3
  obtain ⟨y7, y8⟩ := h4
  go_enter Try.func91, Try.ntmps91
  go_wp2
  go_ret
  exact ⟨ret_int (by unfold sqI; rfl), (by repeat (first | exact Below.refl _ _ | assumption | apply Below.drew | refine Below.alloc ?_ (by simp <;> omega) _))⟩
set_option maxHeartbeats 1000000 in
theorem trSides_any (A : Option Addr) (c : Nat) (l : List (Int × Int)) (a1 a2 b1 b2 c1 c2 : Int) (w : World) (hR : Rd w w.heap.size A l) (ht : Tri l a1 a2 b1 b2 c1 c2) :
    Calls Try.prog 60 #[.slice A l.length c] w fun e w' => ∃ g, e = .returned (.slice (some ⟨g, 0, none⟩) 3 3) ∧ Below w.heap.size w w' ∧ w.heap.size ≤ g ∧ g < w'.heap.size ∧
      w'.cell? ⟨g, 0, none⟩ = some (.int .i64 (sdF l 0)) ∧ w'.cell? ⟨g, 1, none⟩ = some (.int .i64 (sdF l 1)) ∧ w'.cell? ⟨g, 2, none⟩ = some (.int .i64 (sdF l 2)) ∧ ∀ o, w'.frozen? ⟨g, o, none⟩ = false := by
  obtain ⟨u1, u2, u3, u4, u5, u6⟩ := tri_bd ht
  have K0 := Lib.hid (fun W => trSquare_any b1 b2 c1 c2 W u3 u4 u5 u6)
  have K1 := Lib.hid (fun W => trSquare_any c1 c2 a1 a2 W u5 u6 u1 u2)
  have K2 := Lib.hid (fun W => trSquare_any a1 a2 b1 b2 W u1 u2 u3 u4)
  have e0 : sdF l 0 = sqI b1 b2 c1 c2 := by rw [ht.1]; rfl
  have e1 : sdF l 1 = sqI c1 c2 a1 a2 := by
    rw [ht.1]
    unfold sdF
    rw [show vx [(a1, a2), (b1, b2), (c1, c2)] (1 + 2) = (a1, a2) from vx_add [(a1, a2), (b1, b2), (c1, c2)] 0]
    rfl
  have e2 : sdF l 2 = sqI a1 a2 b1 b2 := by
    rw [ht.1]
    unfold sdF
    rw [show vx [(a1, a2), (b1, b2), (c1, c2)] (2 + 1) = (a1, a2) from vx_add [(a1, a2), (b1, b2), (c1, c2)] 0, show vx [(a1, a2), (b1, b2), (c1, c2)] (2 + 2) = (b1, b2) from vx_add [(a1, a2), (b1, b2), (c1, c2)] 1]
    rfl
  rw [e0, e1, e2]
  generalize sqI b1 b2 c1 c2 = s0 at *
  generalize sqI c1 c2 a1 a2 = s1 at *
  generalize sqI a1 a2 b1 b2 = s2 at *
  obtain ⟨rfl, hg⟩ := ht
  obtain ⟨b, off, rfl, hb, H3⟩ := rd3_of hR
  change Calls Try.prog 60 #[.slice (some ⟨b, off, none⟩) 3 c] w _
  obtain ⟨x0, x1, x2, x3, x4, x5⟩ := H3.out w (Below.refl _ _)
  clear hg hR u1 u2 u3 u4 u5 u6 e0 e1 e2
  go_enter Try.func60, Try.ntmps60
  go_wp2_with fail
  refine wp_region_BT 21 (fun W => Below (w).heap.size (w) W) (by kernel_rfl) (by kernel_rfl) (by repeat (first | exact Below.refl _ _ | apply Below.drew)) ?_
  simp only [List.take_succ_cons, List.take_zero, List.drop_succ_cons, List.drop_zero]
  first | refine wpH_skip (by rfl) ?_ | (refine wpH_text (v := ?_) (by rfl) (fun W k1 => ?_) ?_; rotate_left; (obtain ⟨hc1, hf1⟩ := bcell k1;  go_simp; refine comes_v ?_; exact k1))
  (try simp only [Act.put, List.setIfInBounds_toArray, List.set_cons_zero, List.set_cons_succ])
  first | refine wpH_skip (by rfl) ?_ | (refine wpH_text (v := ?_) (by rfl) (fun W k1 => ?_) ?_; rotate_left; (obtain ⟨hc1, hf1⟩ := bcell k1;  go_simp; refine comes_v ?_; exact k1))
  (try simp only [Act.put, List.setIfInBounds_toArray, List.set_cons_zero, List.set_cons_succ])
  first | refine wpH_skip (by rfl) ?_ | (refine wpH_text (v := ?_) (by rfl) (fun W k1 => ?_) ?_; rotate_left; (obtain ⟨hc1, hf1⟩ := bcell k1;  go_simp; refine comes_v ?_; exact k1))
  (try simp only [Act.put, List.setIfInBounds_toArray, List.set_cons_zero, List.set_cons_succ])
  first | refine wpH_skip (by rfl) ?_ | (refine wpH_text (v := ?_) (by rfl) (fun W k1 => ?_) ?_; rotate_left; (obtain ⟨hc1, hf1⟩ := bcell k1;  go_simp; refine comes_v ?_; exact k1))
  (try simp only [Act.put, List.setIfInBounds_toArray, List.set_cons_zero, List.set_cons_succ])
  first | refine wpH_skip (by rfl) ?_ | (refine wpH_text (v := ?_) (by rfl) (fun W k1 => ?_) ?_; rotate_left; (obtain ⟨hc1, hf1⟩ := bcell k1;  go_simp; refine comes_v ?_; exact k1))
  (try simp only [Act.put, List.setIfInBounds_toArray, List.set_cons_zero, List.set_cons_succ])
  first | refine wpH_skip (by rfl) ?_ | (refine wpH_text (v := ?_) (by rfl) (fun W k1 => ?_) ?_; rotate_left; (obtain ⟨hc1, hf1⟩ := bcell k1;  go_simp; refine comes_v ?_; exact k1))
  (try simp only [Act.put, List.setIfInBounds_toArray, List.set_cons_zero, List.set_cons_succ])
  first | refine wpH_skip (by rfl) ?_ | (refine wpH_text (v := .int .i64 s0) (by rfl) (fun W k1 => ?_) ?_; (obtain ⟨hc1, hf1⟩ := bcell k1;  go_simp; exact comes_c ( K0.out _) (fun wn hbn => k1.trans (hbn.mono k1.size))))
  (try simp only [Act.put, List.setIfInBounds_toArray, List.set_cons_zero, List.set_cons_succ])
  first | refine wpH_skip (by rfl) ?_ | (refine wpH_text (v := ?_) (by rfl) (fun W k1 => ?_) ?_; rotate_left; (obtain ⟨hc1, hf1⟩ := bcell k1;  go_simp; refine comes_v ?_; exact k1))
  (try simp only [Act.put, List.setIfInBounds_toArray, List.set_cons_zero, List.set_cons_succ])
  first | refine wpH_skip (by rfl) ?_ | (refine wpH_text (v := ?_) (by rfl) (fun W k1 => ?_) ?_; rotate_left; (obtain ⟨hc1, hf1⟩ := bcell k1;  go_simp; refine comes_v ?_; exact k1))
  (try simp only [Act.put, List.setIfInBounds_toArray, List.set_cons_zero, List.set_cons_succ])
  first | refine wpH_skip (by rfl) ?_ | (refine wpH_text (v := ?_) (by rfl) (fun W k1 => ?_) ?_; rotate_left; (obtain ⟨hc1, hf1⟩ := bcell k1;  go_simp; refine comes_v ?_; exact k1))
  (try simp only [Act.put, List.setIfInBounds_toArray, List.set_cons_zero, List.set_cons_succ])
  first | refine wpH_skip (by rfl) ?_ | (refine wpH_text (v := ?_) (by rfl) (fun W k1 => ?_) ?_; rotate_left; (obtain ⟨hc1, hf1⟩ := bcell k1;  go_simp; refine comes_v ?_; exact k1))
  (try simp only [Act.put, List.setIfInBounds_toArray, List.set_cons_zero, List.set_cons_succ])
  first | refine wpH_skip (by rfl) ?_ | (refine wpH_text (v := ?_) (by rfl) (fun W k1 => ?_) ?_; rotate_left; (obtain ⟨hc1, hf1⟩ := bcell k1;  go_simp; refine comes_v ?_; exact k1))
  (try simp only [Act.put, List.setIfInBounds_toArray, List.set_cons_zero, List.set_cons_succ])
  first | refine wpH_skip (by rfl) ?_ | (refine wpH_text (v := ?_) (by rfl) (fun W k1 => ?_) ?_; rotate_left; (obtain ⟨hc1, hf1⟩ := bcell k1;  go_simp; refine comes_v ?_; exact k1))
  (try simp only [Act.put, List.setIfInBounds_toArray, List.set_cons_zero, List.set_cons_succ])
  first | refine wpH_skip (by rfl) ?_ | (refine wpH_text (v := .int .i64 s1) (by rfl) (fun W k1 => ?_) ?_; (obtain ⟨hc1, hf1⟩ := bcell k1;  go_simp; exact comes_c ( K1.out _) (fun wn hbn => k1.trans (hbn.mono k1.size))))
  (try simp only [Act.put, List.setIfInBounds_toArray, List.set_cons_zero, List.set_cons_succ])
  first | refine wpH_skip (by rfl) ?_ | (refine wpH_text (v := ?_) (by rfl) (fun W k1 => ?_) ?_; rotate_left; (obtain ⟨hc1, hf1⟩ := bcell k1;  go_simp; refine comes_v ?_; exact k1))
  (try simp only [Act.put, List.setIfInBounds_toArray, List.set_cons_zero, List.set_cons_succ])
  first | refine wpH_skip (by rfl) ?_ | (refine wpH_text (v := ?_) (by rfl) (fun W k1 => ?_) ?_; rotate_left; (obtain ⟨hc1, hf1⟩ := bcell k1;  go_simp; refine comes_v ?_; exact k1))
  (try simp only [Act.put, List.setIfInBounds_toArray, List.set_cons_zero, List.set_cons_succ])
  first | refine wpH_skip (by rfl) ?_ | (refine wpH_text (v := ?_) (by rfl) (fun W k1 => ?_) ?_; rotate_left; (obtain ⟨hc1, hf1⟩ := bcell k1;  go_simp; refine comes_v ?_; exact k1))
  (try simp only [Act.put, List.setIfInBounds_toArray, List.set_cons_zero, List.set_cons_succ])
  first | refine wpH_skip (by rfl) ?_ | (refine wpH_text (v := ?_) (by rfl) (fun W k1 => ?_) ?_; rotate_left; (obtain ⟨hc1, hf1⟩ := bcell k1;  go_simp; refine comes_v ?_; exact k1))
  (try simp only [Act.put, List.setIfInBounds_toArray, List.set_cons_zero, List.set_cons_succ])
  first | refine wpH_skip (by rfl) ?_ | (refine wpH_text (v := ?_) (by rfl) (fun W k1 => ?_) ?_; rotate_left; (obtain ⟨hc1, hf1⟩ := bcell k1;  go_simp; refine comes_v ?_; exact k1))
  (try simp only [Act.put, List.setIfInBounds_toArray, List.set_cons_zero, List.set_cons_succ])
  first | refine wpH_skip (by rfl) ?_ | (refine wpH_text (v := ?_) (by rfl) (fun W k1 => ?_) ?_; rotate_left; (obtain ⟨hc1, hf1⟩ := bcell k1;  go_simp; refine comes_v ?_; exact k1))
  (try simp only [Act.put, List.setIfInBounds_toArray, List.set_cons_zero, List.set_cons_succ])
  first | refine wpH_skip (by rfl) ?_ | (refine wpH_text (v := .int .i64 s2) (by rfl) (fun W k1 => ?_) ?_; (obtain ⟨hc1, hf1⟩ := bcell k1;  go_simp; exact comes_c ( K2.out _) (fun wn hbn => k1.trans (hbn.mono k1.size))))
  (try simp only [Act.put, List.setIfInBounds_toArray, List.set_cons_zero, List.set_cons_succ])
  refine wpH_nil ?_
  intro W k1; obtain ⟨hc1, hf1⟩ := bcell k1
  have hWs := k1.size
  clear hc1 hf1
  go_wp2_with fail
  go_ret
  refine ⟨W.heap.size, rfl, Below.alloc k1 hWs _, hWs, by simp, by go_simp, by go_simp, by go_simp, fun o => ?_⟩
  rw [frozen?_alloc_cells]
  simp [World.frozen?]
end Go.Proofs.Ytgjegildeejghaa
