/- contracts: the order of points, the program's side -/
import Derived.Test.YtheddoinnakneaaTp20
import Derived.Test.YtheddoinnakneaaTb00
import Derived.Test.YtheddoinnakneaaBe
namespace Go.Proofs.Ytheddoinnakneaa
open Go.ChangeShapes Go.WideShapes Go.ChangeAt Go.RowKit Go.Joins
set_option linter.unusedVariables false
set_option linter.unusedSimpArgs false
set_option maxRecDepth 4000
def cmpP (p q : Int × Int) : Int := if sgI (p.1 - q.1) ≠ 0 then sgI (p.1 - q.1) else sgI (p.2 - q.2)
theorem cmpP_lt {p q : Int × Int} : cmpP p q < 0 ↔ lxP p q := by
  unfold cmpP sgI lxP
  repeat' split
  all_goals omega
theorem or2_any (g n : Nat) (x y : Int) (w : World) (h0 : w.cell? ⟨g, 0, none⟩ = some (.int .i64 x)) (h1 : w.cell? ⟨g, 1, none⟩ = some (.int .i64 y)) :
    Calls Try.prog 132 #[.slice (some ⟨g, 0, none⟩) 2 n] w fun e w' => e = .returned (.int .i64 (if x ≠ 0 then x else y)) ∧ w = w' := by
  obtain ⟨r, hr⟩ : ∃ r, r = if x ≠ 0 then x else y := ⟨_, rfl⟩
  rw [← hr]
  have HR := Lib.hid hr
  clear hr
  go_enter Try.func132, Try.ntmps132
  go_wp2_with fail
  go_loopg [8] 2 (fun g2 i wr => ∃ k : Nat, k ≤ 2 ∧ g2 = 2 - k ∧ i = .int .i64 k ∧ wr = w ∧ Hid (k = 0 ∨ (x = 0 ∧ (k = 1 ∨ y = 0))))
  case atStart => exact ⟨0, by omega, rfl, rfl, rfl, Lib.hid (Or.inl rfl)⟩
  case round =>
    obtain ⟨k, hk, hg, rfl, rfl, hz⟩ := hrel
    have HGK := Lib.hid hg
    clear hg
    have hk3 : k = 0 ∨ k = 1 ∨ k = 2 := by omega
    rcases hk3 with rfl | rfl | rfl
    · by_cases hx : x = 0
      · subst hx
        go_wp2_with fail
        go_roundg 1
        case measure => have := HGK.out; omega
        case rel => exact ⟨1, by omega, rfl, by go_num, rfl, Lib.hid (by simp)⟩
      · have hrx : Hid (r = x) := Lib.hid (by rw [HR.out, if_pos hx])
        go_wp2_with fail
        go_ret
        exact ⟨ret_int hrx.out.symm, rfl⟩
    · have hx : x = 0 := by
        rcases hz.out with h | h
        · omega
        · exact h.1
      have hry : Hid (r = y) := Lib.hid (by rw [HR.out, if_neg (by omega)])
      by_cases hy : y = 0
      · subst hy
        subst hx
        go_wp2_with fail
        go_roundg 0
        case measure => have := HGK.out; omega
        case rel => exact ⟨2, by omega, rfl, by go_num, rfl, Lib.hid (by simp)⟩
      · clear hz hx
        go_wp2_with fail
        go_ret
        exact ⟨ret_int hry.out.symm, rfl⟩
    · have hxy : x = 0 ∧ y = 0 := by have := hz.out; omega
      have hr0 : Hid (r = 0) := Lib.hid (by rw [HR.out, hxy.1, hxy.2]; simp)
      clear hxy
      go_wp2_with fail
      go_ret
      exact ⟨ret_int hr0.out.symm, rfl⟩
theorem pegCompare_any (a1 a2 b1 b2 : Int) (w : World) (ha : Sz a1 a2) (hb : Sz b1 b2) :
    Calls Try.prog 118 #[.agg #[.int .i64 a1, .int .i64 a2], .agg #[.int .i64 b1, .int .i64 b2]] w fun e w' => e = .returned (.int .i64 (cmpP (a1, a2) (b1, b2))) ∧ Below w.heap.size w w' := by
  have K1 := Lib.hid (fun W => compare_any a1 b1 W)
  have K2 := Lib.hid (fun W => compare_any a2 b2 W)
  have KO : Hid (∀ (g n : Nat) (W : World) (h0 : W.cell? ⟨g, 0, none⟩ = some (.int .i64 (sgI (a1 - b1)))) (h1 : W.cell? ⟨g, 1, none⟩ = some (.int .i64 (sgI (a2 - b2)))), Calls Try.prog 132 #[.slice (some ⟨g, 0, none⟩) 2 n] W fun e w' => e = .returned (.int .i64 (cmpP (a1, a2) (b1, b2))) ∧ W = w') := Lib.hid (fun g n W h0 h1 => or2_any g n (sgI (a1 - b1)) (sgI (a2 - b2)) W h0 h1)
  clear ha hb
  generalize cmpP (a1, a2) (b1, b2) = r at *
  generalize sgI (a1 - b1) = x at *
  generalize sgI (a2 - b2) = y at *
  go_enter Try.func118, Try.ntmps118
  go_wp2_with fail
  obtain ⟨Wp, hWp⟩ : ∃ Wp, Wp = ((w.alloc (.cells #[.int .i64 a1, .int .i64 a2] 56)).alloc (.cells #[.int .i64 b1, .int .i64 b2] 56)) := ⟨_, rfl⟩
  rw [← hWp]
  have yWp0_0 : Wp.cell? ⟨w.heap.size, 0, none⟩ = some (.int .i64 a1) := by rw [hWp]; go_simp
  have yWp0_1 : Wp.cell? ⟨w.heap.size, 1, none⟩ = some (.int .i64 a2) := by rw [hWp]; go_simp
  have fWp0 : ∀ o, Wp.frozen? ⟨w.heap.size, o, none⟩ = false := by intro o; rw [hWp]; (repeat rw [frozen?_alloc_cells]); simp [World.frozen?]
  have zWp0 : w.heap.size < Wp.heap.size := by rw [hWp]; simp <;> omega
  have yWp1_0 : Wp.cell? ⟨w.heap.size + 1, 0, none⟩ = some (.int .i64 b1) := by rw [hWp]; go_simp
  have yWp1_1 : Wp.cell? ⟨w.heap.size + 1, 1, none⟩ = some (.int .i64 b2) := by rw [hWp]; go_simp
  have fWp1 : ∀ o, Wp.frozen? ⟨w.heap.size + 1, o, none⟩ = false := by intro o; rw [hWp]; (repeat rw [frozen?_alloc_cells]); simp [World.frozen?]
  have zWp1 : w.heap.size + 1 < Wp.heap.size := by rw [hWp]; simp <;> omega
  have BWp : Below w.heap.size w Wp := by rw [hWp]; exact (Below.alloc (Below.alloc (Below.refl _ _) (by simp <;> omega) _) (by simp <;> omega) _)
  have eWp : Hid (Wp.heap.size = w.heap.size + 2) := Lib.hid (by rw [hWp]; simp)
  clear hWp
  refine wp_region_BT 10 (fun W => Below (Wp).heap.size (Wp) W) (by kernel_rfl) (by kernel_rfl) (by repeat (first | exact Below.refl _ _ | apply Below.drew)) ?_
  simp only [List.take_succ_cons, List.take_zero, List.drop_succ_cons, List.drop_zero]
  first | refine wpH_skip (by rfl) ?_ | (refine wpH_text (v := ?_) (by rfl) (fun W k1 => ?_) ?_; rotate_left; (obtain ⟨hc1, hf1⟩ := bcell k1;  go_simp; refine comes_v ?_; exact k1))
  (try simp only [Act.put, List.setIfInBounds_toArray, List.set_cons_zero, List.set_cons_succ])
  first | refine wpH_skip (by rfl) ?_ | (refine wpH_text (v := ?_) (by rfl) (fun W k1 => ?_) ?_; rotate_left; (obtain ⟨hc1, hf1⟩ := bcell k1;  go_simp; refine comes_v ?_; exact k1))
  (try simp only [Act.put, List.setIfInBounds_toArray, List.set_cons_zero, List.set_cons_succ])
  first | refine wpH_skip (by rfl) ?_ | (refine wpH_text (v := ?_) (by rfl) (fun W k1 => ?_) ?_; rotate_left; (obtain ⟨hc1, hf1⟩ := bcell k1;  go_simp; refine comes_v ?_; exact k1))
  (try simp only [Act.put, List.setIfInBounds_toArray, List.set_cons_zero, List.set_cons_succ])
  first | refine wpH_skip (by rfl) ?_ | (refine wpH_text (v := ?_) (by rfl) (fun W k1 => ?_) ?_; rotate_left; (obtain ⟨hc1, hf1⟩ := bcell k1;  go_simp; refine comes_v ?_; exact k1))
  (try simp only [Act.put, List.setIfInBounds_toArray, List.set_cons_zero, List.set_cons_succ])
  first | refine wpH_skip (by rfl) ?_ | (refine wpH_text (v := .int .i64 x) (by rfl) (fun W k1 => ?_) ?_; (obtain ⟨hc1, hf1⟩ := bcell k1;  go_simp; exact comes_q ( K1.out _) k1))
  (try simp only [Act.put, List.setIfInBounds_toArray, List.set_cons_zero, List.set_cons_succ])
  first | refine wpH_skip (by rfl) ?_ | (refine wpH_text (v := ?_) (by rfl) (fun W k1 => ?_) ?_; rotate_left; (obtain ⟨hc1, hf1⟩ := bcell k1;  go_simp; refine comes_v ?_; exact k1))
  (try simp only [Act.put, List.setIfInBounds_toArray, List.set_cons_zero, List.set_cons_succ])
  first | refine wpH_skip (by rfl) ?_ | (refine wpH_text (v := ?_) (by rfl) (fun W k1 => ?_) ?_; rotate_left; (obtain ⟨hc1, hf1⟩ := bcell k1;  go_simp; refine comes_v ?_; exact k1))
  (try simp only [Act.put, List.setIfInBounds_toArray, List.set_cons_zero, List.set_cons_succ])
  first | refine wpH_skip (by rfl) ?_ | (refine wpH_text (v := ?_) (by rfl) (fun W k1 => ?_) ?_; rotate_left; (obtain ⟨hc1, hf1⟩ := bcell k1;  go_simp; refine comes_v ?_; exact k1))
  (try simp only [Act.put, List.setIfInBounds_toArray, List.set_cons_zero, List.set_cons_succ])
  first | refine wpH_skip (by rfl) ?_ | (refine wpH_text (v := ?_) (by rfl) (fun W k1 => ?_) ?_; rotate_left; (obtain ⟨hc1, hf1⟩ := bcell k1;  go_simp; refine comes_v ?_; exact k1))
  (try simp only [Act.put, List.setIfInBounds_toArray, List.set_cons_zero, List.set_cons_succ])
  first | refine wpH_skip (by rfl) ?_ | (refine wpH_text (v := .int .i64 y) (by rfl) (fun W k1 => ?_) ?_; (obtain ⟨hc1, hf1⟩ := bcell k1;  go_simp; exact comes_q ( K2.out _) k1))
  (try simp only [Act.put, List.setIfInBounds_toArray, List.set_cons_zero, List.set_cons_succ])
  refine wpH_nil ?_
  intro W k1; obtain ⟨hc1, hf1⟩ := bcell k1
  go_wp2_with fail
  refine (KO.out W.heap.size 2 _ (by go_simp) (by go_simp)).mono ?_; rintro e w2 ⟨rfl, rfl⟩
  have BW := BWp.trans (k1.mono BWp.size)
  have B2 := Below.alloc BW BW.size (.cells #[.int .i64 x, .int .i64 y] 3)
  go_wp2_with fail
  go_ret
  exact ⟨rfl, B2⟩
end Go.Proofs.Ytheddoinnakneaa
