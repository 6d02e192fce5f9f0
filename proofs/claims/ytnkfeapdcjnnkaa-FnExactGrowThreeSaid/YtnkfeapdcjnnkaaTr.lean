/- contracts: GrowThree, the model -/
import Derived.Test.YtnkfeapdcjnnkaaTj
import Derived.Test.YtnkfeapdcjnnkaaLc
import Derived.Test.YtnkfeapdcjnnkaaRh
namespace Go.Proofs.Ytnkfeapdcjnnkaa
open Go.ChangeShapes Go.WideShapes Go.ChangeAt Go.RowKit Go.Joins
set_option linter.unusedVariables false
set_option linter.unusedSimpArgs false
/-- a grown triangle's corners -/
def growF (l : List (Int × Int)) (k : Int) (i : Nat) : Int × Int := mapF k 0 0 k ((1 - k) * (vx l 0).1) ((1 - k) * (vx l 0).2) l i
set_option maxHeartbeats 1000000 in
theorem specGrowThree_any (A : Option Addr) (c : Nat) (l : List (Int × Int)) (k : Int) (w : World) (hn : l.length ≤ 1048576) (hcap : l.length ≤ c) (hc2 : c ≤ 9223372036854775807) (hR : Rd w w.heap.size A l) :
    Calls Try.prog 29 #[.slice A l.length c, .int .i64 k] w (RetL w (sel (tB l && inR 1 20 k && allB (growF l k) l.length) (firsts (growF l k) l.length)) (tB l && inR 1 20 k && allB (growF l k) l.length)) := by
  have K := Lib.hid (trThree_any A c l w hn hcap hc2 hR)
  by_cases ht : tB l = true
  · obtain ⟨a1, a2, b1, b2, c1, c2, htr⟩ := tB_true ht
    have hg := htr.2
    rw [ht] at K ⊢
    rw [Bool.true_and]
    have KL := Lib.hid (fun W => l1In_r k 1 20 W)
    by_cases hk : inR 1 20 k = true
    · rw [hk] at KL ⊢
      rw [Bool.true_and]
      unfold inR at hk
      simp only [Bool.and_eq_true, decide_eq_true_eq] at hk
      obtain ⟨k1, k2⟩ := hk
      obtain ⟨⟨u1, u2⟩, ⟨u3, u4⟩, _⟩ := tri_bd htr
      have m1 := mul_bd (x := 1 - k) (y := a1) (m := 19) (n := 40) (by omega) (by omega) (by omega) (by omega)
      have m2 := mul_bd (x := 1 - k) (y := a2) (m := 19) (n := 40) (by omega) (by omega) (by omega) (by omega)
      have v0 : vx l 0 = (a1, a2) := by rw [htr.1]; rfl
      have K2 := Lib.hid (fun W (hb : Below w.heap.size w W) => (show Calls Try.prog 59 #[.slice A l.length c, .int .i64 k, .int .i64 0, .int .i64 0, .int .i64 k, .int .i64 ((1 - k) * a1), .int .i64 ((1 - k) * a2)] W (RetL W (sel (allB (growF l k) l.length) (firsts (growF l k) l.length)) (allB (growF l k) l.length)) from by
        have := pgMap_any A c l k 0 0 k ((1 - k) * a1) ((1 - k) * a2) W (good_pos hg) hg.few.2 hg.pegs (rd_more (rd_below hR hb (Nat.le_refl _)) hb.size) (by omega) (by omega) (by omega) (by omega) (by omega) (by omega)
        have e : growF l k = mapF k 0 0 k ((1 - k) * a1) ((1 - k) * a2) l := by funext i; unfold growF; rw [v0]
        rw [e]; exact this))
      generalize growF l k = f at *
      have e1 : IntKind.i64.wrap (1 - k) = 1 - k := IntWalk.i64_in _ (by omega)
      have e2 : IntKind.i64.wrap ((1 - k) * a1) = (1 - k) * a1 := IntWalk.i64_in _ (by omega)
      have e3 : IntKind.i64.wrap ((1 - k) * a2) = (1 - k) * a2 := IntWalk.i64_in _ (by omega)
      obtain ⟨rfl, _⟩ := htr
      obtain ⟨b, off, rfl, hb, H3⟩ := rd3_of hR
      change Hid (Calls Try.prog 36 #[.slice (some ⟨b, off, none⟩) 3 c] w fun e w' => e = .returned (.bool true) ∧ Below w.heap.size w w') at K
      change Hid (∀ W, Below w.heap.size w W → Calls Try.prog 59 #[.slice (some ⟨b, off, none⟩) 3 c, .int .i64 k, .int .i64 0, .int .i64 0, .int .i64 k, .int .i64 ((1 - k) * a1), .int .i64 ((1 - k) * a2)] W (RetL W (sel (allB f 3) (firsts f 3)) (allB f 3))) at K2
      change Calls Try.prog 29 #[.slice (some ⟨b, off, none⟩) 3 c, .int .i64 k] w (RetL w (sel (allB f 3) (firsts f 3)) (allB f 3))
      clear ht hg hR hn hcap m1 m2 v0 u1 u2 u3 u4 k1 k2
      go_enter Try.func29, Try.ntmps29
      go_wp2_with fail
      refine K.out.mono ?_; rintro e w1 ⟨rfl, hb1⟩
      go_wp2_with fail
      refine (KL.out _).mono ?_; rintro e _ ⟨rfl, rfl⟩
      obtain ⟨x0, x1, x2, x3, x4, x5⟩ := H3.out w1 hb1
      have hbz : b < w1.heap.size := by have := hb1.size; omega
      clear x2 x3 x4 x5
      go_wp2_with fail
      refine wp_region_HC 17 (fun W => Below (w1).heap.size (w1) W) (by kernel_rfl) (by kernel_rfl) (by repeat (first | exact Below.refl _ _ | apply Below.drew)) rfl ?_
      simp only [List.take_succ_cons, List.take_zero, List.drop_succ_cons, List.drop_zero]
      first | refine wpH_skip (by rfl) ?_ | (refine wpH_text (v := ?_) (by rfl) (fun W k1 => ?_) ?_; rotate_left; (obtain ⟨hc1, hf1⟩ := bcell k1;  go_simp; refine comes_v ?_; exact k1))
      (try simp only [Act.put, List.setIfInBounds_toArray, List.set_cons_zero, List.set_cons_succ])
      first | refine wpH_skip (by rfl) ?_ | (refine wpH_text (v := ?_) (by rfl) (fun W k1 => ?_) ?_; rotate_left; (obtain ⟨hc1, hf1⟩ := bcell k1;  go_simp; refine comes_v ?_; exact k1))
      (try simp only [Act.put, List.setIfInBounds_toArray, List.set_cons_zero, List.set_cons_succ])
      first | refine wpH_skip (by rfl) ?_ | (refine wpH_text (v := ?_) (by rfl) (fun W k1 => ?_) ?_; rotate_left; (obtain ⟨hc1, hf1⟩ := bcell k1;  go_simp; refine comes_v ?_; exact k1))
      (try simp only [Act.put, List.setIfInBounds_toArray, List.set_cons_zero, List.set_cons_succ])
      first | refine wpH_skip (by rfl) ?_ | (refine wpH_text (v := ?_) (by rfl) (fun W k1 => ?_) ?_; rotate_left; (obtain ⟨hc1, hf1⟩ := bcell k1;  go_simp; refine comes_v ?_; exact k1))
      (try simp only [Act.put, List.setIfInBounds_toArray, List.set_cons_zero, List.set_cons_succ])
      first | refine wpH_skip (by rfl) ?_ | (refine wpH_text (v := ?_) (by rfl) (fun W k1 => ?_) ?_; rotate_left; (obtain ⟨hc1, hf1⟩ := bcell k1;  go_simp; refine comes_v ?_; exact k1))
      (try simp only [Act.put, List.setIfInBounds_toArray, List.set_cons_zero, List.set_cons_succ])
      first | refine wpH_skip (by rfl) ?_ | (refine wpH_text (v := ?_) (by rfl) (fun W k1 => ?_) ?_; rotate_left; (obtain ⟨hc1, hf1⟩ := bcell k1;  go_simp; refine comes_v ?_; exact k1))
      (try simp only [Act.put, List.setIfInBounds_toArray, List.set_cons_zero, List.set_cons_succ])
      first | refine wpH_skip (by rfl) ?_ | (refine wpH_text (v := ?_) (by rfl) (fun W k1 => ?_) ?_; rotate_left; (obtain ⟨hc1, hf1⟩ := bcell k1;  go_simp; refine comes_v ?_; exact k1))
      (try simp only [Act.put, List.setIfInBounds_toArray, List.set_cons_zero, List.set_cons_succ])
      first | refine wpH_skip (by rfl) ?_ | (refine wpH_text (v := ?_) (by rfl) (fun W k1 => ?_) ?_; rotate_left; (obtain ⟨hc1, hf1⟩ := bcell k1;  go_simp; refine comes_v ?_; exact k1))
      (try simp only [Act.put, List.setIfInBounds_toArray, List.set_cons_zero, List.set_cons_succ])
      first | refine wpH_skip (by rfl) ?_ | (refine wpH_text (v := ?_) (by rfl) (fun W k1 => ?_) ?_; rotate_left; (obtain ⟨hc1, hf1⟩ := bcell k1;  go_simp; refine comes_v ?_; exact k1))
      (try simp only [Act.put, List.setIfInBounds_toArray, List.set_cons_zero, List.set_cons_succ])
      first | refine wpH_skip (by rfl) ?_ | (refine wpH_text (v := ?_) (by rfl) (fun W k1 => ?_) ?_; rotate_left; (obtain ⟨hc1, hf1⟩ := bcell k1;  go_simp; refine comes_v ?_; exact k1))
      (try simp only [Act.put, List.setIfInBounds_toArray, List.set_cons_zero, List.set_cons_succ])
      first | refine wpH_skip (by rfl) ?_ | (refine wpH_text (v := ?_) (by rfl) (fun W k1 => ?_) ?_; rotate_left; (obtain ⟨hc1, hf1⟩ := bcell k1;  go_simp; refine comes_v ?_; exact k1))
      (try simp only [Act.put, List.setIfInBounds_toArray, List.set_cons_zero, List.set_cons_succ])
      first | refine wpH_skip (by rfl) ?_ | (refine wpH_text (v := ?_) (by rfl) (fun W k1 => ?_) ?_; rotate_left; (obtain ⟨hc1, hf1⟩ := bcell k1;  go_simp; refine comes_v ?_; exact k1))
      (try simp only [Act.put, List.setIfInBounds_toArray, List.set_cons_zero, List.set_cons_succ])
      first | refine wpH_skip (by rfl) ?_ | (refine wpH_text (v := ?_) (by rfl) (fun W k1 => ?_) ?_; rotate_left; (obtain ⟨hc1, hf1⟩ := bcell k1;  go_simp; refine comes_v ?_; exact k1))
      (try simp only [Act.put, List.setIfInBounds_toArray, List.set_cons_zero, List.set_cons_succ])
      first | refine wpH_skip (by rfl) ?_ | (refine wpH_text (v := ?_) (by rfl) (fun W k1 => ?_) ?_; rotate_left; (obtain ⟨hc1, hf1⟩ := bcell k1;  go_simp; refine comes_v ?_; exact k1))
      (try simp only [Act.put, List.setIfInBounds_toArray, List.set_cons_zero, List.set_cons_succ])
      first | refine wpH_skip (by rfl) ?_ | (refine wpH_text (v := ?_) (by rfl) (fun W k1 => ?_) ?_; rotate_left; (obtain ⟨hc1, hf1⟩ := bcell k1;  go_simp; refine comes_v ?_; exact k1))
      (try simp only [Act.put, List.setIfInBounds_toArray, List.set_cons_zero, List.set_cons_succ])
      first | refine wpH_skip (by rfl) ?_ | (refine wpH_text (v := ?_) (by rfl) (fun W k1 => ?_) ?_; rotate_left; (obtain ⟨hc1, hf1⟩ := bcell k1;  go_simp; refine comes_v ?_; exact k1))
      (try simp only [Act.put, List.setIfInBounds_toArray, List.set_cons_zero, List.set_cons_succ])
      first | refine wpH_skip (by rfl) ?_ | (refine wpH_text (v := ?_) (by rfl) (fun W k1 => ?_) ?_; rotate_left; (obtain ⟨hc1, hf1⟩ := bcell k1;  go_simp; refine comes_v ?_; exact k1))
      (try simp only [Act.put, List.setIfInBounds_toArray, List.set_cons_zero, List.set_cons_succ])
      refine wpH_nil ?_
      refine ⟨(by rfl), ?_⟩
      intro W k1; obtain ⟨hc1, hf1⟩ := bcell k1
      refine ⟨59, #[.slice (some ⟨b, off, none⟩) 3 c, .int .i64 k, .int .i64 0, .int .i64 0, .int .i64 k, .int .i64 ((1 - k) * a1), .int .i64 ((1 - k) * a2)], (by go_simp), ?_⟩
      refine (K2.out W (hb1.trans (k1.mono hb1.size))).mono ?_; rintro e w2 ⟨A2, c2', rfl, q1, q2, hb2, q3⟩
      refine ⟨_, rfl, ?_⟩
      simp only [Act.put, List.setIfInBounds_toArray, List.set_cons_zero, List.set_cons_succ]
      repeat still_step
      refine wpStill_nil ?_
      have B1 := hb1.trans (k1.mono hb1.size)
      clear hc1 hf1 x0 x1 e1 e2 e3
      go_wp2_with fail
      go_ret2
      exact retL_up B1 ⟨A2, c2', rfl, q1, q2, hb2, q3⟩
    · have hkf : inR 1 20 k = false := by simpa using hk
      rw [hkf] at KL ⊢
      rw [Bool.false_and]
      clear ht hg htr hR hk hkf
      go_enter Try.func29, Try.ntmps29
      go_wp2_with fail
      refine K.out.mono ?_; rintro e w1 ⟨rfl, hb1⟩
      go_wp2_with fail
      refine (KL.out _).mono ?_; rintro e _ ⟨rfl, rfl⟩
      go_wp2_with fail
      go_ret2
      exact retL_nil hb1
  · have htf : tB l = false := by simpa using ht
    rw [htf] at K ⊢
    rw [Bool.false_and, Bool.false_and]
    clear ht htf hR
    go_enter Try.func29, Try.ntmps29
    go_wp2_with fail
    refine K.out.mono ?_; rintro e w1 ⟨rfl, hb1⟩
    go_wp2_with fail
    go_ret2
    exact retL_nil hb1
end Go.Proofs.Ytnkfeapdcjnnkaa
