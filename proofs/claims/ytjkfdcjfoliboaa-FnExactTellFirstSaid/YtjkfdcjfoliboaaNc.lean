/- contract: a polygon told from its first corner to the left, the model -/
import Derived.Test.YtjkfdcjfoliboaaNb
import Derived.Test.YtjkfdcjfoliboaaSa
import Derived.BigRegion
namespace Go.Proofs.Ytjkfdcjfoliboaa
open Go.ChangeShapes Go.WideShapes Go.ChangeAt Go.RowKit Go.Joins
set_option linter.unusedVariables false
set_option linter.unusedSimpArgs false
set_option maxRecDepth 4000
theorem pgLess_any (a1 a2 b1 b2 : Int) (w : World) :
    Calls Try.prog 76 #[.agg #[.int .i64 a1, .int .i64 a2], .agg #[.int .i64 b1, .int .i64 b2]] w fun e w' => e = .returned (.bool (ltP (a1, a2) (b1, b2))) ∧ Below w.heap.size w w' := by
  by_cases h1 : a1 < b1
  · go_enter Try.func76, Try.ntmps76
    go_wp2_with fail
    go_ret
    exact ⟨ret_bool (by simp [ltP, h1]), (by repeat (first | exact Below.refl _ _ | assumption | apply Below.drew | refine Below.alloc ?_ (by simp <;> omega) _))⟩
  · by_cases h2 : a1 = b1
    · by_cases h3 : a2 < b2
      all_goals
        subst h2
        go_enter Try.func76, Try.ntmps76
        go_wp2_with fail
        go_ret
        exact ⟨ret_bool (by simp [ltP, h3]), (by repeat (first | exact Below.refl _ _ | assumption | apply Below.drew | refine Below.alloc ?_ (by simp <;> omega) _))⟩
    · go_enter Try.func76, Try.ntmps76
      go_wp2_with fail
      go_ret
      exact ⟨ret_bool (by simp [ltP, h1, h2]), (by repeat (first | exact Below.refl _ _ | assumption | apply Below.drew | refine Below.alloc ?_ (by simp <;> omega) _))⟩
theorem retP_up {w w1 w2 : World} {m : List (Int × Int)} {e : Ending} (hb1 : Below w.heap.size w w1) (h : RetP w1 m e w2) : RetP w m e w2 := by
  obtain ⟨A, c, e, h1, h2, h3, h4⟩ := h
  exact ⟨A, c, e, h1, h2, hb1.trans (h3.mono hb1.size), rw_more h4 hb1.size (Nat.le_refl _)⟩
theorem minI_same {f g : Nat → Int × Int} (n : Nat) (h : ∀ i, i < n → f i = g i) : ∀ k, k ≤ n → minI f k = minI g k
  | 0, _ => rfl
  | k + 1, hk => by
    have ih := minI_same n h k (by omega)
    show (if ltP (f k) (f (minI f k)) = true then k else minI f k) = (if ltP (g k) (g (minI g k)) = true then k else minI g k)
    have hm : minI g k < n := by
      rcases Nat.eq_zero_or_pos k with h0 | h0
      · subst h0; exact hk
      · have := minI_lt g k h0; omega
    rw [ih, h k (by omega), h _ hm]
theorem vx_firsts (f : Nat → Int × Int) (n i : Nat) (h : i < n) : vx (firsts f n) i = f i := by
  have e := vx_get (l := firsts f n) (i := i) (by rw [firsts_len]; exact h)
  rw [firsts_get f n i h] at e
  injection e with e
  exact e.symm
set_option maxHeartbeats 4000000 in
theorem pgFirst_any (A : Option Addr) (c : Nat) (l : List (Int × Int)) (w : World) (hgd : Good l) (hcap : l.length ≤ c) (hc2 : c ≤ 9223372036854775807) (hR : Rd w w.heap.size A l) :
    Calls Try.prog 52 #[.slice A l.length c] w (RetP w (firsts (tellF l) l.length)) := by
  have KA := Lib.hid (pgArea_any A c l w hgd.few.1 hgd.few.2 hgd.pegs hR)
  have h10 := hgd.few
  by_cases ha : areaN l < 0
  · have KB := Lib.hid (fun W (hb : Below w.heap.size w W) => pgBack_any A c l W (by omega) h10.2 (rd_more (rd_below hR hb (Nat.le_refl _)) hb.size))
    have HT0 : ∀ i, i < l.length → rotF (firsts (backF l) l.length) (minI (vx (firsts (backF l) l.length)) l.length) i = tellF l i := fun i hi => by
      have hn : 0 < l.length := good_pos hgd
      unfold rotF
      rw [firsts_len, vx_firsts _ _ _ (Nat.mod_lt _ hn), minI_same l.length (fun j hj => vx_firsts (backF l) l.length j hj) l.length (Nat.le_refl _)]
      exact tell_back hgd ha i hi
    have HT := Lib.hid HT0
    have HN2 : Hid ((firsts (backF l) l.length).length = l.length) := Lib.hid (firsts_len _ _)
    clear hgd hR HT0
    generalize firsts (backF l) l.length = l2 at *
    generalize areaN l = ar at *
    generalize hN : l.length = n at *
    have HN := Lib.hid hN
    clear hN
    go_enter Try.func52, Try.ntmps52
    go_wp2_with fail
    refine KA.out.mono ?_; rintro e w1 ⟨rfl, hb1⟩
    go_wp2_with fail
    refine (KB.out w1 hb1).mono ?_; rintro e w2 ⟨A2, c2, rfl, q1, q2, hb12, q3⟩
    have hb2 := hb1.trans (hb12.mono hb1.size)
    have R2 := rd_more (rw_rd q3) (Nat.le_refl _)
    obtain ⟨b, off, rfl, hbb, HC00⟩ := pts_of (by rw [HN2.out]; omega) R2
    rw [HN2.out] at HC00 q1 ⊢
    have HC := Lib.hid (fun W (hW : Below w2.heap.size w2 W) => HC00.out W hW)
    have hz2 := hb2.size
    have hcap : n ≤ c2 := q1
    have hc2 : c2 ≤ 9223372036854775807 := by unfold maxLen at q2; omega
    clear HC00 R2 q1 q2 q3 hb12 KB
    go_wp2_with fail
    go_loopg [3, 13] n (fun g s i wr => ∃ k : Nat, k ≤ n ∧ g = n - k ∧ i = .int .i64 k ∧ s = .int .i64 (minI (vx l2) k : Nat) ∧ Below w2.heap.size w2 wr)
    case atStart => exact ⟨0, Nat.zero_le _, rfl, rfl, rfl, Below.refl _ _⟩
    case round =>
      obtain ⟨k, hk, hg, rfl, rfl, hB⟩ := hrel
      rename World => wo
      have HGK := Lib.hid hg
      clear hg
      by_cases hlt : k < n
      · obtain ⟨y0, y1⟩ := HC.out wo hB k hlt
        have hm : minI (vx l2) k < n := by
          rcases Nat.eq_zero_or_pos k with h0 | h0
          · subst h0; exact hlt
          · have := minI_lt (vx l2) k h0; omega
        have hbz : b < wo.heap.size := by have := hB.size; omega
        have EM : Hid (minI (vx l2) (k + 1) = if ltP (vx l2 k) (vx l2 (minI (vx l2) k)) = true then k else minI (vx l2) k) := Lib.hid rfl
        generalize minI (vx l2) k = m at *
        have KL := Lib.hid (fun W => pgLess_any (vx l2 k).1 (vx l2 k).2 (vx l2 m).1 (vx l2 m).2 W)
        have e1 : (m : Int) < (n : Int) := by omega
        by_cases hb : ltP (vx l2 k) (vx l2 m) = true
        · rw [show ltP ((vx l2 k).1, (vx l2 k).2) ((vx l2 m).1, (vx l2 m).2) = true from hb] at KL
          have E2 : Hid (minI (vx l2) (k + 1) = k) := Lib.hid (by rw [EM.out, if_pos hb])
          clear EM hb
          go_wp2_with fail
          obtain ⟨Wp, hWp⟩ : ∃ Wp, Wp = (wo.alloc (.cells #[.int .i64 ((vx l2 k).1), .int .i64 ((vx l2 k).2)] 34)) := ⟨_, rfl⟩
          rw [← hWp]
          have yWp0_0 : Wp.cell? ⟨wo.heap.size, 0, none⟩ = some (.int .i64 ((vx l2 k).1)) := by rw [hWp]; go_simp
          have yWp0_1 : Wp.cell? ⟨wo.heap.size, 1, none⟩ = some (.int .i64 ((vx l2 k).2)) := by rw [hWp]; go_simp
          have fWp0 : ∀ o, Wp.frozen? ⟨wo.heap.size, o, none⟩ = false := by intro o; rw [hWp]; (repeat rw [frozen?_alloc_cells]); simp [World.frozen?]
          have zWp0 : wo.heap.size < Wp.heap.size := by rw [hWp]; simp <;> omega
          have BWp : Below wo.heap.size wo Wp := by rw [hWp]; exact (Below.alloc (Below.refl _ _) (by simp <;> omega) _)
          have eWp : Hid (Wp.heap.size = wo.heap.size + 1) := Lib.hid (by rw [hWp]; simp)
          clear hWp
          have BP := hB.trans (BWp.mono hB.size)
          obtain ⟨xm0, xm1⟩ := HC.out Wp BP m hm
          have zb : b < Wp.heap.size := Nat.lt_of_lt_of_le hbz BWp.size
          refine wp_region_B (fun W => Below Wp.heap.size Wp W) (by kernel_rfl) (by repeat (first | exact Below.refl _ _ | apply Below.drew)) ?_
          first | refine wpB_skip 0 rfl (by kernel_rfl) (by kernel_rfl) (by kernel_rfl) (by rfl) ?_ | (refine wpB_text 0 (v := ?_) rfl (by kernel_rfl) (by kernel_rfl) (by kernel_rfl) (by rfl) (fun W hW => ?_) ?_; rotate_left; (have k1 := hW; obtain ⟨hc1, hf1⟩ := bcell k1; go_simp; refine comes_v ?_; exact k1))
          (try simp only [Act.put, List.setIfInBounds_toArray, List.set_cons_zero, List.set_cons_succ])
          first | refine wpB_skip 1 rfl (by kernel_rfl) (by kernel_rfl) (by kernel_rfl) (by rfl) ?_ | (refine wpB_text 1 (v := ?_) rfl (by kernel_rfl) (by kernel_rfl) (by kernel_rfl) (by rfl) (fun W hW => ?_) ?_; rotate_left; (have k1 := hW; obtain ⟨hc1, hf1⟩ := bcell k1; go_simp; refine comes_v ?_; exact k1))
          (try simp only [Act.put, List.setIfInBounds_toArray, List.set_cons_zero, List.set_cons_succ])
          first | refine wpB_skip 2 rfl (by kernel_rfl) (by kernel_rfl) (by kernel_rfl) (by rfl) ?_ | (refine wpB_text 2 (v := ?_) rfl (by kernel_rfl) (by kernel_rfl) (by kernel_rfl) (by rfl) (fun W hW => ?_) ?_; rotate_left; (have k1 := hW; obtain ⟨hc1, hf1⟩ := bcell k1; go_simp; refine comes_v ?_; exact k1))
          (try simp only [Act.put, List.setIfInBounds_toArray, List.set_cons_zero, List.set_cons_succ])
          first | refine wpB_skip 3 rfl (by kernel_rfl) (by kernel_rfl) (by kernel_rfl) (by rfl) ?_ | (refine wpB_text 3 (v := ?_) rfl (by kernel_rfl) (by kernel_rfl) (by kernel_rfl) (by rfl) (fun W hW => ?_) ?_; rotate_left; (have k1 := hW; obtain ⟨hc1, hf1⟩ := bcell k1; go_simp; refine comes_v ?_; exact k1))
          (try simp only [Act.put, List.setIfInBounds_toArray, List.set_cons_zero, List.set_cons_succ])
          first | refine wpB_skip 4 rfl (by kernel_rfl) (by kernel_rfl) (by kernel_rfl) (by rfl) ?_ | (refine wpB_text 4 (v := ?_) rfl (by kernel_rfl) (by kernel_rfl) (by kernel_rfl) (by rfl) (fun W hW => ?_) ?_; rotate_left; (have k1 := hW; obtain ⟨hc1, hf1⟩ := bcell k1; go_simp; refine comes_v ?_; exact k1))
          (try simp only [Act.put, List.setIfInBounds_toArray, List.set_cons_zero, List.set_cons_succ])
          first | refine wpB_skip 5 rfl (by kernel_rfl) (by kernel_rfl) (by kernel_rfl) (by rfl) ?_ | (refine wpB_text 5 (v := .bool true) rfl (by kernel_rfl) (by kernel_rfl) (by kernel_rfl) (by rfl) (fun W hW => ?_) ?_; (have k1 := hW; obtain ⟨hc1, hf1⟩ := bcell k1; go_simp; exact comes_c ( KL.out _) (fun wn hbn => bt_keep k1 hbn)))
          (try simp only [Act.put, List.setIfInBounds_toArray, List.set_cons_zero, List.set_cons_succ])
          refine wpB_done (by kernel_rfl) ?_ _
          intro W hW; have k1 := hW
          have B3 := BP.trans (k1.mono BP.size)
          clear xm0 xm1 zWp0 fWp0 yWp0_0 yWp0_1 eWp BWp BP y0 y1
          go_wp2_with fail
          go_roundg (n - (k + 1))
          case measure => have := HGK.out; omega
          case rel => exact ⟨k + 1, by omega, rfl, by go_num, by rw [E2.out], B3⟩
        · rw [show ltP ((vx l2 k).1, (vx l2 k).2) ((vx l2 m).1, (vx l2 m).2) = false from (by simpa using hb)] at KL
          have E2 : Hid (minI (vx l2) (k + 1) = m) := Lib.hid (by rw [EM.out, if_neg hb])
          clear EM hb
          go_wp2_with fail
          obtain ⟨Wp, hWp⟩ : ∃ Wp, Wp = (wo.alloc (.cells #[.int .i64 ((vx l2 k).1), .int .i64 ((vx l2 k).2)] 34)) := ⟨_, rfl⟩
          rw [← hWp]
          have yWp0_0 : Wp.cell? ⟨wo.heap.size, 0, none⟩ = some (.int .i64 ((vx l2 k).1)) := by rw [hWp]; go_simp
          have yWp0_1 : Wp.cell? ⟨wo.heap.size, 1, none⟩ = some (.int .i64 ((vx l2 k).2)) := by rw [hWp]; go_simp
          have fWp0 : ∀ o, Wp.frozen? ⟨wo.heap.size, o, none⟩ = false := by intro o; rw [hWp]; (repeat rw [frozen?_alloc_cells]); simp [World.frozen?]
          have zWp0 : wo.heap.size < Wp.heap.size := by rw [hWp]; simp <;> omega
          have BWp : Below wo.heap.size wo Wp := by rw [hWp]; exact (Below.alloc (Below.refl _ _) (by simp <;> omega) _)
          have eWp : Hid (Wp.heap.size = wo.heap.size + 1) := Lib.hid (by rw [hWp]; simp)
          clear hWp
          have BP := hB.trans (BWp.mono hB.size)
          obtain ⟨xm0, xm1⟩ := HC.out Wp BP m hm
          have zb : b < Wp.heap.size := Nat.lt_of_lt_of_le hbz BWp.size
          refine wp_region_B (fun W => Below Wp.heap.size Wp W) (by kernel_rfl) (by repeat (first | exact Below.refl _ _ | apply Below.drew)) ?_
          first | refine wpB_skip 0 rfl (by kernel_rfl) (by kernel_rfl) (by kernel_rfl) (by rfl) ?_ | (refine wpB_text 0 (v := ?_) rfl (by kernel_rfl) (by kernel_rfl) (by kernel_rfl) (by rfl) (fun W hW => ?_) ?_; rotate_left; (have k1 := hW; obtain ⟨hc1, hf1⟩ := bcell k1; go_simp; refine comes_v ?_; exact k1))
          (try simp only [Act.put, List.setIfInBounds_toArray, List.set_cons_zero, List.set_cons_succ])
          first | refine wpB_skip 1 rfl (by kernel_rfl) (by kernel_rfl) (by kernel_rfl) (by rfl) ?_ | (refine wpB_text 1 (v := ?_) rfl (by kernel_rfl) (by kernel_rfl) (by kernel_rfl) (by rfl) (fun W hW => ?_) ?_; rotate_left; (have k1 := hW; obtain ⟨hc1, hf1⟩ := bcell k1; go_simp; refine comes_v ?_; exact k1))
          (try simp only [Act.put, List.setIfInBounds_toArray, List.set_cons_zero, List.set_cons_succ])
          first | refine wpB_skip 2 rfl (by kernel_rfl) (by kernel_rfl) (by kernel_rfl) (by rfl) ?_ | (refine wpB_text 2 (v := ?_) rfl (by kernel_rfl) (by kernel_rfl) (by kernel_rfl) (by rfl) (fun W hW => ?_) ?_; rotate_left; (have k1 := hW; obtain ⟨hc1, hf1⟩ := bcell k1; go_simp; refine comes_v ?_; exact k1))
          (try simp only [Act.put, List.setIfInBounds_toArray, List.set_cons_zero, List.set_cons_succ])
          first | refine wpB_skip 3 rfl (by kernel_rfl) (by kernel_rfl) (by kernel_rfl) (by rfl) ?_ | (refine wpB_text 3 (v := ?_) rfl (by kernel_rfl) (by kernel_rfl) (by kernel_rfl) (by rfl) (fun W hW => ?_) ?_; rotate_left; (have k1 := hW; obtain ⟨hc1, hf1⟩ := bcell k1; go_simp; refine comes_v ?_; exact k1))
          (try simp only [Act.put, List.setIfInBounds_toArray, List.set_cons_zero, List.set_cons_succ])
          first | refine wpB_skip 4 rfl (by kernel_rfl) (by kernel_rfl) (by kernel_rfl) (by rfl) ?_ | (refine wpB_text 4 (v := ?_) rfl (by kernel_rfl) (by kernel_rfl) (by kernel_rfl) (by rfl) (fun W hW => ?_) ?_; rotate_left; (have k1 := hW; obtain ⟨hc1, hf1⟩ := bcell k1; go_simp; refine comes_v ?_; exact k1))
          (try simp only [Act.put, List.setIfInBounds_toArray, List.set_cons_zero, List.set_cons_succ])
          first | refine wpB_skip 5 rfl (by kernel_rfl) (by kernel_rfl) (by kernel_rfl) (by rfl) ?_ | (refine wpB_text 5 (v := .bool false) rfl (by kernel_rfl) (by kernel_rfl) (by kernel_rfl) (by rfl) (fun W hW => ?_) ?_; (have k1 := hW; obtain ⟨hc1, hf1⟩ := bcell k1; go_simp; exact comes_c ( KL.out _) (fun wn hbn => bt_keep k1 hbn)))
          (try simp only [Act.put, List.setIfInBounds_toArray, List.set_cons_zero, List.set_cons_succ])
          refine wpB_done (by kernel_rfl) ?_ _
          intro W hW; have k1 := hW
          have B3 := BP.trans (k1.mono BP.size)
          clear xm0 xm1 zWp0 fWp0 yWp0_0 yWp0_1 eWp BWp BP y0 y1
          go_wp2_with fail
          go_roundg (n - (k + 1))
          case measure => have := HGK.out; omega
          case rel => exact ⟨k + 1, by omega, rfl, by go_num, by rw [E2.out], B3⟩
      · have hkn : n = k := by omega
        subst hkn
        go_wp2_with fail
        have km := minI_lt (vx l2) n (by omega)
        generalize minI (vx l2) n = m at *
        have e1 : (0 : Int) ≤ (m : Int) := by omega
        have e2 : (m : Int) ≤ (n : Int) := by omega
        have e3 : (m : Int) ≤ (c2 : Int) := by omega
        refine wp_region_any (by kernel_rfl) ?_
        refine wpAny_take (i := 1) (v := .slice (some ⟨b, off, none⟩) n c2) rfl (by kernel_rfl) (by kernel_rfl) (by kernel_rfl) (fun _ _ _ h => h) (Or.inl ⟨by rfl, fun W => by first | rfl | go_simp⟩) ?_
        (try simp only [List.getElem_toArray, List.getElem_cons_zero, List.getElem_cons_succ, Act.put, List.setIfInBounds_toArray, List.set_cons_zero, List.set_cons_succ])
        refine wpAny_take (i := 2) (v := .int .i64 m) rfl (by kernel_rfl) (by kernel_rfl) (by kernel_rfl) (fun _ _ _ h => h) (Or.inl ⟨by rfl, fun W => by first | rfl | go_simp⟩) ?_
        (try simp only [List.getElem_toArray, List.getElem_cons_zero, List.getElem_cons_succ, Act.put, List.setIfInBounds_toArray, List.set_cons_zero, List.set_cons_succ])
        refine wpAny_take (i := 3) (v := .slice (some ⟨b, off + m * 2, none⟩) (n - m) (c2 - m)) rfl (by kernel_rfl) (by kernel_rfl) (by kernel_rfl) (fun _ _ _ h => h) (Or.inl ⟨by rfl, fun W => by go_simp; try (intro h; omega)⟩) ?_
        (try simp only [List.getElem_toArray, List.getElem_cons_zero, List.getElem_cons_succ, Act.put, List.setIfInBounds_toArray, List.set_cons_zero, List.set_cons_succ])
        refine wpAny_take (i := 5) (v := .slice (some ⟨b, off, none⟩) n c2) rfl (by kernel_rfl) (by kernel_rfl) (by kernel_rfl) (fun _ _ _ h => h) (Or.inl ⟨by rfl, fun W => by first | rfl | go_simp⟩) ?_
        (try simp only [List.getElem_toArray, List.getElem_cons_zero, List.getElem_cons_succ, Act.put, List.setIfInBounds_toArray, List.set_cons_zero, List.set_cons_succ])
        refine wpAny_take (i := 6) (v := .int .i64 m) rfl (by kernel_rfl) (by kernel_rfl) (by kernel_rfl) (fun _ _ _ h => h) (Or.inl ⟨by rfl, fun W => by first | rfl | go_simp⟩) ?_
        (try simp only [List.getElem_toArray, List.getElem_cons_zero, List.getElem_cons_succ, Act.put, List.setIfInBounds_toArray, List.set_cons_zero, List.set_cons_succ])
        refine wpAny_take (i := 7) (v := .slice (some ⟨b, off, none⟩) m c2) rfl (by kernel_rfl) (by kernel_rfl) (by kernel_rfl) (fun _ _ _ h => h) (Or.inl ⟨by rfl, fun W => by go_simp; try (intro h; omega)⟩) ?_
        (try simp only [List.getElem_toArray, List.getElem_cons_zero, List.getElem_cons_succ, Act.put, List.setIfInBounds_toArray, List.set_cons_zero, List.set_cons_succ])
        refine wpAny_all (rs := [0]) (by kernel_rfl) (by simp) (fun i hi => ?_)
        obtain rfl : i = 0 := by simpa using hi
        refine wpOp_val (v := .slice (some ⟨wo.heap.size, 0, none⟩) 0 0) (w' := wo.drew.alloc (.cells #[] 34)) rfl (by rfl) (by go_simp) ?_
        (try simp only [List.getElem_toArray, List.getElem_cons_zero, List.getElem_cons_succ, Act.put, List.setIfInBounds_toArray, List.set_cons_zero, List.set_cons_succ])
        have HB0 := (hB.drew).alloc (w := wo.drew) (by exact hB.size) (.cells #[] 34)
        have X0 := HC.out _ HB0
        have HZ := hz2
        have own0 : (wo.drew.alloc (.cells #[] 34)).ownsRow w2.heap.size 34 2 (.slice (some ⟨wo.heap.size, 0, none⟩) 0 0) 0 [] := World.ownsRow_lit wo.drew #[] 0 (by have := hB.size; show w2.heap.size ≤ wo.heap.size; omega) (by decide) rfl
        have HX := HB0.size
        refine wpAny_all (rs := [4]) (by kernel_rfl) (by simp) (fun i hi => ?_)
        obtain rfl : i = 4 := by simpa using hi
        obtain ⟨i0, hi0, hz0, hz1, hz2'⟩ := info_parts peg_info
        refine wpOp_left rfl (by rfl) (wp_append_own _ (.tmp 26) (.tmp 29) 26 rfl w2.heap.size 34 i0 (.agg #[.int .i64 0, .int .i64 0]) 2 16 Try.underlying26 hi0 hz0 hz1 hz2' rfl (by decide) (.slice (some ⟨wo.heap.size, 0, none⟩) 0 0) 0 [] rfl own0 ⟨b, off + m * 2, none⟩ (n - m) (c2 - m) (flat (l2.drop m)) rfl (by rw [flat_len, List.length_drop, HN2.out]) (drop_cells (by rw [HN2.out]; omega) (fun i hi => X0 i (by rw [HN2.out] at hi; exact hi))) (flat_one _) (by unfold maxLen; omega) (by omega) HX ?_)
        intro v4 w4 hown4 hgr4 _
        have B4 := HB0.grown hgr4 HX fun g hgk => (World.ownsRow.lt own0 g hgk).1
        have X4 := HC.out _ B4
        have HX4 := B4.size
        clear own0 hgr4 X0 HB0 HX HZ
        (try simp only [List.getElem_toArray, List.getElem_cons_zero, List.getElem_cons_succ, Act.put, List.setIfInBounds_toArray, List.set_cons_zero, List.set_cons_succ])
        refine wpAny_all (rs := [8]) (by kernel_rfl) (by simp) (fun i hi => ?_)
        obtain rfl : i = 8 := by simpa using hi
        refine wpOp_left rfl (by rfl) (wp_append_own _ (.tmp 30) (.tmp 33) 26 rfl w2.heap.size 34 i0 (.agg #[.int .i64 0, .int .i64 0]) 2 16 Try.underlying26 hi0 hz0 hz1 hz2' rfl (by decide) v4 (0 + (n - m)) ([] ++ flat (l2.drop m)) rfl hown4 ⟨b, off, none⟩ m c2 (flat (l2.take m)) rfl (by rw [flat_len, List.length_take, HN2.out]; omega) (take_cells (by rw [HN2.out]; omega) (fun i hi => X4 i (by rw [HN2.out] at hi; exact hi))) (flat_one _) (by unfold maxLen; omega) (by omega) HX4 ?_)
        intro v5 w5 hown5 hgr5 _
        have B5 := B4.grown hgr5 HX4 fun g hgk => (World.ownsRow.lt hown4 g hgk).1
        have R5 := Lib.hid (row_rot (l := l2) (by rw [HN2.out]; exact km) (by rw [HN2.out]; exact hown5))
        clear hown4 hown5 hgr5 X4 B4 HX4 hi0 hz0 hz1 hz2'
        (try simp only [List.getElem_toArray, List.getElem_cons_zero, List.getElem_cons_succ, Act.put, List.setIfInBounds_toArray, List.set_cons_zero, List.set_cons_succ])
        refine wpAny_all (rs := [9]) (by kernel_rfl) (by simp) (fun i hi => ?_)
        obtain rfl : i = 9 := by simpa using hi
        refine wpOp_val (v := v5) (w' := w5) rfl (by rfl) (by first | rfl | go_simp) ?_
        (try simp only [List.getElem_toArray, List.getElem_cons_zero, List.getElem_cons_succ, Act.put, List.setIfInBounds_toArray, List.set_cons_zero, List.set_cons_succ])
        refine wpAny_done (by kernel_rfl) ?_ _
        go_wp2_with fail
        go_ret
        have R6 := R5.out
        rw [HN2.out] at R6
        have Q6 := retP_row (w := w2) R6 B5
        rw [firsts_same n HT.out] at Q6
        exact retP_up hb2 Q6
  · obtain ⟨b, off, rfl, hb, HC0⟩ := pts_of (by omega) hR
    have HT : Hid (∀ i, i < l.length → rotF l (minI (vx l) l.length) i = tellF l i) := Lib.hid (fun i _ => tell_fore (l := l) ha i)
    clear hgd hR
    generalize areaN l = ar at *
    generalize hN : l.length = n at *
    have HN := Lib.hid hN
    clear hN
    go_enter Try.func52, Try.ntmps52
    go_wp2_with fail
    refine KA.out.mono ?_; rintro e w2 ⟨rfl, hb2⟩
    have HC := Lib.hid (fun W (hW : Below w2.heap.size w2 W) => HC0.out W (hb2.trans (hW.mono hb2.size)))
    have hz2 := hb2.size
    have hbb : b < w2.heap.size := by omega
    go_wp2_with fail
    go_loopg [3, 13] n (fun g s i wr => ∃ k : Nat, k ≤ n ∧ g = n - k ∧ i = .int .i64 k ∧ s = .int .i64 (minI (vx l) k : Nat) ∧ Below w2.heap.size w2 wr)
    case atStart => exact ⟨0, Nat.zero_le _, rfl, rfl, rfl, Below.refl _ _⟩
    case round =>
      obtain ⟨k, hk, hg, rfl, rfl, hB⟩ := hrel
      rename World => wo
      have HGK := Lib.hid hg
      clear hg
      by_cases hlt : k < n
      · obtain ⟨y0, y1⟩ := HC.out wo hB k hlt
        have hm : minI (vx l) k < n := by
          rcases Nat.eq_zero_or_pos k with h0 | h0
          · subst h0; exact hlt
          · have := minI_lt (vx l) k h0; omega
        have hbz : b < wo.heap.size := by have := hB.size; omega
        have EM : Hid (minI (vx l) (k + 1) = if ltP (vx l k) (vx l (minI (vx l) k)) = true then k else minI (vx l) k) := Lib.hid rfl
        generalize minI (vx l) k = m at *
        have KL := Lib.hid (fun W => pgLess_any (vx l k).1 (vx l k).2 (vx l m).1 (vx l m).2 W)
        have e1 : (m : Int) < (n : Int) := by omega
        by_cases hb : ltP (vx l k) (vx l m) = true
        · rw [show ltP ((vx l k).1, (vx l k).2) ((vx l m).1, (vx l m).2) = true from hb] at KL
          have E2 : Hid (minI (vx l) (k + 1) = k) := Lib.hid (by rw [EM.out, if_pos hb])
          clear EM hb
          go_wp2_with fail
          obtain ⟨Wp, hWp⟩ : ∃ Wp, Wp = (wo.alloc (.cells #[.int .i64 ((vx l k).1), .int .i64 ((vx l k).2)] 34)) := ⟨_, rfl⟩
          rw [← hWp]
          have yWp0_0 : Wp.cell? ⟨wo.heap.size, 0, none⟩ = some (.int .i64 ((vx l k).1)) := by rw [hWp]; go_simp
          have yWp0_1 : Wp.cell? ⟨wo.heap.size, 1, none⟩ = some (.int .i64 ((vx l k).2)) := by rw [hWp]; go_simp
          have fWp0 : ∀ o, Wp.frozen? ⟨wo.heap.size, o, none⟩ = false := by intro o; rw [hWp]; (repeat rw [frozen?_alloc_cells]); simp [World.frozen?]
          have zWp0 : wo.heap.size < Wp.heap.size := by rw [hWp]; simp <;> omega
          have BWp : Below wo.heap.size wo Wp := by rw [hWp]; exact (Below.alloc (Below.refl _ _) (by simp <;> omega) _)
          have eWp : Hid (Wp.heap.size = wo.heap.size + 1) := Lib.hid (by rw [hWp]; simp)
          clear hWp
          have BP := hB.trans (BWp.mono hB.size)
          obtain ⟨xm0, xm1⟩ := HC.out Wp BP m hm
          have zb : b < Wp.heap.size := Nat.lt_of_lt_of_le hbz BWp.size
          refine wp_region_B (fun W => Below Wp.heap.size Wp W) (by kernel_rfl) (by repeat (first | exact Below.refl _ _ | apply Below.drew)) ?_
          first | refine wpB_skip 0 rfl (by kernel_rfl) (by kernel_rfl) (by kernel_rfl) (by rfl) ?_ | (refine wpB_text 0 (v := ?_) rfl (by kernel_rfl) (by kernel_rfl) (by kernel_rfl) (by rfl) (fun W hW => ?_) ?_; rotate_left; (have k1 := hW; obtain ⟨hc1, hf1⟩ := bcell k1; go_simp; refine comes_v ?_; exact k1))
          (try simp only [Act.put, List.setIfInBounds_toArray, List.set_cons_zero, List.set_cons_succ])
          first | refine wpB_skip 1 rfl (by kernel_rfl) (by kernel_rfl) (by kernel_rfl) (by rfl) ?_ | (refine wpB_text 1 (v := ?_) rfl (by kernel_rfl) (by kernel_rfl) (by kernel_rfl) (by rfl) (fun W hW => ?_) ?_; rotate_left; (have k1 := hW; obtain ⟨hc1, hf1⟩ := bcell k1; go_simp; refine comes_v ?_; exact k1))
          (try simp only [Act.put, List.setIfInBounds_toArray, List.set_cons_zero, List.set_cons_succ])
          first | refine wpB_skip 2 rfl (by kernel_rfl) (by kernel_rfl) (by kernel_rfl) (by rfl) ?_ | (refine wpB_text 2 (v := ?_) rfl (by kernel_rfl) (by kernel_rfl) (by kernel_rfl) (by rfl) (fun W hW => ?_) ?_; rotate_left; (have k1 := hW; obtain ⟨hc1, hf1⟩ := bcell k1; go_simp; refine comes_v ?_; exact k1))
          (try simp only [Act.put, List.setIfInBounds_toArray, List.set_cons_zero, List.set_cons_succ])
          first | refine wpB_skip 3 rfl (by kernel_rfl) (by kernel_rfl) (by kernel_rfl) (by rfl) ?_ | (refine wpB_text 3 (v := ?_) rfl (by kernel_rfl) (by kernel_rfl) (by kernel_rfl) (by rfl) (fun W hW => ?_) ?_; rotate_left; (have k1 := hW; obtain ⟨hc1, hf1⟩ := bcell k1; go_simp; refine comes_v ?_; exact k1))
          (try simp only [Act.put, List.setIfInBounds_toArray, List.set_cons_zero, List.set_cons_succ])
          first | refine wpB_skip 4 rfl (by kernel_rfl) (by kernel_rfl) (by kernel_rfl) (by rfl) ?_ | (refine wpB_text 4 (v := ?_) rfl (by kernel_rfl) (by kernel_rfl) (by kernel_rfl) (by rfl) (fun W hW => ?_) ?_; rotate_left; (have k1 := hW; obtain ⟨hc1, hf1⟩ := bcell k1; go_simp; refine comes_v ?_; exact k1))
          (try simp only [Act.put, List.setIfInBounds_toArray, List.set_cons_zero, List.set_cons_succ])
          first | refine wpB_skip 5 rfl (by kernel_rfl) (by kernel_rfl) (by kernel_rfl) (by rfl) ?_ | (refine wpB_text 5 (v := .bool true) rfl (by kernel_rfl) (by kernel_rfl) (by kernel_rfl) (by rfl) (fun W hW => ?_) ?_; (have k1 := hW; obtain ⟨hc1, hf1⟩ := bcell k1; go_simp; exact comes_c ( KL.out _) (fun wn hbn => bt_keep k1 hbn)))
          (try simp only [Act.put, List.setIfInBounds_toArray, List.set_cons_zero, List.set_cons_succ])
          refine wpB_done (by kernel_rfl) ?_ _
          intro W hW; have k1 := hW
          have B3 := BP.trans (k1.mono BP.size)
          clear xm0 xm1 zWp0 fWp0 yWp0_0 yWp0_1 eWp BWp BP y0 y1
          go_wp2_with fail
          go_roundg (n - (k + 1))
          case measure => have := HGK.out; omega
          case rel => exact ⟨k + 1, by omega, rfl, by go_num, by rw [E2.out], B3⟩
        · rw [show ltP ((vx l k).1, (vx l k).2) ((vx l m).1, (vx l m).2) = false from (by simpa using hb)] at KL
          have E2 : Hid (minI (vx l) (k + 1) = m) := Lib.hid (by rw [EM.out, if_neg hb])
          clear EM hb
          go_wp2_with fail
          obtain ⟨Wp, hWp⟩ : ∃ Wp, Wp = (wo.alloc (.cells #[.int .i64 ((vx l k).1), .int .i64 ((vx l k).2)] 34)) := ⟨_, rfl⟩
          rw [← hWp]
          have yWp0_0 : Wp.cell? ⟨wo.heap.size, 0, none⟩ = some (.int .i64 ((vx l k).1)) := by rw [hWp]; go_simp
          have yWp0_1 : Wp.cell? ⟨wo.heap.size, 1, none⟩ = some (.int .i64 ((vx l k).2)) := by rw [hWp]; go_simp
          have fWp0 : ∀ o, Wp.frozen? ⟨wo.heap.size, o, none⟩ = false := by intro o; rw [hWp]; (repeat rw [frozen?_alloc_cells]); simp [World.frozen?]
          have zWp0 : wo.heap.size < Wp.heap.size := by rw [hWp]; simp <;> omega
          have BWp : Below wo.heap.size wo Wp := by rw [hWp]; exact (Below.alloc (Below.refl _ _) (by simp <;> omega) _)
          have eWp : Hid (Wp.heap.size = wo.heap.size + 1) := Lib.hid (by rw [hWp]; simp)
          clear hWp
          have BP := hB.trans (BWp.mono hB.size)
          obtain ⟨xm0, xm1⟩ := HC.out Wp BP m hm
          have zb : b < Wp.heap.size := Nat.lt_of_lt_of_le hbz BWp.size
          refine wp_region_B (fun W => Below Wp.heap.size Wp W) (by kernel_rfl) (by repeat (first | exact Below.refl _ _ | apply Below.drew)) ?_
          first | refine wpB_skip 0 rfl (by kernel_rfl) (by kernel_rfl) (by kernel_rfl) (by rfl) ?_ | (refine wpB_text 0 (v := ?_) rfl (by kernel_rfl) (by kernel_rfl) (by kernel_rfl) (by rfl) (fun W hW => ?_) ?_; rotate_left; (have k1 := hW; obtain ⟨hc1, hf1⟩ := bcell k1; go_simp; refine comes_v ?_; exact k1))
          (try simp only [Act.put, List.setIfInBounds_toArray, List.set_cons_zero, List.set_cons_succ])
          first | refine wpB_skip 1 rfl (by kernel_rfl) (by kernel_rfl) (by kernel_rfl) (by rfl) ?_ | (refine wpB_text 1 (v := ?_) rfl (by kernel_rfl) (by kernel_rfl) (by kernel_rfl) (by rfl) (fun W hW => ?_) ?_; rotate_left; (have k1 := hW; obtain ⟨hc1, hf1⟩ := bcell k1; go_simp; refine comes_v ?_; exact k1))
          (try simp only [Act.put, List.setIfInBounds_toArray, List.set_cons_zero, List.set_cons_succ])
          first | refine wpB_skip 2 rfl (by kernel_rfl) (by kernel_rfl) (by kernel_rfl) (by rfl) ?_ | (refine wpB_text 2 (v := ?_) rfl (by kernel_rfl) (by kernel_rfl) (by kernel_rfl) (by rfl) (fun W hW => ?_) ?_; rotate_left; (have k1 := hW; obtain ⟨hc1, hf1⟩ := bcell k1; go_simp; refine comes_v ?_; exact k1))
          (try simp only [Act.put, List.setIfInBounds_toArray, List.set_cons_zero, List.set_cons_succ])
          first | refine wpB_skip 3 rfl (by kernel_rfl) (by kernel_rfl) (by kernel_rfl) (by rfl) ?_ | (refine wpB_text 3 (v := ?_) rfl (by kernel_rfl) (by kernel_rfl) (by kernel_rfl) (by rfl) (fun W hW => ?_) ?_; rotate_left; (have k1 := hW; obtain ⟨hc1, hf1⟩ := bcell k1; go_simp; refine comes_v ?_; exact k1))
          (try simp only [Act.put, List.setIfInBounds_toArray, List.set_cons_zero, List.set_cons_succ])
          first | refine wpB_skip 4 rfl (by kernel_rfl) (by kernel_rfl) (by kernel_rfl) (by rfl) ?_ | (refine wpB_text 4 (v := ?_) rfl (by kernel_rfl) (by kernel_rfl) (by kernel_rfl) (by rfl) (fun W hW => ?_) ?_; rotate_left; (have k1 := hW; obtain ⟨hc1, hf1⟩ := bcell k1; go_simp; refine comes_v ?_; exact k1))
          (try simp only [Act.put, List.setIfInBounds_toArray, List.set_cons_zero, List.set_cons_succ])
          first | refine wpB_skip 5 rfl (by kernel_rfl) (by kernel_rfl) (by kernel_rfl) (by rfl) ?_ | (refine wpB_text 5 (v := .bool false) rfl (by kernel_rfl) (by kernel_rfl) (by kernel_rfl) (by rfl) (fun W hW => ?_) ?_; (have k1 := hW; obtain ⟨hc1, hf1⟩ := bcell k1; go_simp; exact comes_c ( KL.out _) (fun wn hbn => bt_keep k1 hbn)))
          (try simp only [Act.put, List.setIfInBounds_toArray, List.set_cons_zero, List.set_cons_succ])
          refine wpB_done (by kernel_rfl) ?_ _
          intro W hW; have k1 := hW
          have B3 := BP.trans (k1.mono BP.size)
          clear xm0 xm1 zWp0 fWp0 yWp0_0 yWp0_1 eWp BWp BP y0 y1
          go_wp2_with fail
          go_roundg (n - (k + 1))
          case measure => have := HGK.out; omega
          case rel => exact ⟨k + 1, by omega, rfl, by go_num, by rw [E2.out], B3⟩
      · have hkn : n = k := by omega
        subst hkn
        go_wp2_with fail
        have km := minI_lt (vx l) n (by omega)
        generalize minI (vx l) n = m at *
        have e1 : (0 : Int) ≤ (m : Int) := by omega
        have e2 : (m : Int) ≤ (n : Int) := by omega
        have e3 : (m : Int) ≤ (c : Int) := by omega
        refine wp_region_any (by kernel_rfl) ?_
        refine wpAny_take (i := 1) (v := .slice (some ⟨b, off, none⟩) n c) rfl (by kernel_rfl) (by kernel_rfl) (by kernel_rfl) (fun _ _ _ h => h) (Or.inl ⟨by rfl, fun W => by first | rfl | go_simp⟩) ?_
        (try simp only [List.getElem_toArray, List.getElem_cons_zero, List.getElem_cons_succ, Act.put, List.setIfInBounds_toArray, List.set_cons_zero, List.set_cons_succ])
        refine wpAny_take (i := 2) (v := .int .i64 m) rfl (by kernel_rfl) (by kernel_rfl) (by kernel_rfl) (fun _ _ _ h => h) (Or.inl ⟨by rfl, fun W => by first | rfl | go_simp⟩) ?_
        (try simp only [List.getElem_toArray, List.getElem_cons_zero, List.getElem_cons_succ, Act.put, List.setIfInBounds_toArray, List.set_cons_zero, List.set_cons_succ])
        refine wpAny_take (i := 3) (v := .slice (some ⟨b, off + m * 2, none⟩) (n - m) (c - m)) rfl (by kernel_rfl) (by kernel_rfl) (by kernel_rfl) (fun _ _ _ h => h) (Or.inl ⟨by rfl, fun W => by go_simp; try (intro h; omega)⟩) ?_
        (try simp only [List.getElem_toArray, List.getElem_cons_zero, List.getElem_cons_succ, Act.put, List.setIfInBounds_toArray, List.set_cons_zero, List.set_cons_succ])
        refine wpAny_take (i := 5) (v := .slice (some ⟨b, off, none⟩) n c) rfl (by kernel_rfl) (by kernel_rfl) (by kernel_rfl) (fun _ _ _ h => h) (Or.inl ⟨by rfl, fun W => by first | rfl | go_simp⟩) ?_
        (try simp only [List.getElem_toArray, List.getElem_cons_zero, List.getElem_cons_succ, Act.put, List.setIfInBounds_toArray, List.set_cons_zero, List.set_cons_succ])
        refine wpAny_take (i := 6) (v := .int .i64 m) rfl (by kernel_rfl) (by kernel_rfl) (by kernel_rfl) (fun _ _ _ h => h) (Or.inl ⟨by rfl, fun W => by first | rfl | go_simp⟩) ?_
        (try simp only [List.getElem_toArray, List.getElem_cons_zero, List.getElem_cons_succ, Act.put, List.setIfInBounds_toArray, List.set_cons_zero, List.set_cons_succ])
        refine wpAny_take (i := 7) (v := .slice (some ⟨b, off, none⟩) m c) rfl (by kernel_rfl) (by kernel_rfl) (by kernel_rfl) (fun _ _ _ h => h) (Or.inl ⟨by rfl, fun W => by go_simp; try (intro h; omega)⟩) ?_
        (try simp only [List.getElem_toArray, List.getElem_cons_zero, List.getElem_cons_succ, Act.put, List.setIfInBounds_toArray, List.set_cons_zero, List.set_cons_succ])
        refine wpAny_all (rs := [0]) (by kernel_rfl) (by simp) (fun i hi => ?_)
        obtain rfl : i = 0 := by simpa using hi
        refine wpOp_val (v := .slice (some ⟨wo.heap.size, 0, none⟩) 0 0) (w' := wo.drew.alloc (.cells #[] 34)) rfl (by rfl) (by go_simp) ?_
        (try simp only [List.getElem_toArray, List.getElem_cons_zero, List.getElem_cons_succ, Act.put, List.setIfInBounds_toArray, List.set_cons_zero, List.set_cons_succ])
        have HB0 := (hB.drew).alloc (w := wo.drew) (by exact hB.size) (.cells #[] 34)
        have X0 := HC.out _ HB0
        have HZ := hz2
        have own0 : (wo.drew.alloc (.cells #[] 34)).ownsRow w2.heap.size 34 2 (.slice (some ⟨wo.heap.size, 0, none⟩) 0 0) 0 [] := World.ownsRow_lit wo.drew #[] 0 (by have := hB.size; show w2.heap.size ≤ wo.heap.size; omega) (by decide) rfl
        have HX := HB0.size
        refine wpAny_all (rs := [4]) (by kernel_rfl) (by simp) (fun i hi => ?_)
        obtain rfl : i = 4 := by simpa using hi
        obtain ⟨i0, hi0, hz0, hz1, hz2'⟩ := info_parts peg_info
        refine wpOp_left rfl (by rfl) (wp_append_own _ (.tmp 26) (.tmp 29) 26 rfl w2.heap.size 34 i0 (.agg #[.int .i64 0, .int .i64 0]) 2 16 Try.underlying26 hi0 hz0 hz1 hz2' rfl (by decide) (.slice (some ⟨wo.heap.size, 0, none⟩) 0 0) 0 [] rfl own0 ⟨b, off + m * 2, none⟩ (n - m) (c - m) (flat (l.drop m)) rfl (by rw [flat_len, List.length_drop, HN.out]) (drop_cells (by rw [HN.out]; omega) (fun i hi => X0 i (by rw [HN.out] at hi; exact hi))) (flat_one _) (by unfold maxLen; omega) (by omega) HX ?_)
        intro v4 w4 hown4 hgr4 _
        have B4 := HB0.grown hgr4 HX fun g hgk => (World.ownsRow.lt own0 g hgk).1
        have X4 := HC.out _ B4
        have HX4 := B4.size
        clear own0 hgr4 X0 HB0 HX HZ
        (try simp only [List.getElem_toArray, List.getElem_cons_zero, List.getElem_cons_succ, Act.put, List.setIfInBounds_toArray, List.set_cons_zero, List.set_cons_succ])
        refine wpAny_all (rs := [8]) (by kernel_rfl) (by simp) (fun i hi => ?_)
        obtain rfl : i = 8 := by simpa using hi
        refine wpOp_left rfl (by rfl) (wp_append_own _ (.tmp 30) (.tmp 33) 26 rfl w2.heap.size 34 i0 (.agg #[.int .i64 0, .int .i64 0]) 2 16 Try.underlying26 hi0 hz0 hz1 hz2' rfl (by decide) v4 (0 + (n - m)) ([] ++ flat (l.drop m)) rfl hown4 ⟨b, off, none⟩ m c (flat (l.take m)) rfl (by rw [flat_len, List.length_take, HN.out]; omega) (take_cells (by rw [HN.out]; omega) (fun i hi => X4 i (by rw [HN.out] at hi; exact hi))) (flat_one _) (by unfold maxLen; omega) (by omega) HX4 ?_)
        intro v5 w5 hown5 hgr5 _
        have B5 := B4.grown hgr5 HX4 fun g hgk => (World.ownsRow.lt hown4 g hgk).1
        have R5 := Lib.hid (row_rot (l := l) (by rw [HN.out]; exact km) (by rw [HN.out]; exact hown5))
        clear hown4 hown5 hgr5 X4 B4 HX4 hi0 hz0 hz1 hz2'
        (try simp only [List.getElem_toArray, List.getElem_cons_zero, List.getElem_cons_succ, Act.put, List.setIfInBounds_toArray, List.set_cons_zero, List.set_cons_succ])
        refine wpAny_all (rs := [9]) (by kernel_rfl) (by simp) (fun i hi => ?_)
        obtain rfl : i = 9 := by simpa using hi
        refine wpOp_val (v := v5) (w' := w5) rfl (by rfl) (by first | rfl | go_simp) ?_
        (try simp only [List.getElem_toArray, List.getElem_cons_zero, List.getElem_cons_succ, Act.put, List.setIfInBounds_toArray, List.set_cons_zero, List.set_cons_succ])
        refine wpAny_done (by kernel_rfl) ?_ _
        go_wp2_with fail
        go_ret
        have R6 := R5.out
        rw [HN.out] at R6
        have Q6 := retP_row (w := w2) R6 B5
        rw [firsts_same n HT.out] at Q6
        exact retP_up hb2 Q6
end Go.Proofs.Ytjkfdcjfoliboaa
