/- contracts: TellFirst, on both sides -/
import Derived.Test.YtjkfdcjfoliboaaNc
import Derived.Test.YtjkfdcjfoliboaaQg
import Derived.Test.YtjkfdcjfoliboaaLb
import Derived.Test.YtjkfdcjfoliboaaLs
import Derived.Test.YtjkfdcjfoliboaaSei
namespace Go.Proofs.Ytjkfdcjfoliboaa
open Go.ChangeShapes Go.WideShapes Go.ChangeAt Go.RowKit Go.Joins
set_option linter.unusedVariables false
set_option linter.unusedSimpArgs false
set_option maxRecDepth 4000
theorem isBefore_any (a1 a2 b1 b2 : Int) (w : World) :
    Calls Try.prog 54 #[.agg #[.int .i64 a1, .int .i64 a2], .agg #[.int .i64 b1, .int .i64 b2]] w fun e w' => e = .returned (.bool (ltP (a1, a2) (b1, b2))) ∧ Below w.heap.size w w' := by
  by_cases h1 : a1 < b1
  · go_enter Try.func54, Try.ntmps54
    go_wp2_with fail
    go_ret
    exact ⟨ret_bool (by simp [ltP, h1]), (by repeat (first | exact Below.refl _ _ | assumption | apply Below.drew | refine Below.alloc ?_ (by simp <;> omega) _))⟩
  · by_cases h2 : a1 = b1
    · by_cases h3 : a2 < b2
      all_goals
        subst h2
        go_enter Try.func54, Try.ntmps54
        go_wp2_with fail
        go_ret
        exact ⟨ret_bool (by simp [ltP, h3]), (by repeat (first | exact Below.refl _ _ | assumption | apply Below.drew | refine Below.alloc ?_ (by simp <;> omega) _))⟩
    · go_enter Try.func54, Try.ntmps54
      go_wp2_with fail
      go_ret
      exact ⟨ret_bool (by simp [ltP, h1, h2]), (by repeat (first | exact Below.refl _ _ | assumption | apply Below.drew | refine Below.alloc ?_ (by simp <;> omega) _))⟩
set_option maxHeartbeats 1000000 in
theorem specTellFirst_any (A : Option Addr) (c : Nat) (l : List (Int × Int)) (w : World) (hn : l.length ≤ 1048576) (hcap : l.length ≤ c) (hc2 : c ≤ 9223372036854775807) (hR : Rd w w.heap.size A l) :
    Calls Try.prog 27 #[.slice A l.length c] w (RetL w (sel (goodB l) (firsts (tellF l) l.length)) (goodB l)) := by
  have K := Lib.hid (pgGood_any A c l w hn hcap hc2 hR)
  by_cases hg : Good l
  · have hgt := goodB_true hg
    rw [hgt] at K ⊢
    have K2 := Lib.hid (fun W (hb : Below w.heap.size w W) => pgFirst_any A c l W hg hcap hc2 (rd_more (rd_below hR hb (Nat.le_refl _)) hb.size))
    clear hgt hg hR
    go_enter Try.func27, Try.ntmps27
    go_wp2_with fail
    refine K.out.mono ?_; rintro e w1 ⟨rfl, hb1⟩
    go_wp2_with fail
    refine (K2.out w1 hb1).mono ?_; rintro e w2 ⟨A2, c2, rfl, q1, q2, hb2, q3⟩
    go_wp2_with fail
    go_ret2
    exact retL_of_P hb1 q1 q2 hb2 q3
  · have hgf := goodB_false hg
    rw [hgf] at K ⊢
    clear hgf hg hR
    go_enter Try.func27, Try.ntmps27
    go_wp2_with fail
    refine K.out.mono ?_; rintro e w1 ⟨rfl, hb1⟩
    go_wp2_with fail
    go_ret2
    exact retL_nil hb1
set_option maxHeartbeats 4000000 in
theorem implTellFirst_any (A : Option Addr) (c : Nat) (l : List (Int × Int)) (w : World) (hn : l.length ≤ 1048576) (hR : Rd w w.heap.size A l) :
    Calls Try.prog 28 #[.slice A l.length c] w (RetL w (sel (goodB l) (firsts (tellF l) l.length)) (goodB l)) := by
  have K := Lib.hid (implTwiceArea_any A c l w hn hR)
  by_cases hg : Good l
  · have hgt := goodB_true hg
    rw [hgt, gi_true] at K
    rw [hgt]
    have h10 := hg.few
    have hpos := good_pos hg
    have hm := minI_lt (vx l) l.length hpos
    by_cases ha : areaN l < 0
    · have ET : firsts (fun i => vx l ((fun i => (minI (vx l) l.length + l.length - i) % l.length) i)) l.length = firsts (tellF l) l.length := firsts_same _ fun i hi => by unfold tellF; rw [if_pos ha]
      have KT := Lib.hid (fun W (hb : Below w.heap.size w W) => by
        have h := tellFrom_any A c l (minI (vx l) l.length) (-1) (fun i => (minI (vx l) l.length + l.length - i) % l.length) W hpos h10.2 (rd_more (rd_below hR hb (Nat.le_refl _)) hb.size) hm (by omega) (fun i hi => by
          rw [(show (minI (vx l) l.length : Int) + (i : Int) * (-1) + (l.length : Int) = ((minI (vx l) l.length + l.length - i : Nat) : Int) by omega)]; exact (Int.natCast_emod _ _).symm)
        rw [ET] at h
        exact h)
      obtain ⟨b, off, rfl, hb, HC0⟩ := pts_of (by omega) hR
      clear hgt hg hR ET
      generalize firsts (tellF l) l.length = res at *
      generalize areaN l = ar at *
      generalize hN : l.length = n at *
      have HN := Lib.hid hN
      clear hN hm
      go_enter Try.func28, Try.ntmps28
      go_wp2_with fail
      refine K.out.mono ?_; rintro e w2 ⟨rfl, hb2⟩
      have HC := Lib.hid (fun W (hW : Below w2.heap.size w2 W) => HC0.out W (hb2.trans (hW.mono hb2.size)))
      have hz2 := hb2.size
      have hbb : b < w2.heap.size := by omega
      go_wp2_with fail
      go_loopg [6, 18] n (fun g s i wr => ∃ k : Nat, k ≤ n ∧ g = n - k ∧ i = .int .i64 k ∧ s = .int .i64 (minI (vx l) k : Nat) ∧ Below w2.heap.size w2 wr)
      case atStart => exact ⟨0, Nat.zero_le _, rfl, rfl, rfl, Below.refl _ _⟩
      case round =>
        obtain ⟨k, hk, hg, rfl, rfl, hB⟩ := hrel
        rename World => wo
        have HGK := Lib.hid hg
        clear hg
        by_cases hlt : k < n
        · obtain ⟨y0, y1⟩ := HC.out wo hB k hlt
          have hm : minI (vx l) k < n := by
            rcases Nat.eq_zero_or_pos k with h0 | h0
            · subst h0; exact hlt
            · have := minI_lt (vx l) k h0; omega
          have hbz : b < wo.heap.size := by have := hB.size; omega
          have EM : Hid (minI (vx l) (k + 1) = if ltP (vx l k) (vx l (minI (vx l) k)) = true then k else minI (vx l) k) := Lib.hid rfl
          generalize minI (vx l) k = m at *
          have KL := Lib.hid (fun W => isBefore_any (vx l k).1 (vx l k).2 (vx l m).1 (vx l m).2 W)
          have e1 : (m : Int) < (n : Int) := by omega
          by_cases hb : ltP (vx l k) (vx l m) = true
          · rw [show ltP ((vx l k).1, (vx l k).2) ((vx l m).1, (vx l m).2) = true from hb] at KL
            have E2 : Hid (minI (vx l) (k + 1) = k) := Lib.hid (by rw [EM.out, if_pos hb])
            clear EM hb
            go_wp2_with fail
            obtain ⟨Wp, hWp⟩ : ∃ Wp, Wp = (wo.alloc (.cells #[.int .i64 ((vx l k).1), .int .i64 ((vx l k).2)] 34)) := ⟨_, rfl⟩
            rw [← hWp]
            have yWp0_0 : Wp.cell? ⟨wo.heap.size, 0, none⟩ = some (.int .i64 ((vx l k).1)) := by rw [hWp]; go_simp
            have yWp0_1 : Wp.cell? ⟨wo.heap.size, 1, none⟩ = some (.int .i64 ((vx l k).2)) := by rw [hWp]; go_simp
            have fWp0 : ∀ o, Wp.frozen? ⟨wo.heap.size, o, none⟩ = false := by intro o; rw [hWp]; (repeat rw [frozen?_alloc_cells]); simp [World.frozen?]
            have zWp0 : wo.heap.size < Wp.heap.size := by rw [hWp]; simp <;> omega
            have BWp : Below wo.heap.size wo Wp := by rw [hWp]; exact (Below.alloc (Below.refl _ _) (by simp <;> omega) _)
            have eWp : Hid (Wp.heap.size = wo.heap.size + 1) := Lib.hid (by rw [hWp]; simp)
            clear hWp
            have BP := hB.trans (BWp.mono hB.size)
            obtain ⟨xm0, xm1⟩ := HC.out Wp BP m hm
            have zb : b < Wp.heap.size := Nat.lt_of_lt_of_le hbz BWp.size
            refine wp_region_B (fun W => Below Wp.heap.size Wp W) (by kernel_rfl) (by repeat (first | exact Below.refl _ _ | apply Below.drew)) ?_
            first | refine wpB_skip 0 rfl (by kernel_rfl) (by kernel_rfl) (by kernel_rfl) (by rfl) ?_ | (refine wpB_text 0 (v := ?_) rfl (by kernel_rfl) (by kernel_rfl) (by kernel_rfl) (by rfl) (fun W hW => ?_) ?_; rotate_left; (have k1 := hW; obtain ⟨hc1, hf1⟩ := bcell k1; go_simp; refine comes_v ?_; exact k1))
            (try simp only [Act.put, List.setIfInBounds_toArray, List.set_cons_zero, List.set_cons_succ])
            first | refine wpB_skip 1 rfl (by kernel_rfl) (by kernel_rfl) (by kernel_rfl) (by rfl) ?_ | (refine wpB_text 1 (v := ?_) rfl (by kernel_rfl) (by kernel_rfl) (by kernel_rfl) (by rfl) (fun W hW => ?_) ?_; rotate_left; (have k1 := hW; obtain ⟨hc1, hf1⟩ := bcell k1; go_simp; refine comes_v ?_; exact k1))
            (try simp only [Act.put, List.setIfInBounds_toArray, List.set_cons_zero, List.set_cons_succ])
            first | refine wpB_skip 2 rfl (by kernel_rfl) (by kernel_rfl) (by kernel_rfl) (by rfl) ?_ | (refine wpB_text 2 (v := ?_) rfl (by kernel_rfl) (by kernel_rfl) (by kernel_rfl) (by rfl) (fun W hW => ?_) ?_; rotate_left; (have k1 := hW; obtain ⟨hc1, hf1⟩ := bcell k1; go_simp; refine comes_v ?_; exact k1))
            (try simp only [Act.put, List.setIfInBounds_toArray, List.set_cons_zero, List.set_cons_succ])
            first | refine wpB_skip 3 rfl (by kernel_rfl) (by kernel_rfl) (by kernel_rfl) (by rfl) ?_ | (refine wpB_text 3 (v := ?_) rfl (by kernel_rfl) (by kernel_rfl) (by kernel_rfl) (by rfl) (fun W hW => ?_) ?_; rotate_left; (have k1 := hW; obtain ⟨hc1, hf1⟩ := bcell k1; go_simp; refine comes_v ?_; exact k1))
            (try simp only [Act.put, List.setIfInBounds_toArray, List.set_cons_zero, List.set_cons_succ])
            first | refine wpB_skip 4 rfl (by kernel_rfl) (by kernel_rfl) (by kernel_rfl) (by rfl) ?_ | (refine wpB_text 4 (v := ?_) rfl (by kernel_rfl) (by kernel_rfl) (by kernel_rfl) (by rfl) (fun W hW => ?_) ?_; rotate_left; (have k1 := hW; obtain ⟨hc1, hf1⟩ := bcell k1; go_simp; refine comes_v ?_; exact k1))
            (try simp only [Act.put, List.setIfInBounds_toArray, List.set_cons_zero, List.set_cons_succ])
            first | refine wpB_skip 5 rfl (by kernel_rfl) (by kernel_rfl) (by kernel_rfl) (by rfl) ?_ | (refine wpB_text 5 (v := .bool true) rfl (by kernel_rfl) (by kernel_rfl) (by kernel_rfl) (by rfl) (fun W hW => ?_) ?_; (have k1 := hW; obtain ⟨hc1, hf1⟩ := bcell k1; go_simp; exact comes_c ( KL.out _) (fun wn hbn => bt_keep k1 hbn)))
            (try simp only [Act.put, List.setIfInBounds_toArray, List.set_cons_zero, List.set_cons_succ])
            refine wpB_done (by kernel_rfl) ?_ _
            intro W hW; have k1 := hW
            have B3 := BP.trans (k1.mono BP.size)
            clear xm0 xm1 zWp0 fWp0 yWp0_0 yWp0_1 eWp BWp BP y0 y1
            go_wp2_with fail
            go_roundg (n - (k + 1))
            case measure => have := HGK.out; omega
            case rel => exact ⟨k + 1, by omega, rfl, by go_num, by rw [E2.out], B3⟩
          · rw [show ltP ((vx l k).1, (vx l k).2) ((vx l m).1, (vx l m).2) = false from (by simpa using hb)] at KL
            have E2 : Hid (minI (vx l) (k + 1) = m) := Lib.hid (by rw [EM.out, if_neg hb])
            clear EM hb
            go_wp2_with fail
            obtain ⟨Wp, hWp⟩ : ∃ Wp, Wp = (wo.alloc (.cells #[.int .i64 ((vx l k).1), .int .i64 ((vx l k).2)] 34)) := ⟨_, rfl⟩
            rw [← hWp]
            have yWp0_0 : Wp.cell? ⟨wo.heap.size, 0, none⟩ = some (.int .i64 ((vx l k).1)) := by rw [hWp]; go_simp
            have yWp0_1 : Wp.cell? ⟨wo.heap.size, 1, none⟩ = some (.int .i64 ((vx l k).2)) := by rw [hWp]; go_simp
            have fWp0 : ∀ o, Wp.frozen? ⟨wo.heap.size, o, none⟩ = false := by intro o; rw [hWp]; (repeat rw [frozen?_alloc_cells]); simp [World.frozen?]
            have zWp0 : wo.heap.size < Wp.heap.size := by rw [hWp]; simp <;> omega
            have BWp : Below wo.heap.size wo Wp := by rw [hWp]; exact (Below.alloc (Below.refl _ _) (by simp <;> omega) _)
            have eWp : Hid (Wp.heap.size = wo.heap.size + 1) := Lib.hid (by rw [hWp]; simp)
            clear hWp
            have BP := hB.trans (BWp.mono hB.size)
            obtain ⟨xm0, xm1⟩ := HC.out Wp BP m hm
            have zb : b < Wp.heap.size := Nat.lt_of_lt_of_le hbz BWp.size
            refine wp_region_B (fun W => Below Wp.heap.size Wp W) (by kernel_rfl) (by repeat (first | exact Below.refl _ _ | apply Below.drew)) ?_
            first | refine wpB_skip 0 rfl (by kernel_rfl) (by kernel_rfl) (by kernel_rfl) (by rfl) ?_ | (refine wpB_text 0 (v := ?_) rfl (by kernel_rfl) (by kernel_rfl) (by kernel_rfl) (by rfl) (fun W hW => ?_) ?_; rotate_left; (have k1 := hW; obtain ⟨hc1, hf1⟩ := bcell k1; go_simp; refine comes_v ?_; exact k1))
            (try simp only [Act.put, List.setIfInBounds_toArray, List.set_cons_zero, List.set_cons_succ])
            first | refine wpB_skip 1 rfl (by kernel_rfl) (by kernel_rfl) (by kernel_rfl) (by rfl) ?_ | (refine wpB_text 1 (v := ?_) rfl (by kernel_rfl) (by kernel_rfl) (by kernel_rfl) (by rfl) (fun W hW => ?_) ?_; rotate_left; (have k1 := hW; obtain ⟨hc1, hf1⟩ := bcell k1; go_simp; refine comes_v ?_; exact k1))
            (try simp only [Act.put, List.setIfInBounds_toArray, List.set_cons_zero, List.set_cons_succ])
            first | refine wpB_skip 2 rfl (by kernel_rfl) (by kernel_rfl) (by kernel_rfl) (by rfl) ?_ | (refine wpB_text 2 (v := ?_) rfl (by kernel_rfl) (by kernel_rfl) (by kernel_rfl) (by rfl) (fun W hW => ?_) ?_; rotate_left; (have k1 := hW; obtain ⟨hc1, hf1⟩ := bcell k1; go_simp; refine comes_v ?_; exact k1))
            (try simp only [Act.put, List.setIfInBounds_toArray, List.set_cons_zero, List.set_cons_succ])
            first | refine wpB_skip 3 rfl (by kernel_rfl) (by kernel_rfl) (by kernel_rfl) (by rfl) ?_ | (refine wpB_text 3 (v := ?_) rfl (by kernel_rfl) (by kernel_rfl) (by kernel_rfl) (by rfl) (fun W hW => ?_) ?_; rotate_left; (have k1 := hW; obtain ⟨hc1, hf1⟩ := bcell k1; go_simp; refine comes_v ?_; exact k1))
            (try simp only [Act.put, List.setIfInBounds_toArray, List.set_cons_zero, List.set_cons_succ])
            first | refine wpB_skip 4 rfl (by kernel_rfl) (by kernel_rfl) (by kernel_rfl) (by rfl) ?_ | (refine wpB_text 4 (v := ?_) rfl (by kernel_rfl) (by kernel_rfl) (by kernel_rfl) (by rfl) (fun W hW => ?_) ?_; rotate_left; (have k1 := hW; obtain ⟨hc1, hf1⟩ := bcell k1; go_simp; refine comes_v ?_; exact k1))
            (try simp only [Act.put, List.setIfInBounds_toArray, List.set_cons_zero, List.set_cons_succ])
            first | refine wpB_skip 5 rfl (by kernel_rfl) (by kernel_rfl) (by kernel_rfl) (by rfl) ?_ | (refine wpB_text 5 (v := .bool false) rfl (by kernel_rfl) (by kernel_rfl) (by kernel_rfl) (by rfl) (fun W hW => ?_) ?_; (have k1 := hW; obtain ⟨hc1, hf1⟩ := bcell k1; go_simp; exact comes_c ( KL.out _) (fun wn hbn => bt_keep k1 hbn)))
            (try simp only [Act.put, List.setIfInBounds_toArray, List.set_cons_zero, List.set_cons_succ])
            refine wpB_done (by kernel_rfl) ?_ _
            intro W hW; have k1 := hW
            have B3 := BP.trans (k1.mono BP.size)
            clear xm0 xm1 zWp0 fWp0 yWp0_0 yWp0_1 eWp BWp BP y0 y1
            go_wp2_with fail
            go_roundg (n - (k + 1))
            case measure => have := HGK.out; omega
            case rel => exact ⟨k + 1, by omega, rfl, by go_num, by rw [E2.out], B3⟩
        · have hkn : n = k := by omega
          subst hkn
          go_wp2_with fail
          refine (KT.out wo (hb2.trans (hB.mono hb2.size))).mono ?_; rintro e w3 ⟨A3, c3, rfl, q1, q2, hb3, q3⟩
          go_wp2_with fail
          go_ret2
          exact retL_of_P (hb2.trans (hB.mono hb2.size)) q1 q2 hb3 q3
    · have ET : firsts (fun i => vx l ((fun i => (minI (vx l) l.length + i + l.length) % l.length) i)) l.length = firsts (tellF l) l.length := firsts_same _ fun i hi => by unfold tellF; rw [if_neg ha]
      have KT := Lib.hid (fun W (hb : Below w.heap.size w W) => by
        have h := tellFrom_any A c l (minI (vx l) l.length) 1 (fun i => (minI (vx l) l.length + i + l.length) % l.length) W hpos h10.2 (rd_more (rd_below hR hb (Nat.le_refl _)) hb.size) hm (by omega) (fun i hi => by
          rw [(show (minI (vx l) l.length : Int) + (i : Int) * 1 + (l.length : Int) = ((minI (vx l) l.length + i + l.length : Nat) : Int) by omega)]; exact (Int.natCast_emod _ _).symm)
        rw [ET] at h
        exact h)
      obtain ⟨b, off, rfl, hb, HC0⟩ := pts_of (by omega) hR
      clear hgt hg hR ET
      generalize firsts (tellF l) l.length = res at *
      generalize areaN l = ar at *
      generalize hN : l.length = n at *
      have HN := Lib.hid hN
      clear hN hm
      go_enter Try.func28, Try.ntmps28
      go_wp2_with fail
      refine K.out.mono ?_; rintro e w2 ⟨rfl, hb2⟩
      have HC := Lib.hid (fun W (hW : Below w2.heap.size w2 W) => HC0.out W (hb2.trans (hW.mono hb2.size)))
      have hz2 := hb2.size
      have hbb : b < w2.heap.size := by omega
      go_wp2_with fail
      go_loopg [6, 18] n (fun g s i wr => ∃ k : Nat, k ≤ n ∧ g = n - k ∧ i = .int .i64 k ∧ s = .int .i64 (minI (vx l) k : Nat) ∧ Below w2.heap.size w2 wr)
      case atStart => exact ⟨0, Nat.zero_le _, rfl, rfl, rfl, Below.refl _ _⟩
      case round =>
        obtain ⟨k, hk, hg, rfl, rfl, hB⟩ := hrel
        rename World => wo
        have HGK := Lib.hid hg
        clear hg
        by_cases hlt : k < n
        · obtain ⟨y0, y1⟩ := HC.out wo hB k hlt
          have hm : minI (vx l) k < n := by
            rcases Nat.eq_zero_or_pos k with h0 | h0
            · subst h0; exact hlt
            · have := minI_lt (vx l) k h0; omega
          have hbz : b < wo.heap.size := by have := hB.size; omega
          have EM : Hid (minI (vx l) (k + 1) = if ltP (vx l k) (vx l (minI (vx l) k)) = true then k else minI (vx l) k) := Lib.hid rfl
          generalize minI (vx l) k = m at *
          have KL := Lib.hid (fun W => isBefore_any (vx l k).1 (vx l k).2 (vx l m).1 (vx l m).2 W)
          have e1 : (m : Int) < (n : Int) := by omega
          by_cases hb : ltP (vx l k) (vx l m) = true
          · rw [show ltP ((vx l k).1, (vx l k).2) ((vx l m).1, (vx l m).2) = true from hb] at KL
            have E2 : Hid (minI (vx l) (k + 1) = k) := Lib.hid (by rw [EM.out, if_pos hb])
            clear EM hb
            go_wp2_with fail
            obtain ⟨Wp, hWp⟩ : ∃ Wp, Wp = (wo.alloc (.cells #[.int .i64 ((vx l k).1), .int .i64 ((vx l k).2)] 34)) := ⟨_, rfl⟩
            rw [← hWp]
            have yWp0_0 : Wp.cell? ⟨wo.heap.size, 0, none⟩ = some (.int .i64 ((vx l k).1)) := by rw [hWp]; go_simp
            have yWp0_1 : Wp.cell? ⟨wo.heap.size, 1, none⟩ = some (.int .i64 ((vx l k).2)) := by rw [hWp]; go_simp
            have fWp0 : ∀ o, Wp.frozen? ⟨wo.heap.size, o, none⟩ = false := by intro o; rw [hWp]; (repeat rw [frozen?_alloc_cells]); simp [World.frozen?]
            have zWp0 : wo.heap.size < Wp.heap.size := by rw [hWp]; simp <;> omega
            have BWp : Below wo.heap.size wo Wp := by rw [hWp]; exact (Below.alloc (Below.refl _ _) (by simp <;> omega) _)
            have eWp : Hid (Wp.heap.size = wo.heap.size + 1) := Lib.hid (by rw [hWp]; simp)
            clear hWp
            have BP := hB.trans (BWp.mono hB.size)
            obtain ⟨xm0, xm1⟩ := HC.out Wp BP m hm
            have zb : b < Wp.heap.size := Nat.lt_of_lt_of_le hbz BWp.size
            refine wp_region_B (fun W => Below Wp.heap.size Wp W) (by kernel_rfl) (by repeat (first | exact Below.refl _ _ | apply Below.drew)) ?_
            first | refine wpB_skip 0 rfl (by kernel_rfl) (by kernel_rfl) (by kernel_rfl) (by rfl) ?_ | (refine wpB_text 0 (v := ?_) rfl (by kernel_rfl) (by kernel_rfl) (by kernel_rfl) (by rfl) (fun W hW => ?_) ?_; rotate_left; (have k1 := hW; obtain ⟨hc1, hf1⟩ := bcell k1; go_simp; refine comes_v ?_; exact k1))
            (try simp only [Act.put, List.setIfInBounds_toArray, List.set_cons_zero, List.set_cons_succ])
            first | refine wpB_skip 1 rfl (by kernel_rfl) (by kernel_rfl) (by kernel_rfl) (by rfl) ?_ | (refine wpB_text 1 (v := ?_) rfl (by kernel_rfl) (by kernel_rfl) (by kernel_rfl) (by rfl) (fun W hW => ?_) ?_; rotate_left; (have k1 := hW; obtain ⟨hc1, hf1⟩ := bcell k1; go_simp; refine comes_v ?_; exact k1))
            (try simp only [Act.put, List.setIfInBounds_toArray, List.set_cons_zero, List.set_cons_succ])
            first | refine wpB_skip 2 rfl (by kernel_rfl) (by kernel_rfl) (by kernel_rfl) (by rfl) ?_ | (refine wpB_text 2 (v := ?_) rfl (by kernel_rfl) (by kernel_rfl) (by kernel_rfl) (by rfl) (fun W hW => ?_) ?_; rotate_left; (have k1 := hW; obtain ⟨hc1, hf1⟩ := bcell k1; go_simp; refine comes_v ?_; exact k1))
            (try simp only [Act.put, List.setIfInBounds_toArray, List.set_cons_zero, List.set_cons_succ])
            first | refine wpB_skip 3 rfl (by kernel_rfl) (by kernel_rfl) (by kernel_rfl) (by rfl) ?_ | (refine wpB_text 3 (v := ?_) rfl (by kernel_rfl) (by kernel_rfl) (by kernel_rfl) (by rfl) (fun W hW => ?_) ?_; rotate_left; (have k1 := hW; obtain ⟨hc1, hf1⟩ := bcell k1; go_simp; refine comes_v ?_; exact k1))
            (try simp only [Act.put, List.setIfInBounds_toArray, List.set_cons_zero, List.set_cons_succ])
            first | refine wpB_skip 4 rfl (by kernel_rfl) (by kernel_rfl) (by kernel_rfl) (by rfl) ?_ | (refine wpB_text 4 (v := ?_) rfl (by kernel_rfl) (by kernel_rfl) (by kernel_rfl) (by rfl) (fun W hW => ?_) ?_; rotate_left; (have k1 := hW; obtain ⟨hc1, hf1⟩ := bcell k1; go_simp; refine comes_v ?_; exact k1))
            (try simp only [Act.put, List.setIfInBounds_toArray, List.set_cons_zero, List.set_cons_succ])
            first | refine wpB_skip 5 rfl (by kernel_rfl) (by kernel_rfl) (by kernel_rfl) (by rfl) ?_ | (refine wpB_text 5 (v := .bool true) rfl (by kernel_rfl) (by kernel_rfl) (by kernel_rfl) (by rfl) (fun W hW => ?_) ?_; (have k1 := hW; obtain ⟨hc1, hf1⟩ := bcell k1; go_simp; exact comes_c ( KL.out _) (fun wn hbn => bt_keep k1 hbn)))
            (try simp only [Act.put, List.setIfInBounds_toArray, List.set_cons_zero, List.set_cons_succ])
            refine wpB_done (by kernel_rfl) ?_ _
            intro W hW; have k1 := hW
            have B3 := BP.trans (k1.mono BP.size)
            clear xm0 xm1 zWp0 fWp0 yWp0_0 yWp0_1 eWp BWp BP y0 y1
            go_wp2_with fail
            go_roundg (n - (k + 1))
            case measure => have := HGK.out; omega
            case rel => exact ⟨k + 1, by omega, rfl, by go_num, by rw [E2.out], B3⟩
          · rw [show ltP ((vx l k).1, (vx l k).2) ((vx l m).1, (vx l m).2) = false from (by simpa using hb)] at KL
            have E2 : Hid (minI (vx l) (k + 1) = m) := Lib.hid (by rw [EM.out, if_neg hb])
            clear EM hb
            go_wp2_with fail
            obtain ⟨Wp, hWp⟩ : ∃ Wp, Wp = (wo.alloc (.cells #[.int .i64 ((vx l k).1), .int .i64 ((vx l k).2)] 34)) := ⟨_, rfl⟩
            rw [← hWp]
            have yWp0_0 : Wp.cell? ⟨wo.heap.size, 0, none⟩ = some (.int .i64 ((vx l k).1)) := by rw [hWp]; go_simp
            have yWp0_1 : Wp.cell? ⟨wo.heap.size, 1, none⟩ = some (.int .i64 ((vx l k).2)) := by rw [hWp]; go_simp
            have fWp0 : ∀ o, Wp.frozen? ⟨wo.heap.size, o, none⟩ = false := by intro o; rw [hWp]; (repeat rw [frozen?_alloc_cells]); simp [World.frozen?]
            have zWp0 : wo.heap.size < Wp.heap.size := by rw [hWp]; simp <;> omega
            have BWp : Below wo.heap.size wo Wp := by rw [hWp]; exact (Below.alloc (Below.refl _ _) (by simp <;> omega) _)
            have eWp : Hid (Wp.heap.size = wo.heap.size + 1) := Lib.hid (by rw [hWp]; simp)
            clear hWp
            have BP := hB.trans (BWp.mono hB.size)
            obtain ⟨xm0, xm1⟩ := HC.out Wp BP m hm
            have zb : b < Wp.heap.size := Nat.lt_of_lt_of_le hbz BWp.size
            refine wp_region_B (fun W => Below Wp.heap.size Wp W) (by kernel_rfl) (by repeat (first | exact Below.refl _ _ | apply Below.drew)) ?_
            first | refine wpB_skip 0 rfl (by kernel_rfl) (by kernel_rfl) (by kernel_rfl) (by rfl) ?_ | (refine wpB_text 0 (v := ?_) rfl (by kernel_rfl) (by kernel_rfl) (by kernel_rfl) (by rfl) (fun W hW => ?_) ?_; rotate_left; (have k1 := hW; obtain ⟨hc1, hf1⟩ := bcell k1; go_simp; refine comes_v ?_; exact k1))
            (try simp only [Act.put, List.setIfInBounds_toArray, List.set_cons_zero, List.set_cons_succ])
            first | refine wpB_skip 1 rfl (by kernel_rfl) (by kernel_rfl) (by kernel_rfl) (by rfl) ?_ | (refine wpB_text 1 (v := ?_) rfl (by kernel_rfl) (by kernel_rfl) (by kernel_rfl) (by rfl) (fun W hW => ?_) ?_; rotate_left; (have k1 := hW; obtain ⟨hc1, hf1⟩ := bcell k1; go_simp; refine comes_v ?_; exact k1))
            (try simp only [Act.put, List.setIfInBounds_toArray, List.set_cons_zero, List.set_cons_succ])
            first | refine wpB_skip 2 rfl (by kernel_rfl) (by kernel_rfl) (by kernel_rfl) (by rfl) ?_ | (refine wpB_text 2 (v := ?_) rfl (by kernel_rfl) (by kernel_rfl) (by kernel_rfl) (by rfl) (fun W hW => ?_) ?_; rotate_left; (have k1 := hW; obtain ⟨hc1, hf1⟩ := bcell k1; go_simp; refine comes_v ?_; exact k1))
            (try simp only [Act.put, List.setIfInBounds_toArray, List.set_cons_zero, List.set_cons_succ])
            first | refine wpB_skip 3 rfl (by kernel_rfl) (by kernel_rfl) (by kernel_rfl) (by rfl) ?_ | (refine wpB_text 3 (v := ?_) rfl (by kernel_rfl) (by kernel_rfl) (by kernel_rfl) (by rfl) (fun W hW => ?_) ?_; rotate_left; (have k1 := hW; obtain ⟨hc1, hf1⟩ := bcell k1; go_simp; refine comes_v ?_; exact k1))
            (try simp only [Act.put, List.setIfInBounds_toArray, List.set_cons_zero, List.set_cons_succ])
            first | refine wpB_skip 4 rfl (by kernel_rfl) (by kernel_rfl) (by kernel_rfl) (by rfl) ?_ | (refine wpB_text 4 (v := ?_) rfl (by kernel_rfl) (by kernel_rfl) (by kernel_rfl) (by rfl) (fun W hW => ?_) ?_; rotate_left; (have k1 := hW; obtain ⟨hc1, hf1⟩ := bcell k1; go_simp; refine comes_v ?_; exact k1))
            (try simp only [Act.put, List.setIfInBounds_toArray, List.set_cons_zero, List.set_cons_succ])
            first | refine wpB_skip 5 rfl (by kernel_rfl) (by kernel_rfl) (by kernel_rfl) (by rfl) ?_ | (refine wpB_text 5 (v := .bool false) rfl (by kernel_rfl) (by kernel_rfl) (by kernel_rfl) (by rfl) (fun W hW => ?_) ?_; (have k1 := hW; obtain ⟨hc1, hf1⟩ := bcell k1; go_simp; exact comes_c ( KL.out _) (fun wn hbn => bt_keep k1 hbn)))
            (try simp only [Act.put, List.setIfInBounds_toArray, List.set_cons_zero, List.set_cons_succ])
            refine wpB_done (by kernel_rfl) ?_ _
            intro W hW; have k1 := hW
            have B3 := BP.trans (k1.mono BP.size)
            clear xm0 xm1 zWp0 fWp0 yWp0_0 yWp0_1 eWp BWp BP y0 y1
            go_wp2_with fail
            go_roundg (n - (k + 1))
            case measure => have := HGK.out; omega
            case rel => exact ⟨k + 1, by omega, rfl, by go_num, by rw [E2.out], B3⟩
        · have hkn : n = k := by omega
          subst hkn
          go_wp2_with fail
          refine (KT.out wo (hb2.trans (hB.mono hb2.size))).mono ?_; rintro e w3 ⟨A3, c3, rfl, q1, q2, hb3, q3⟩
          go_wp2_with fail
          go_ret2
          exact retL_of_P (hb2.trans (hB.mono hb2.size)) q1 q2 hb3 q3
  · have hgf := goodB_false hg
    rw [hgf, gi_false] at K
    rw [hgf]
    clear hgf hg hR
    go_enter Try.func28, Try.ntmps28
    go_wp2_with fail
    refine K.out.mono ?_; rintro e w1 ⟨rfl, hb1⟩
    go_wp2_with fail
    go_ret2
    exact retL_nil hb1
end Go.Proofs.Ytjkfdcjfoliboaa
