/- joined: Ws1 MS Rn -/
import Derived.Test.YtheddoinnakneaaZSupportOf4
import Derived.Test.YtheddoinnakneaaRows
import Derived.Deep.Draws
import Derived.Shelf.SlicesE.Clone
import Derived.Shelf.SlSortCmp.NoneTotal
/- contract: SupportOf, the model -/
namespace Go.Proofs.Ytheddoinnakneaa
open Go.ChangeShapes Go.WideShapes Go.ChangeAt Go.RowKit Go.Joins
set_option linter.unusedVariables false
set_option linter.unusedSimpArgs false
set_option maxRecDepth 4000
set_option maxHeartbeats 16000000 in
theorem specSupportOf_any (A : Option Addr) (c : Nat) (l : List (Int × Int)) (u v : Int) (w : World) (hn : l.length ≤ 1048576) (hcap : l.length ≤ c) (hc2 : c ≤ 9223372036854775807) (hR : Rd w w.heap.size A l) :
    Calls Try.prog 43 #[.slice A l.length c, .int .i64 u, .int .i64 v] w (RetL w (supP l u v) (okW l u v)) := by
  have K := Lib.hid (wiAsked_any A c l u v w hn hcap hc2 hR)
  cases hk : okW l u v
  · rw [show supP l u v = [] from by unfold supP; rw [hk]; rfl]
    rw [hk] at K
    clear hk hR
    go_enter Try.func43, Try.ntmps43
    go_wp2_with fail
    refine K.out.mono ?_; rintro e w1 ⟨rfl, hb1⟩
    go_wp2_with fail
    go_ret2
    exact retL_nil hb1
  · have hk2 : goodB l = true ∧ dirB u v = true := by unfold okW at hk; simpa using hk
    obtain ⟨a1, a2, a3, a4, _⟩ := dirB_t hk2.2
    have hg : Good l := by unfold goodB at hk2; simpa using hk2.1
    have hf := hg.few
    have KR := Lib.hid (fun W (hb : Below w.heap.size w W) => wiRange_any A c l u v W (by omega) (by omega) (by omega) (by omega) hg (rd_more (rd_below hR hb (Nat.le_refl _)) hb.size))
    rw [show supP l u v = supK l u v (hiW l u v l.length) l.length from by unfold supP; rw [if_pos hk]]
    rw [hk] at K
    have HV := Lib.hid (fun i (hi : i < l.length) => vlu_parts (u := u) (v := v) (by omega) (by omega) (by omega) (by omega) (hg.pegs i hi))
    obtain ⟨b, off, rfl, hb, HC⟩ := pts_of (by omega) hR
    have hnd := good_nodup hg
    have hhi := (lohi_bd (u := u) (v := v) (by omega) (by omega) (by omega) (by omega) hg.pegs (by omega) l.length (Nat.le_refl _)).2.1
    generalize hiW l u v l.length = hi at *
    obtain ⟨hhi1, hhi2⟩ := hhi
    generalize loW l u v l.length = lo at *
    have HYes := Lib.hid (fun k (hk : k < l.length) h => supK_yes (u := u) (v := v) (h := hi) hk h)
    have HNo := Lib.hid (fun k (hk : k < l.length) h => supK_no (u := u) (v := v) (h := hi) hk h)
    have HLe := Lib.hid (fun k => supK_len l u v hi k)
    have HSo := Lib.hid (fun k => supK_sorted hnd u v hi k)
    have HNew := Lib.hid (fun k (hk : k < l.length) => supK_new hnd u v hi hk)
    have H0 : Hid (supK l u v hi 0 = []) := Lib.hid rfl
    obtain ⟨i0, hi0, hz0, hz1, hz2⟩ := info_parts peg_info
    have HI := Lib.hid (And.intro hi0 (And.intro hz0 (And.intro hz1 hz2)))
    have HRT : Hid (∀ vv w1 W, W.ownsRow w1.heap.size 56 2 vv (supK l u v hi l.length).length (flat (supK l u v hi l.length)) → Below w.heap.size w w1 → Below w1.heap.size w1 W → RetL w (supK l u v hi l.length) true (.returned (.tuple #[vv, .bool true])) W) := Lib.hid (fun vv w1 W h hb1 hb => by
      obtain ⟨A', c', rfl, g1, g2, g3⟩ := rw_of_own h
      exact retL_of_P hb1 g1 g2 hb g3)
    clear hk hk2 hR hg hnd hi0 hz0 hz1 hz2 a1 a2 a3 a4
    generalize supK l u v hi = S at *
    have HLEQ := Lib.hid (show l.length = l.length from rfl)
    generalize hN : l.length = n at *
    clear hN HLEQ
    go_enter Try.func43, Try.ntmps43
    go_wp2_with fail
    refine K.out.mono ?_; rintro e w0 ⟨rfl, hb0⟩
    go_wp2_with fail
    refine (KR.out _ hb0).mono ?_; rintro e w1 ⟨rfl, hb1⟩
    have B1 := hb0.trans (hb1.mono hb0.size)
    clear hb0 hb1 K KR
    go_wp2_with fail
    go_loopg [10, 29] n (fun g s i wr => ∃ (k : Nat) (v : Value), s = v ∧ k ≤ n ∧ g = n - k ∧ i = .int .i64 k ∧ Below w1.heap.size w1 wr ∧ Hid (wr.ownsRow w1.heap.size 56 2 v (S k).length (flat (S k))))
    case atStart => exact ⟨0, _, rfl, Nat.zero_le _, rfl, rfl, Below.refl _ _, Lib.hid (by rw [H0.out]; exact World.ownsRow_nil w1 w1.heap.size _ _)⟩
    case round =>
      obtain ⟨k, vv, rfl, hk, hg, rfl, hB, hO⟩ := hrel
      rename World => wo
      have HGK := Lib.hid hg
      clear hg
      have BO := B1.trans (hB.mono B1.size)
      have hbo : b < wo.heap.size := by have := BO.size; omega
      by_cases hlt : k < n
      · obtain ⟨hq1, hq2⟩ := HC.out wo BO k hlt
        obtain ⟨⟨g1, g2⟩, g3, g4⟩ := HV.out k hlt
        have HY1 := Lib.hid (HYes.out k hlt)
        have HN1 := Lib.hid (HNo.out k hlt)
        have HNw := Lib.hid (HNew.out k hlt)
        have HSS := Lib.hid (HSo.out k)
        have hle := HLe.out k
        obtain ⟨p1, p2, hpe⟩ : ∃ p1 p2, vx l k = (p1, p2) := ⟨_, _, rfl⟩
        rw [hpe] at hq1 hq2 g1 g2 g3 g4 HY1 HN1 HNw
        simp only [vlu] at hq1 hq2 g1 g2 g3 g4 HY1 HN1
        have e0 : IntKind.i64.wrap (u * p1) = u * p1 := IntWalk.i64_in _ (by omega)
        have e1 : IntKind.i64.wrap (v * p2) = v * p2 := IntWalk.i64_in _ (by omega)
        have e2 : IntKind.i64.wrap (u * p1 + v * p2) = u * p1 + v * p2 := IntWalk.i64_in _ (by omega)
        obtain ⟨s, hs⟩ : ∃ s, s = S k := ⟨_, rfl⟩
        obtain ⟨m2, hm2⟩ : ∃ s, s = S (k + 1) := ⟨_, rfl⟩
        have HM2 := Lib.hid hm2.symm
        rw [← hs] at HY1 HN1 HNw HSS hO hle
        rw [← hm2] at HY1 HN1
        clear hs hm2 hpe g1 g2 g3 g4
        by_cases hval : u * p1 + v * p2 = hi
        rotate_left
        · have HE2 := Lib.hid (HN1.out hval)
          clear HY1 HN1 HNw HSS
          go_wp2_with fail
          obtain ⟨Wp, hWp⟩ : ∃ Wp, Wp = (wo.alloc (.cells #[.int .i64 p1, .int .i64 p2] 56)) := ⟨_, rfl⟩
          rw [← hWp]
          have yWp0_0 : Wp.cell? ⟨wo.heap.size, 0, none⟩ = some (.int .i64 p1) := by rw [hWp]; go_simp
          have yWp0_1 : Wp.cell? ⟨wo.heap.size, 1, none⟩ = some (.int .i64 p2) := by rw [hWp]; go_simp
          have fWp0 : ∀ o, Wp.frozen? ⟨wo.heap.size, o, none⟩ = false := by intro o; rw [hWp]; (repeat rw [frozen?_alloc_cells]); simp [World.frozen?]
          have zWp0 : wo.heap.size < Wp.heap.size := by rw [hWp]; simp <;> omega
          have BWp : Below wo.heap.size wo Wp := by rw [hWp]; exact (Below.alloc (Below.refl _ _) (by simp <;> omega) _)
          have eWp : Hid (Wp.heap.size = wo.heap.size + 1) := Lib.hid (by rw [hWp]; simp)
          clear hWp
          have BZ := hB.trans (BWp.mono hB.size)
          go_roundg (n - (k + 1))
          case measure => have := HGK.out; omega
          case rel => exact ⟨k + 1, _, rfl, by omega, rfl, by go_num, BZ, Lib.hid (by rw [HM2.out, HE2.out]; exact ownB hO.out BWp (Nat.le_refl _))⟩
        · have HSTEP := Lib.hid (HY1.out hval)
          clear HY1 HN1
          obtain ⟨r, hr⟩ : ∃ r, r = s.length := ⟨_, rfl⟩
          have HLEN := Lib.hid hr.symm
          have HLM : Hid (m2.length = r + 1) := Lib.hid (by rw [HSTEP.out, ins_len, hr])
          rw [← hr] at hO hle
          clear hr
          rcases own_val hO.out with ⟨hv, hk0⟩ | ⟨g, cap, hv, hkc, hcm, hgl, hgw⟩
          · subst hv
            subst hk0
            have hsn : s = [] := List.eq_nil_of_length_eq_zero HLEN.out
            go_upto_block 2 with fail
            obtain ⟨Wp, hWp⟩ : ∃ Wp, Wp = (wo.alloc (.cells #[.int .i64 p1, .int .i64 p2] 56)) := ⟨_, rfl⟩
            rw [← hWp]
            have yWp0_0 : Wp.cell? ⟨wo.heap.size, 0, none⟩ = some (.int .i64 p1) := by rw [hWp]; go_simp
            have yWp0_1 : Wp.cell? ⟨wo.heap.size, 1, none⟩ = some (.int .i64 p2) := by rw [hWp]; go_simp
            have fWp0 : ∀ o, Wp.frozen? ⟨wo.heap.size, o, none⟩ = false := by intro o; rw [hWp]; (repeat rw [frozen?_alloc_cells]); simp [World.frozen?]
            have zWp0 : wo.heap.size < Wp.heap.size := by rw [hWp]; simp <;> omega
            have BWp : Below wo.heap.size wo Wp := by rw [hWp]; exact (Below.alloc (Below.refl _ _) (by simp <;> omega) _)
            have eWp : Hid (Wp.heap.size = wo.heap.size + 1) := Lib.hid (by rw [hWp]; simp)
            clear hWp
            go_cut [13] (fun q wx => q = .int .i64 0 ∧ Below Wp.heap.size Wp wx)
            case first =>
              go_wp2_with fail
              go_loopg [13] 0 (fun g2 q wr => g2 = 0 ∧ q = .int .i64 0 ∧ Below Wp.heap.size Wp wr)
              case atStart => exact ⟨rfl, rfl, Below.refl _ _⟩
              case round =>
                obtain ⟨hg2, rfl, hBi⟩ := hrel
                go_wp2_with fail
                refine wp_region_B (fun W => Below Wp.heap.size Wp W) (by kernel_rfl) (by first | exact hBi | exact hBi.drew) ?_
                first | refine wpB_skip 0 rfl (by kernel_rfl) (by kernel_rfl) (by kernel_rfl) (by rfl) ?_ | (refine wpB_text 0 (v := ?_) rfl (by kernel_rfl) (by kernel_rfl) (by kernel_rfl) (by rfl) (fun W hW => ?_) ?_; rotate_left; (have k1 := hW; obtain ⟨hc1, hf1⟩ := bcell k1; go_simp; refine comes_v ?_; exact k1))
                (try simp only [Act.put, List.setIfInBounds_toArray, List.set_cons_zero, List.set_cons_succ])
                first | refine wpB_skip 1 rfl (by kernel_rfl) (by kernel_rfl) (by kernel_rfl) (by rfl) ?_ | (refine wpB_text 1 (v := ?_) rfl (by kernel_rfl) (by kernel_rfl) (by kernel_rfl) (by rfl) (fun W hW => ?_) ?_; rotate_left; (have k1 := hW; obtain ⟨hc1, hf1⟩ := bcell k1; go_simp; refine comes_v ?_; exact k1))
                (try simp only [Act.put, List.setIfInBounds_toArray, List.set_cons_zero, List.set_cons_succ])
                first | refine wpB_skip 2 rfl (by kernel_rfl) (by kernel_rfl) (by kernel_rfl) (by rfl) ?_ | (refine wpB_text 2 (v := ?_) rfl (by kernel_rfl) (by kernel_rfl) (by kernel_rfl) (by rfl) (fun W hW => ?_) ?_; rotate_left; (have k1 := hW; obtain ⟨hc1, hf1⟩ := bcell k1; go_simp; refine comes_v ?_; exact k1))
                (try simp only [Act.put, List.setIfInBounds_toArray, List.set_cons_zero, List.set_cons_succ])
                first | refine wpB_skip 3 rfl (by kernel_rfl) (by kernel_rfl) (by kernel_rfl) (by rfl) ?_ | (refine wpB_text 3 (v := ?_) rfl (by kernel_rfl) (by kernel_rfl) (by kernel_rfl) (by rfl) (fun W hW => ?_) ?_; rotate_left; (have k1 := hW; obtain ⟨hc1, hf1⟩ := bcell k1; go_simp; refine comes_v ?_; exact k1))
                (try simp only [Act.put, List.setIfInBounds_toArray, List.set_cons_zero, List.set_cons_succ])
                first | refine wpB_skip 4 rfl (by kernel_rfl) (by kernel_rfl) (by kernel_rfl) (by rfl) ?_ | (refine wpB_text 4 (v := ?_) rfl (by kernel_rfl) (by kernel_rfl) (by kernel_rfl) (by rfl) (fun W hW => ?_) ?_; rotate_left; (have k1 := hW; obtain ⟨hc1, hf1⟩ := bcell k1; go_simp; refine comes_v ?_; exact k1))
                (try simp only [Act.put, List.setIfInBounds_toArray, List.set_cons_zero, List.set_cons_succ])
                first | refine wpB_skip 5 rfl (by kernel_rfl) (by kernel_rfl) (by kernel_rfl) (by rfl) ?_ | (refine wpB_text 5 (v := ?_) rfl (by kernel_rfl) (by kernel_rfl) (by kernel_rfl) (by rfl) (fun W hW => ?_) ?_; rotate_left; (have k1 := hW; obtain ⟨hc1, hf1⟩ := bcell k1; go_simp; refine comes_v ?_; exact k1))
                (try simp only [Act.put, List.setIfInBounds_toArray, List.set_cons_zero, List.set_cons_succ])
                first | refine wpB_skip 6 rfl (by kernel_rfl) (by kernel_rfl) (by kernel_rfl) (by rfl) ?_ | (refine wpB_text 6 (v := ?_) rfl (by kernel_rfl) (by kernel_rfl) (by kernel_rfl) (by rfl) (fun W hW => ?_) ?_; rotate_left; (have k1 := hW; obtain ⟨hc1, hf1⟩ := bcell k1; go_simp; refine comes_v ?_; exact k1))
                (try simp only [Act.put, List.setIfInBounds_toArray, List.set_cons_zero, List.set_cons_succ])
                first | refine wpB_skip 7 rfl (by kernel_rfl) (by kernel_rfl) (by kernel_rfl) (by rfl) ?_ | (refine wpB_text 7 (v := ?_) rfl (by kernel_rfl) (by kernel_rfl) (by kernel_rfl) (by rfl) (fun W hW => ?_) ?_; rotate_left; (have k1 := hW; obtain ⟨hc1, hf1⟩ := bcell k1; go_simp; refine comes_v ?_; exact k1))
                (try simp only [Act.put, List.setIfInBounds_toArray, List.set_cons_zero, List.set_cons_succ])
                first | refine wpB_skip 8 rfl (by kernel_rfl) (by kernel_rfl) (by kernel_rfl) (by rfl) ?_ | (refine wpB_text 8 (v := ?_) rfl (by kernel_rfl) (by kernel_rfl) (by kernel_rfl) (by rfl) (fun W hW => ?_) ?_; rotate_left; (have k1 := hW; obtain ⟨hc1, hf1⟩ := bcell k1; go_simp; refine comes_v ?_; exact k1))
                (try simp only [Act.put, List.setIfInBounds_toArray, List.set_cons_zero, List.set_cons_succ])
                first | refine wpB_skip 9 rfl (by kernel_rfl) (by kernel_rfl) (by kernel_rfl) (by rfl) ?_ | (refine wpB_text 9 (v := ?_) rfl (by kernel_rfl) (by kernel_rfl) (by kernel_rfl) (by rfl) (fun W hW => ?_) ?_; rotate_left; (have k1 := hW; obtain ⟨hc1, hf1⟩ := bcell k1; go_simp; refine comes_v ?_; exact k1))
                (try simp only [Act.put, List.setIfInBounds_toArray, List.set_cons_zero, List.set_cons_succ])
                first | refine wpB_skip 10 rfl (by kernel_rfl) (by kernel_rfl) (by kernel_rfl) (by rfl) ?_ | (refine wpB_text 10 (v := ?_) rfl (by kernel_rfl) (by kernel_rfl) (by kernel_rfl) (by rfl) (fun W hW => ?_) ?_; rotate_left; (have k1 := hW; obtain ⟨hc1, hf1⟩ := bcell k1; go_simp; refine comes_v ?_; exact k1))
                (try simp only [Act.put, List.setIfInBounds_toArray, List.set_cons_zero, List.set_cons_succ])
                refine wpB_done (by kernel_rfl) ?_ _
                intro W hW; have k1 := hW
                go_wp2_with fail
                go_meet
                case rel => exact ⟨rfl, k1⟩
            case rest =>
              obtain ⟨rfl, BC⟩ := hcut
              rename World => wy
              have hp5 : wo.heap.size < wy.heap.size := Nat.lt_of_lt_of_le zWp0 BC.size
              have x0 := ((bcell BC).1 _ 0 zWp0).trans yWp0_0
              have x1 := ((bcell BC).1 _ 1 zWp0).trans yWp0_1
              have BY := hB.trans ((BWp.mono hB.size).trans (BC.mono (Nat.le_trans hB.size BWp.size)))
              have hwx := BY.size
              have hj0 : flat (s.take 0) = [] := rfl
              obtain ⟨j, hj⟩ : ∃ j, j = 0 := ⟨_, rfl⟩
              go_upto_region 12 with fail
              go_cut [14] (fun q wx => ∃ v, v = q ∧ Hid (wx.ownsRow wy.heap.size 56 2 v (0 + 0 + 1) ([] ++ flat (s.take 0) ++ [.int .i64 p1, .int .i64 p2])) ∧ Below wy.heap.size wy wx)
              case first =>
                refine wp_region_any (by kernel_rfl) ?_
                change wpAny _ _ _ _ _ _ _ (World.drew _)
                have BB : Below wy.heap.size wy wy.drew := (Below.refl _ _).drew
                generalize wy.drew = W0 at BB ⊢
                refine wpAny_take (i := 1) (v := .slice none 0 0) rfl (by kernel_rfl) (by kernel_rfl) (by kernel_rfl) (fun _ _ _ h => h) (Or.inl ⟨by rfl, fun W => by first | rfl | (go_simp; try (intro h; omega))⟩) ?_
                (try simp only [List.getElem_toArray, List.getElem_cons_zero, List.getElem_cons_succ, Act.put, List.setIfInBounds_toArray, List.set_cons_zero, List.set_cons_succ])
                refine wpAny_take (i := 2) (v := .int .i64 0) rfl (by kernel_rfl) (by kernel_rfl) (by kernel_rfl) (fun _ _ _ h => h) (Or.inl ⟨by rfl, fun W => by first | rfl | (go_simp; try (intro h; omega))⟩) ?_
                (try simp only [List.getElem_toArray, List.getElem_cons_zero, List.getElem_cons_succ, Act.put, List.setIfInBounds_toArray, List.set_cons_zero, List.set_cons_succ])
                refine wpAny_take (i := 3) (v := .slice none 0 0) rfl (by kernel_rfl) (by kernel_rfl) (by kernel_rfl) (fun _ _ _ h => h) (Or.inl ⟨by rfl, fun W => by first | rfl | (go_simp; try (intro h; omega))⟩) ?_
                (try simp only [List.getElem_toArray, List.getElem_cons_zero, List.getElem_cons_succ, Act.put, List.setIfInBounds_toArray, List.set_cons_zero, List.set_cons_succ])
                refine wpAny_all (rs := [0, 5]) (by kernel_rfl) (by simp) (fun i hi => ?_)
                rcases (by simpa using hi : i = 0 ∨ i = 5) with rfl | rfl
                · refine wpOp_val (v := .slice (some ⟨W0.heap.size, 0, none⟩) 0 0) (w' := W0.alloc (.cells #[] 56)) rfl (by rfl) (by go_simp) ?_
                  have own28 : (W0.alloc (.cells #[] 56)).ownsRow wy.heap.size 56 2 (.slice (some ⟨W0.heap.size, 0, none⟩) 0 0) 0 [] := World.ownsRow_lit W0 #[] 0 BB.size (by decide) rfl
                  have hn28 : wy.heap.size ≤ W0.heap.size := BB.size
                  have BB := Below.alloc BB BB.size (.cells #[] 56)
                  have zn : W0.heap.size < (W0.alloc (.cells #[] 56)).heap.size := by simp
                  (try simp only [List.getElem_toArray, List.getElem_cons_zero, List.getElem_cons_succ, Act.put, List.setIfInBounds_toArray, List.set_cons_zero, List.set_cons_succ])
                  generalize W0.alloc (.cells #[] 56) = W1 at *
                  generalize W0.heap.size = b28 at own28 hn28 zn ⊢
                  refine wpAny_all (rs := [4, 5]) (by kernel_rfl) (by simp) (fun i hi => ?_)
                  rcases (by simpa using hi : i = 4 ∨ i = 5) with rfl | rfl
                  · refine wpOp_left rfl (by rfl) (wp_append_none (.tmp 59) (.tmp 62) 26 rfl wy.heap.size 56 i0 2 Try.underlying26 HI.out.1 _ 0 [] rfl own28 rfl ?_)
                    obtain ⟨v32, hv32⟩ : ∃ v, v = Value.slice (some ⟨b28, 0, none⟩) 0 0 := ⟨_, rfl⟩
                    rw [← hv32]
                    rw [← hv32] at own28
                    have own32 : W1.ownsRow wy.heap.size 56 2 v32 (0 + 0) ([] ++ flat (s.take 0)) := own28
                    (try simp only [List.getElem_toArray, List.getElem_cons_zero, List.getElem_cons_succ, Act.put, List.setIfInBounds_toArray, List.set_cons_zero, List.set_cons_succ])
                    refine wpAny_all (rs := [5]) (by kernel_rfl) (by simp) (fun i hi => ?_)
                    obtain rfl : i = 5 := by simpa using hi
                    refine wpOp_val (v := .agg #[.int .i64 p1, .int .i64 p2]) (w' := W1) rfl (by rfl) (by first | (have e0 := (bcell BB).1 _ 0 hp5; have e1 := (bcell BB).1 _ 1 hp5; rw [x0] at e0; rw [x1] at e1; go_simp) | go_simp) ?_
                    (try simp only [List.getElem_toArray, List.getElem_cons_zero, List.getElem_cons_succ, Act.put, List.setIfInBounds_toArray, List.set_cons_zero, List.set_cons_succ])
                    refine wpAny_all (rs := [6]) (by kernel_rfl) (by simp) (fun i hi => ?_)
                    obtain rfl : i = 6 := by simpa using hi
                    refine wpOp_val (v := .slice (some ⟨W1.heap.size, 0, none⟩) 1 1) (w' := W1.alloc (.cells #[.int .i64 p1, .int .i64 p2] 56)) rfl (by rfl) (by go_simp) ?_
                    have cp0 : (W1.alloc (.cells #[.int .i64 p1, .int .i64 p2] 56)).cell? ⟨W1.heap.size, 0, none⟩ = some (.int .i64 p1) := by go_simp
                    have cp1 : (W1.alloc (.cells #[.int .i64 p1, .int .i64 p2] 56)).cell? ⟨W1.heap.size, 1, none⟩ = some (.int .i64 p2) := by go_simp
                    have zp : W1.heap.size < (W1.alloc (.cells #[.int .i64 p1, .int .i64 p2] 56)).heap.size := by simp
                    have own32 := own32.alloc (.cells #[.int .i64 p1, .int .i64 p2] 56)
                    have BB := Below.alloc BB BB.size (.cells #[.int .i64 p1, .int .i64 p2] 56)
                    (try simp only [List.getElem_toArray, List.getElem_cons_zero, List.getElem_cons_succ, Act.put, List.setIfInBounds_toArray, List.set_cons_zero, List.set_cons_succ])
                    generalize W1.alloc (.cells #[.int .i64 p1, .int .i64 p2] 56) = W4 at *
                    generalize W1.heap.size = b34 at cp0 cp1 zp ⊢
                    refine wpAny_all (rs := [7]) (by kernel_rfl) (by simp) (fun i hi => ?_)
                    obtain rfl : i = 7 := by simpa using hi
                    refine wpOp_left rfl (by rfl) (wp_append_own _ (.tmp 63) (.tmp 65) 26 rfl wy.heap.size 56 i0 (.agg #[.int .i64 0, .int .i64 0]) 2 16 Try.underlying26 HI.out.1 HI.out.2.1 HI.out.2.2.1 HI.out.2.2.2 rfl (by decide) v32 (0 + 0) ([] ++ flat (s.take 0)) rfl own32 ⟨b34, 0, none⟩ 1 1 [.int .i64 p1, .int .i64 p2] rfl rfl (two_cells cp0 cp1) (two_one _ _) (by unfold maxLen; omega) (by omega) BB.size ?_)
                    intro v35 w8 own35 hgr8 _
                    have BE := BB.grown hgr8 BB.size (fun g hg => (World.ownsRow.lt own32 g hg).1)
                    (try simp only [List.getElem_toArray, List.getElem_cons_zero, List.getElem_cons_succ, Act.put, List.setIfInBounds_toArray, List.set_cons_zero, List.set_cons_succ])
                    refine wpAny_all (rs := [8]) (by kernel_rfl) (by simp) (fun i hi => ?_)
                    obtain rfl : i = 8 := by simpa using hi
                    refine wpOp_val (v := v35) (w' := w8) rfl (by rfl) (by first | rfl | go_simp) ?_
                    (try simp only [List.getElem_toArray, List.getElem_cons_zero, List.getElem_cons_succ, Act.put, List.setIfInBounds_toArray, List.set_cons_zero, List.set_cons_succ])
                    refine wpAny_done (by kernel_rfl) ?_ _
                    go_wp2_with fail
                    go_meet
                    case rel => exact ⟨v35, rfl, Lib.hid own35, BE⟩
                  · refine wpOp_val (v := .agg #[.int .i64 p1, .int .i64 p2]) (w' := W1) rfl (by rfl) (by first | (have e0 := (bcell BB).1 _ 0 hp5; have e1 := (bcell BB).1 _ 1 hp5; rw [x0] at e0; rw [x1] at e1; go_simp) | go_simp) ?_
                    (try simp only [List.getElem_toArray, List.getElem_cons_zero, List.getElem_cons_succ, Act.put, List.setIfInBounds_toArray, List.set_cons_zero, List.set_cons_succ])
                    refine wpAny_all (rs := [4, 6]) (by kernel_rfl) (by simp) (fun i hi => ?_)
                    rcases (by simpa using hi : i = 4 ∨ i = 6) with rfl | rfl
                    · refine wpOp_left rfl (by rfl) (wp_append_none (.tmp 59) (.tmp 62) 26 rfl wy.heap.size 56 i0 2 Try.underlying26 HI.out.1 _ 0 [] rfl own28 rfl ?_)
                      obtain ⟨v32, hv32⟩ : ∃ v, v = Value.slice (some ⟨b28, 0, none⟩) 0 0 := ⟨_, rfl⟩
                      rw [← hv32]
                      rw [← hv32] at own28
                      have own32 : W1.ownsRow wy.heap.size 56 2 v32 (0 + 0) ([] ++ flat (s.take 0)) := own28
                      (try simp only [List.getElem_toArray, List.getElem_cons_zero, List.getElem_cons_succ, Act.put, List.setIfInBounds_toArray, List.set_cons_zero, List.set_cons_succ])
                      refine wpAny_all (rs := [6]) (by kernel_rfl) (by simp) (fun i hi => ?_)
                      obtain rfl : i = 6 := by simpa using hi
                      refine wpOp_val (v := .slice (some ⟨W1.heap.size, 0, none⟩) 1 1) (w' := W1.alloc (.cells #[.int .i64 p1, .int .i64 p2] 56)) rfl (by rfl) (by go_simp) ?_
                      have cp0 : (W1.alloc (.cells #[.int .i64 p1, .int .i64 p2] 56)).cell? ⟨W1.heap.size, 0, none⟩ = some (.int .i64 p1) := by go_simp
                      have cp1 : (W1.alloc (.cells #[.int .i64 p1, .int .i64 p2] 56)).cell? ⟨W1.heap.size, 1, none⟩ = some (.int .i64 p2) := by go_simp
                      have zp : W1.heap.size < (W1.alloc (.cells #[.int .i64 p1, .int .i64 p2] 56)).heap.size := by simp
                      have own32 := own32.alloc (.cells #[.int .i64 p1, .int .i64 p2] 56)
                      have BB := Below.alloc BB BB.size (.cells #[.int .i64 p1, .int .i64 p2] 56)
                      (try simp only [List.getElem_toArray, List.getElem_cons_zero, List.getElem_cons_succ, Act.put, List.setIfInBounds_toArray, List.set_cons_zero, List.set_cons_succ])
                      generalize W1.alloc (.cells #[.int .i64 p1, .int .i64 p2] 56) = W4 at *
                      generalize W1.heap.size = b34 at cp0 cp1 zp ⊢
                      refine wpAny_all (rs := [7]) (by kernel_rfl) (by simp) (fun i hi => ?_)
                      obtain rfl : i = 7 := by simpa using hi
                      refine wpOp_left rfl (by rfl) (wp_append_own _ (.tmp 63) (.tmp 65) 26 rfl wy.heap.size 56 i0 (.agg #[.int .i64 0, .int .i64 0]) 2 16 Try.underlying26 HI.out.1 HI.out.2.1 HI.out.2.2.1 HI.out.2.2.2 rfl (by decide) v32 (0 + 0) ([] ++ flat (s.take 0)) rfl own32 ⟨b34, 0, none⟩ 1 1 [.int .i64 p1, .int .i64 p2] rfl rfl (two_cells cp0 cp1) (two_one _ _) (by unfold maxLen; omega) (by omega) BB.size ?_)
                      intro v35 w8 own35 hgr8 _
                      have BE := BB.grown hgr8 BB.size (fun g hg => (World.ownsRow.lt own32 g hg).1)
                      (try simp only [List.getElem_toArray, List.getElem_cons_zero, List.getElem_cons_succ, Act.put, List.setIfInBounds_toArray, List.set_cons_zero, List.set_cons_succ])
                      refine wpAny_all (rs := [8]) (by kernel_rfl) (by simp) (fun i hi => ?_)
                      obtain rfl : i = 8 := by simpa using hi
                      refine wpOp_val (v := v35) (w' := w8) rfl (by rfl) (by first | rfl | go_simp) ?_
                      (try simp only [List.getElem_toArray, List.getElem_cons_zero, List.getElem_cons_succ, Act.put, List.setIfInBounds_toArray, List.set_cons_zero, List.set_cons_succ])
                      refine wpAny_done (by kernel_rfl) ?_ _
                      go_wp2_with fail
                      go_meet
                      case rel => exact ⟨v35, rfl, Lib.hid own35, BE⟩
                    · refine wpOp_val (v := .slice (some ⟨W1.heap.size, 0, none⟩) 1 1) (w' := W1.alloc (.cells #[.int .i64 p1, .int .i64 p2] 56)) rfl (by rfl) (by go_simp) ?_
                      have cp0 : (W1.alloc (.cells #[.int .i64 p1, .int .i64 p2] 56)).cell? ⟨W1.heap.size, 0, none⟩ = some (.int .i64 p1) := by go_simp
                      have cp1 : (W1.alloc (.cells #[.int .i64 p1, .int .i64 p2] 56)).cell? ⟨W1.heap.size, 1, none⟩ = some (.int .i64 p2) := by go_simp
                      have zp : W1.heap.size < (W1.alloc (.cells #[.int .i64 p1, .int .i64 p2] 56)).heap.size := by simp
                      have own28 := own28.alloc (.cells #[.int .i64 p1, .int .i64 p2] 56)
                      have hne : W1.heap.size ≠ b28 := Nat.ne_of_gt zn
                      have zn := Nat.lt_trans zn zp
                      have BB := Below.alloc BB BB.size (.cells #[.int .i64 p1, .int .i64 p2] 56)
                      (try simp only [List.getElem_toArray, List.getElem_cons_zero, List.getElem_cons_succ, Act.put, List.setIfInBounds_toArray, List.set_cons_zero, List.set_cons_succ])
                      generalize W1.alloc (.cells #[.int .i64 p1, .int .i64 p2] 56) = W3 at *
                      generalize W1.heap.size = b34 at cp0 cp1 zp hne ⊢
                      refine wpAny_all (rs := [4]) (by kernel_rfl) (by simp) (fun i hi => ?_)
                      obtain rfl : i = 4 := by simpa using hi
                      refine wpOp_left rfl (by rfl) (wp_append_none (.tmp 59) (.tmp 62) 26 rfl wy.heap.size 56 i0 2 Try.underlying26 HI.out.1 _ 0 [] rfl own28 rfl ?_)
                      obtain ⟨v32, hv32⟩ : ∃ v, v = Value.slice (some ⟨b28, 0, none⟩) 0 0 := ⟨_, rfl⟩
                      rw [← hv32]
                      rw [← hv32] at own28
                      have own32 : W3.ownsRow wy.heap.size 56 2 v32 (0 + 0) ([] ++ flat (s.take 0)) := own28
                      (try simp only [List.getElem_toArray, List.getElem_cons_zero, List.getElem_cons_succ, Act.put, List.setIfInBounds_toArray, List.set_cons_zero, List.set_cons_succ])
                      refine wpAny_all (rs := [7]) (by kernel_rfl) (by simp) (fun i hi => ?_)
                      obtain rfl : i = 7 := by simpa using hi
                      refine wpOp_left rfl (by rfl) (wp_append_own _ (.tmp 63) (.tmp 65) 26 rfl wy.heap.size 56 i0 (.agg #[.int .i64 0, .int .i64 0]) 2 16 Try.underlying26 HI.out.1 HI.out.2.1 HI.out.2.2.1 HI.out.2.2.2 rfl (by decide) v32 (0 + 0) ([] ++ flat (s.take 0)) rfl own32 ⟨b34, 0, none⟩ 1 1 [.int .i64 p1, .int .i64 p2] rfl rfl (two_cells cp0 cp1) (two_one _ _) (by unfold maxLen; omega) (by omega) BB.size ?_)
                      intro v35 w8 own35 hgr8 _
                      have BE := BB.grown hgr8 BB.size (fun g hg => (World.ownsRow.lt own32 g hg).1)
                      (try simp only [List.getElem_toArray, List.getElem_cons_zero, List.getElem_cons_succ, Act.put, List.setIfInBounds_toArray, List.set_cons_zero, List.set_cons_succ])
                      refine wpAny_all (rs := [8]) (by kernel_rfl) (by simp) (fun i hi => ?_)
                      obtain rfl : i = 8 := by simpa using hi
                      refine wpOp_val (v := v35) (w' := w8) rfl (by rfl) (by first | rfl | go_simp) ?_
                      (try simp only [List.getElem_toArray, List.getElem_cons_zero, List.getElem_cons_succ, Act.put, List.setIfInBounds_toArray, List.set_cons_zero, List.set_cons_succ])
                      refine wpAny_done (by kernel_rfl) ?_ _
                      go_wp2_with fail
                      go_meet
                      case rel => exact ⟨v35, rfl, Lib.hid own35, BE⟩
                · refine wpOp_val (v := .agg #[.int .i64 p1, .int .i64 p2]) (w' := W0) rfl (by rfl) (by first | (have e0 := (bcell BB).1 _ 0 hp5; have e1 := (bcell BB).1 _ 1 hp5; rw [x0] at e0; rw [x1] at e1; go_simp) | go_simp) ?_
                  (try simp only [List.getElem_toArray, List.getElem_cons_zero, List.getElem_cons_succ, Act.put, List.setIfInBounds_toArray, List.set_cons_zero, List.set_cons_succ])
                  refine wpAny_all (rs := [0, 6]) (by kernel_rfl) (by simp) (fun i hi => ?_)
                  rcases (by simpa using hi : i = 0 ∨ i = 6) with rfl | rfl
                  · refine wpOp_val (v := .slice (some ⟨W0.heap.size, 0, none⟩) 0 0) (w' := W0.alloc (.cells #[] 56)) rfl (by rfl) (by go_simp) ?_
                    have own28 : (W0.alloc (.cells #[] 56)).ownsRow wy.heap.size 56 2 (.slice (some ⟨W0.heap.size, 0, none⟩) 0 0) 0 [] := World.ownsRow_lit W0 #[] 0 BB.size (by decide) rfl
                    have hn28 : wy.heap.size ≤ W0.heap.size := BB.size
                    have BB := Below.alloc BB BB.size (.cells #[] 56)
                    have zn : W0.heap.size < (W0.alloc (.cells #[] 56)).heap.size := by simp
                    (try simp only [List.getElem_toArray, List.getElem_cons_zero, List.getElem_cons_succ, Act.put, List.setIfInBounds_toArray, List.set_cons_zero, List.set_cons_succ])
                    generalize W0.alloc (.cells #[] 56) = W2 at *
                    generalize W0.heap.size = b28 at own28 hn28 zn ⊢
                    refine wpAny_all (rs := [4, 6]) (by kernel_rfl) (by simp) (fun i hi => ?_)
                    rcases (by simpa using hi : i = 4 ∨ i = 6) with rfl | rfl
                    · refine wpOp_left rfl (by rfl) (wp_append_none (.tmp 59) (.tmp 62) 26 rfl wy.heap.size 56 i0 2 Try.underlying26 HI.out.1 _ 0 [] rfl own28 rfl ?_)
                      obtain ⟨v32, hv32⟩ : ∃ v, v = Value.slice (some ⟨b28, 0, none⟩) 0 0 := ⟨_, rfl⟩
                      rw [← hv32]
                      rw [← hv32] at own28
                      have own32 : W2.ownsRow wy.heap.size 56 2 v32 (0 + 0) ([] ++ flat (s.take 0)) := own28
                      (try simp only [List.getElem_toArray, List.getElem_cons_zero, List.getElem_cons_succ, Act.put, List.setIfInBounds_toArray, List.set_cons_zero, List.set_cons_succ])
                      refine wpAny_all (rs := [6]) (by kernel_rfl) (by simp) (fun i hi => ?_)
                      obtain rfl : i = 6 := by simpa using hi
                      refine wpOp_val (v := .slice (some ⟨W2.heap.size, 0, none⟩) 1 1) (w' := W2.alloc (.cells #[.int .i64 p1, .int .i64 p2] 56)) rfl (by rfl) (by go_simp) ?_
                      have cp0 : (W2.alloc (.cells #[.int .i64 p1, .int .i64 p2] 56)).cell? ⟨W2.heap.size, 0, none⟩ = some (.int .i64 p1) := by go_simp
                      have cp1 : (W2.alloc (.cells #[.int .i64 p1, .int .i64 p2] 56)).cell? ⟨W2.heap.size, 1, none⟩ = some (.int .i64 p2) := by go_simp
                      have zp : W2.heap.size < (W2.alloc (.cells #[.int .i64 p1, .int .i64 p2] 56)).heap.size := by simp
                      have own32 := own32.alloc (.cells #[.int .i64 p1, .int .i64 p2] 56)
                      have BB := Below.alloc BB BB.size (.cells #[.int .i64 p1, .int .i64 p2] 56)
                      (try simp only [List.getElem_toArray, List.getElem_cons_zero, List.getElem_cons_succ, Act.put, List.setIfInBounds_toArray, List.set_cons_zero, List.set_cons_succ])
                      generalize W2.alloc (.cells #[.int .i64 p1, .int .i64 p2] 56) = W4 at *
                      generalize W2.heap.size = b34 at cp0 cp1 zp ⊢
                      refine wpAny_all (rs := [7]) (by kernel_rfl) (by simp) (fun i hi => ?_)
                      obtain rfl : i = 7 := by simpa using hi
                      refine wpOp_left rfl (by rfl) (wp_append_own _ (.tmp 63) (.tmp 65) 26 rfl wy.heap.size 56 i0 (.agg #[.int .i64 0, .int .i64 0]) 2 16 Try.underlying26 HI.out.1 HI.out.2.1 HI.out.2.2.1 HI.out.2.2.2 rfl (by decide) v32 (0 + 0) ([] ++ flat (s.take 0)) rfl own32 ⟨b34, 0, none⟩ 1 1 [.int .i64 p1, .int .i64 p2] rfl rfl (two_cells cp0 cp1) (two_one _ _) (by unfold maxLen; omega) (by omega) BB.size ?_)
                      intro v35 w8 own35 hgr8 _
                      have BE := BB.grown hgr8 BB.size (fun g hg => (World.ownsRow.lt own32 g hg).1)
                      (try simp only [List.getElem_toArray, List.getElem_cons_zero, List.getElem_cons_succ, Act.put, List.setIfInBounds_toArray, List.set_cons_zero, List.set_cons_succ])
                      refine wpAny_all (rs := [8]) (by kernel_rfl) (by simp) (fun i hi => ?_)
                      obtain rfl : i = 8 := by simpa using hi
                      refine wpOp_val (v := v35) (w' := w8) rfl (by rfl) (by first | rfl | go_simp) ?_
                      (try simp only [List.getElem_toArray, List.getElem_cons_zero, List.getElem_cons_succ, Act.put, List.setIfInBounds_toArray, List.set_cons_zero, List.set_cons_succ])
                      refine wpAny_done (by kernel_rfl) ?_ _
                      go_wp2_with fail
                      go_meet
                      case rel => exact ⟨v35, rfl, Lib.hid own35, BE⟩
                    · refine wpOp_val (v := .slice (some ⟨W2.heap.size, 0, none⟩) 1 1) (w' := W2.alloc (.cells #[.int .i64 p1, .int .i64 p2] 56)) rfl (by rfl) (by go_simp) ?_
                      have cp0 : (W2.alloc (.cells #[.int .i64 p1, .int .i64 p2] 56)).cell? ⟨W2.heap.size, 0, none⟩ = some (.int .i64 p1) := by go_simp
                      have cp1 : (W2.alloc (.cells #[.int .i64 p1, .int .i64 p2] 56)).cell? ⟨W2.heap.size, 1, none⟩ = some (.int .i64 p2) := by go_simp
                      have zp : W2.heap.size < (W2.alloc (.cells #[.int .i64 p1, .int .i64 p2] 56)).heap.size := by simp
                      have own28 := own28.alloc (.cells #[.int .i64 p1, .int .i64 p2] 56)
                      have hne : W2.heap.size ≠ b28 := Nat.ne_of_gt zn
                      have zn := Nat.lt_trans zn zp
                      have BB := Below.alloc BB BB.size (.cells #[.int .i64 p1, .int .i64 p2] 56)
                      (try simp only [List.getElem_toArray, List.getElem_cons_zero, List.getElem_cons_succ, Act.put, List.setIfInBounds_toArray, List.set_cons_zero, List.set_cons_succ])
                      generalize W2.alloc (.cells #[.int .i64 p1, .int .i64 p2] 56) = W3 at *
                      generalize W2.heap.size = b34 at cp0 cp1 zp hne ⊢
                      refine wpAny_all (rs := [4]) (by kernel_rfl) (by simp) (fun i hi => ?_)
                      obtain rfl : i = 4 := by simpa using hi
                      refine wpOp_left rfl (by rfl) (wp_append_none (.tmp 59) (.tmp 62) 26 rfl wy.heap.size 56 i0 2 Try.underlying26 HI.out.1 _ 0 [] rfl own28 rfl ?_)
                      obtain ⟨v32, hv32⟩ : ∃ v, v = Value.slice (some ⟨b28, 0, none⟩) 0 0 := ⟨_, rfl⟩
                      rw [← hv32]
                      rw [← hv32] at own28
                      have own32 : W3.ownsRow wy.heap.size 56 2 v32 (0 + 0) ([] ++ flat (s.take 0)) := own28
                      (try simp only [List.getElem_toArray, List.getElem_cons_zero, List.getElem_cons_succ, Act.put, List.setIfInBounds_toArray, List.set_cons_zero, List.set_cons_succ])
                      refine wpAny_all (rs := [7]) (by kernel_rfl) (by simp) (fun i hi => ?_)
                      obtain rfl : i = 7 := by simpa using hi
                      refine wpOp_left rfl (by rfl) (wp_append_own _ (.tmp 63) (.tmp 65) 26 rfl wy.heap.size 56 i0 (.agg #[.int .i64 0, .int .i64 0]) 2 16 Try.underlying26 HI.out.1 HI.out.2.1 HI.out.2.2.1 HI.out.2.2.2 rfl (by decide) v32 (0 + 0) ([] ++ flat (s.take 0)) rfl own32 ⟨b34, 0, none⟩ 1 1 [.int .i64 p1, .int .i64 p2] rfl rfl (two_cells cp0 cp1) (two_one _ _) (by unfold maxLen; omega) (by omega) BB.size ?_)
                      intro v35 w8 own35 hgr8 _
                      have BE := BB.grown hgr8 BB.size (fun g hg => (World.ownsRow.lt own32 g hg).1)
                      (try simp only [List.getElem_toArray, List.getElem_cons_zero, List.getElem_cons_succ, Act.put, List.setIfInBounds_toArray, List.set_cons_zero, List.set_cons_succ])
                      refine wpAny_all (rs := [8]) (by kernel_rfl) (by simp) (fun i hi => ?_)
                      obtain rfl : i = 8 := by simpa using hi
                      refine wpOp_val (v := v35) (w' := w8) rfl (by rfl) (by first | rfl | go_simp) ?_
                      (try simp only [List.getElem_toArray, List.getElem_cons_zero, List.getElem_cons_succ, Act.put, List.setIfInBounds_toArray, List.set_cons_zero, List.set_cons_succ])
                      refine wpAny_done (by kernel_rfl) ?_ _
                      go_wp2_with fail
                      go_meet
                      case rel => exact ⟨v35, rfl, Lib.hid own35, BE⟩
                  · refine wpOp_val (v := .slice (some ⟨W0.heap.size, 0, none⟩) 1 1) (w' := W0.alloc (.cells #[.int .i64 p1, .int .i64 p2] 56)) rfl (by rfl) (by go_simp) ?_
                    have cp0 : (W0.alloc (.cells #[.int .i64 p1, .int .i64 p2] 56)).cell? ⟨W0.heap.size, 0, none⟩ = some (.int .i64 p1) := by go_simp
                    have cp1 : (W0.alloc (.cells #[.int .i64 p1, .int .i64 p2] 56)).cell? ⟨W0.heap.size, 1, none⟩ = some (.int .i64 p2) := by go_simp
                    have zp : W0.heap.size < (W0.alloc (.cells #[.int .i64 p1, .int .i64 p2] 56)).heap.size := by simp
                    have BB := Below.alloc BB BB.size (.cells #[.int .i64 p1, .int .i64 p2] 56)
                    (try simp only [List.getElem_toArray, List.getElem_cons_zero, List.getElem_cons_succ, Act.put, List.setIfInBounds_toArray, List.set_cons_zero, List.set_cons_succ])
                    generalize W0.alloc (.cells #[.int .i64 p1, .int .i64 p2] 56) = W2 at *
                    generalize W0.heap.size = b34 at cp0 cp1 zp ⊢
                    refine wpAny_all (rs := [0]) (by kernel_rfl) (by simp) (fun i hi => ?_)
                    obtain rfl : i = 0 := by simpa using hi
                    refine wpOp_val (v := .slice (some ⟨W2.heap.size, 0, none⟩) 0 0) (w' := W2.alloc (.cells #[] 56)) rfl (by rfl) (by go_simp) ?_
                    have own28 : (W2.alloc (.cells #[] 56)).ownsRow wy.heap.size 56 2 (.slice (some ⟨W2.heap.size, 0, none⟩) 0 0) 0 [] := World.ownsRow_lit W2 #[] 0 BB.size (by decide) rfl
                    have hn28 : wy.heap.size ≤ W2.heap.size := BB.size
                    have cp0 := (World.cell?_alloc_lt W2 (.cells #[] 56) ⟨b34, 0, none⟩ zp).trans cp0
                    have cp1 := (World.cell?_alloc_lt W2 (.cells #[] 56) ⟨b34, 1, none⟩ zp).trans cp1
                    have hne : b34 ≠ W2.heap.size := Nat.ne_of_lt zp
                    have BB := Below.alloc BB BB.size (.cells #[] 56)
                    have zn : W2.heap.size < (W2.alloc (.cells #[] 56)).heap.size := by simp
                    have zp := Nat.lt_trans zp zn
                    (try simp only [List.getElem_toArray, List.getElem_cons_zero, List.getElem_cons_succ, Act.put, List.setIfInBounds_toArray, List.set_cons_zero, List.set_cons_succ])
                    generalize W2.alloc (.cells #[] 56) = W3 at *
                    generalize W2.heap.size = b28 at own28 hn28 zn hne ⊢
                    refine wpAny_all (rs := [4]) (by kernel_rfl) (by simp) (fun i hi => ?_)
                    obtain rfl : i = 4 := by simpa using hi
                    refine wpOp_left rfl (by rfl) (wp_append_none (.tmp 59) (.tmp 62) 26 rfl wy.heap.size 56 i0 2 Try.underlying26 HI.out.1 _ 0 [] rfl own28 rfl ?_)
                    obtain ⟨v32, hv32⟩ : ∃ v, v = Value.slice (some ⟨b28, 0, none⟩) 0 0 := ⟨_, rfl⟩
                    rw [← hv32]
                    rw [← hv32] at own28
                    have own32 : W3.ownsRow wy.heap.size 56 2 v32 (0 + 0) ([] ++ flat (s.take 0)) := own28
                    (try simp only [List.getElem_toArray, List.getElem_cons_zero, List.getElem_cons_succ, Act.put, List.setIfInBounds_toArray, List.set_cons_zero, List.set_cons_succ])
                    refine wpAny_all (rs := [7]) (by kernel_rfl) (by simp) (fun i hi => ?_)
                    obtain rfl : i = 7 := by simpa using hi
                    refine wpOp_left rfl (by rfl) (wp_append_own _ (.tmp 63) (.tmp 65) 26 rfl wy.heap.size 56 i0 (.agg #[.int .i64 0, .int .i64 0]) 2 16 Try.underlying26 HI.out.1 HI.out.2.1 HI.out.2.2.1 HI.out.2.2.2 rfl (by decide) v32 (0 + 0) ([] ++ flat (s.take 0)) rfl own32 ⟨b34, 0, none⟩ 1 1 [.int .i64 p1, .int .i64 p2] rfl rfl (two_cells cp0 cp1) (two_one _ _) (by unfold maxLen; omega) (by omega) BB.size ?_)
                    intro v35 w8 own35 hgr8 _
                    have BE := BB.grown hgr8 BB.size (fun g hg => (World.ownsRow.lt own32 g hg).1)
                    (try simp only [List.getElem_toArray, List.getElem_cons_zero, List.getElem_cons_succ, Act.put, List.setIfInBounds_toArray, List.set_cons_zero, List.set_cons_succ])
                    refine wpAny_all (rs := [8]) (by kernel_rfl) (by simp) (fun i hi => ?_)
                    obtain rfl : i = 8 := by simpa using hi
                    refine wpOp_val (v := v35) (w' := w8) rfl (by rfl) (by first | rfl | go_simp) ?_
                    (try simp only [List.getElem_toArray, List.getElem_cons_zero, List.getElem_cons_succ, Act.put, List.setIfInBounds_toArray, List.set_cons_zero, List.set_cons_succ])
                    refine wpAny_done (by kernel_rfl) ?_ _
                    go_wp2_with fail
                    go_meet
                    case rel => exact ⟨v35, rfl, Lib.hid own35, BE⟩

              case rest =>
                obtain ⟨v7, rfl, hO7, BE⟩ := hcut
                rename World => wz
                have HE := Lib.hid (show wz.ownsRow w1.heap.size 56 2 v7 m2.length (flat m2) from by
                  have e2 : m2.length = 0 + 1 := by rw [HSTEP.out, hsn]; rfl
                  rw [e2, HSTEP.out, hsn]
                  have := own_base hO7.out hwx
                  rw [hsn] at this
                  exact this)
                have B9 := BY.trans (BE.mono hwx)
                clear hO7 BE BY hO
                go_wp2_with (at_builtin; refine wpList_append_own_none rfl (.tmp 67) (.tmp 70) 26 rfl w1.heap.size 56 i0 2 Try.underlying26 HI.out.1 v7 _ _ rfl HE.out rfl ?_)
                go_roundg (n - (k + 1))
                case measure => have := HGK.out; omega
                case rel => exact ⟨k + 1, v7, rfl, by omega, rfl, by go_num, B9, Lib.hid (by rw [HM2.out]; exact HE.out)⟩

          · subst hv
            have HS : Hid (∀ W, Below wo.heap.size wo W → W.ownsRow w1.heap.size 56 2 (.slice (some ⟨g, 0, none⟩) r cap) r (flat s)) := Lib.hid (fun W hW => ownB hO.out hW (Nat.le_refl _))
            have hcm2 : cap ≤ 9223372036854775807 := by unfold maxLen at hcm; omega
            go_upto_block 2 with fail
            obtain ⟨Wp, hWp⟩ : ∃ Wp, Wp = (wo.alloc (.cells #[.int .i64 p1, .int .i64 p2] 56)) := ⟨_, rfl⟩
            rw [← hWp]
            have yWp0_0 : Wp.cell? ⟨wo.heap.size, 0, none⟩ = some (.int .i64 p1) := by rw [hWp]; go_simp
            have yWp0_1 : Wp.cell? ⟨wo.heap.size, 1, none⟩ = some (.int .i64 p2) := by rw [hWp]; go_simp
            have fWp0 : ∀ o, Wp.frozen? ⟨wo.heap.size, o, none⟩ = false := by intro o; rw [hWp]; (repeat rw [frozen?_alloc_cells]); simp [World.frozen?]
            have zWp0 : wo.heap.size < Wp.heap.size := by rw [hWp]; simp <;> omega
            have BWp : Below wo.heap.size wo Wp := by rw [hWp]; exact (Below.alloc (Below.refl _ _) (by simp <;> omega) _)
            have eWp : Hid (Wp.heap.size = wo.heap.size + 1) := Lib.hid (by rw [hWp]; simp)
            clear hWp
            go_cut [13] (fun q wx => ∃ j : Nat, q = .int .i64 j ∧ Hid (j = insAt s (p1, p2)) ∧ Below Wp.heap.size Wp wx)
            case first =>
              go_wp2_with fail
              go_loopg [13] r (fun g2 q wr => ∃ j : Nat, j ≤ r ∧ g2 = j ∧ q = .int .i64 j ∧ Below Wp.heap.size Wp wr ∧ Hid (∀ i, j ≤ i → i < r → lxB (p1, p2) (pt s i) = true))
              case atStart => exact ⟨r, Nat.le_refl _, rfl, rfl, Below.refl _ _, Lib.hid (fun i h1 h2 => absurd h1 (by omega))⟩
              case round =>
                obtain ⟨j, hjr, hg2, rfl, hBi, hF⟩ := hrel
                rename World => wi
                have HGJ := Lib.hid hg2
                clear hg2
                rcases j with _ | j
                · have hJ : Hid (0 = insAt s (p1, p2)) := Lib.hid (insAt_back HSS.out HNw.out (Nat.zero_le _) (fun i h1 h2 => hF.out i h1 (by rw [← HLEN.out]; exact h2)) (Or.inl rfl)).symm
                  go_wp2_with fail
                  refine wp_region_B (fun W => Below wi.heap.size wi W) (by kernel_rfl) (by repeat (first | exact Below.refl _ _ | apply Below.drew)) ?_
                  first | refine wpB_skip 0 rfl (by kernel_rfl) (by kernel_rfl) (by kernel_rfl) (by rfl) ?_ | (refine wpB_text 0 (v := ?_) rfl (by kernel_rfl) (by kernel_rfl) (by kernel_rfl) (by rfl) (fun W hW => ?_) ?_; rotate_left; (have k1 := hW; obtain ⟨hc1, hf1⟩ := bcell k1; go_simp; refine comes_v ?_; exact k1))
                  (try simp only [Act.put, List.setIfInBounds_toArray, List.set_cons_zero, List.set_cons_succ])
                  first | refine wpB_skip 1 rfl (by kernel_rfl) (by kernel_rfl) (by kernel_rfl) (by rfl) ?_ | (refine wpB_text 1 (v := ?_) rfl (by kernel_rfl) (by kernel_rfl) (by kernel_rfl) (by rfl) (fun W hW => ?_) ?_; rotate_left; (have k1 := hW; obtain ⟨hc1, hf1⟩ := bcell k1; go_simp; refine comes_v ?_; exact k1))
                  (try simp only [Act.put, List.setIfInBounds_toArray, List.set_cons_zero, List.set_cons_succ])
                  first | refine wpB_skip 2 rfl (by kernel_rfl) (by kernel_rfl) (by kernel_rfl) (by rfl) ?_ | (refine wpB_text 2 (v := ?_) rfl (by kernel_rfl) (by kernel_rfl) (by kernel_rfl) (by rfl) (fun W hW => ?_) ?_; rotate_left; (have k1 := hW; obtain ⟨hc1, hf1⟩ := bcell k1; go_simp; refine comes_v ?_; exact k1))
                  (try simp only [Act.put, List.setIfInBounds_toArray, List.set_cons_zero, List.set_cons_succ])
                  first | refine wpB_skip 3 rfl (by kernel_rfl) (by kernel_rfl) (by kernel_rfl) (by rfl) ?_ | (refine wpB_text 3 (v := ?_) rfl (by kernel_rfl) (by kernel_rfl) (by kernel_rfl) (by rfl) (fun W hW => ?_) ?_; rotate_left; (have k1 := hW; obtain ⟨hc1, hf1⟩ := bcell k1; go_simp; refine comes_v ?_; exact k1))
                  (try simp only [Act.put, List.setIfInBounds_toArray, List.set_cons_zero, List.set_cons_succ])
                  first | refine wpB_skip 4 rfl (by kernel_rfl) (by kernel_rfl) (by kernel_rfl) (by rfl) ?_ | (refine wpB_text 4 (v := ?_) rfl (by kernel_rfl) (by kernel_rfl) (by kernel_rfl) (by rfl) (fun W hW => ?_) ?_; rotate_left; (have k1 := hW; obtain ⟨hc1, hf1⟩ := bcell k1; go_simp; refine comes_v ?_; exact k1))
                  (try simp only [Act.put, List.setIfInBounds_toArray, List.set_cons_zero, List.set_cons_succ])
                  first | refine wpB_skip 5 rfl (by kernel_rfl) (by kernel_rfl) (by kernel_rfl) (by rfl) ?_ | (refine wpB_text 5 (v := ?_) rfl (by kernel_rfl) (by kernel_rfl) (by kernel_rfl) (by rfl) (fun W hW => ?_) ?_; rotate_left; (have k1 := hW; obtain ⟨hc1, hf1⟩ := bcell k1; go_simp; refine comes_v ?_; exact k1))
                  (try simp only [Act.put, List.setIfInBounds_toArray, List.set_cons_zero, List.set_cons_succ])
                  first | refine wpB_skip 6 rfl (by kernel_rfl) (by kernel_rfl) (by kernel_rfl) (by rfl) ?_ | (refine wpB_text 6 (v := ?_) rfl (by kernel_rfl) (by kernel_rfl) (by kernel_rfl) (by rfl) (fun W hW => ?_) ?_; rotate_left; (have k1 := hW; obtain ⟨hc1, hf1⟩ := bcell k1; go_simp; refine comes_v ?_; exact k1))
                  (try simp only [Act.put, List.setIfInBounds_toArray, List.set_cons_zero, List.set_cons_succ])
                  first | refine wpB_skip 7 rfl (by kernel_rfl) (by kernel_rfl) (by kernel_rfl) (by rfl) ?_ | (refine wpB_text 7 (v := ?_) rfl (by kernel_rfl) (by kernel_rfl) (by kernel_rfl) (by rfl) (fun W hW => ?_) ?_; rotate_left; (have k1 := hW; obtain ⟨hc1, hf1⟩ := bcell k1; go_simp; refine comes_v ?_; exact k1))
                  (try simp only [Act.put, List.setIfInBounds_toArray, List.set_cons_zero, List.set_cons_succ])
                  first | refine wpB_skip 8 rfl (by kernel_rfl) (by kernel_rfl) (by kernel_rfl) (by rfl) ?_ | (refine wpB_text 8 (v := ?_) rfl (by kernel_rfl) (by kernel_rfl) (by kernel_rfl) (by rfl) (fun W hW => ?_) ?_; rotate_left; (have k1 := hW; obtain ⟨hc1, hf1⟩ := bcell k1; go_simp; refine comes_v ?_; exact k1))
                  (try simp only [Act.put, List.setIfInBounds_toArray, List.set_cons_zero, List.set_cons_succ])
                  first | refine wpB_skip 9 rfl (by kernel_rfl) (by kernel_rfl) (by kernel_rfl) (by rfl) ?_ | (refine wpB_text 9 (v := ?_) rfl (by kernel_rfl) (by kernel_rfl) (by kernel_rfl) (by rfl) (fun W hW => ?_) ?_; rotate_left; (have k1 := hW; obtain ⟨hc1, hf1⟩ := bcell k1; go_simp; refine comes_v ?_; exact k1))
                  (try simp only [Act.put, List.setIfInBounds_toArray, List.set_cons_zero, List.set_cons_succ])
                  first | refine wpB_skip 10 rfl (by kernel_rfl) (by kernel_rfl) (by kernel_rfl) (by rfl) ?_ | (refine wpB_text 10 (v := ?_) rfl (by kernel_rfl) (by kernel_rfl) (by kernel_rfl) (by rfl) (fun W hW => ?_) ?_; rotate_left; (have k1 := hW; obtain ⟨hc1, hf1⟩ := bcell k1; go_simp; refine comes_v ?_; exact k1))
                  (try simp only [Act.put, List.setIfInBounds_toArray, List.set_cons_zero, List.set_cons_succ])
                  refine wpB_done (by kernel_rfl) ?_ _
                  intro W hW; have k1 := hW
                  go_wp2_with fail
                  go_meet
                  case rel => exact ⟨0, rfl, hJ, hBi.trans (k1.mono hBi.size)⟩
                · have BW := BWp.trans (hBi.mono BWp.size)
                  obtain ⟨xs0, xs1⟩ := own_pt (HS.out wi BW) HLEN.out j (by omega)
                  have zp := Nat.lt_of_lt_of_le zWp0 hBi.size
                  have zg := Nat.lt_of_lt_of_le hgw BW.size
                  have y0 := ((bcell hBi).1 _ 0 zWp0).trans yWp0_0
                  have y1 := ((bcell hBi).1 _ 1 zWp0).trans yWp0_1
                  obtain ⟨q1, q2, hqe⟩ : ∃ q1 q2, pt s j = (q1, q2) := ⟨_, _, rfl⟩
                  rw [hqe] at xs0 xs1
                  have HQ := Lib.hid hqe
                  have KL := Lib.hid (fun W => pgLess_lx p1 p2 q1 q2 W)
                  have hjj : ((j + 1 : Nat) : Int) - 1 = (j : Int) := by omega
                  have hjp : (0 : Int) < ((j + 1 : Nat) : Int) := by omega
                  have hjw : IntKind.i64.wrap (((j + 1 : Nat) : Int) - 1) = (j : Int) := by rw [IntWalk.i64_in _ (by omega)]; omega
                  have hjr2 : (j : Int) < (r : Int) := by omega
                  have hjw2 : IntKind.i64.wrap (j : Int) = (j : Int) := IntWalk.i64_in _ (by omega)
                  have hjr3 : j < r := by omega
                  clear hqe
                  by_cases hlx : lxB (p1, p2) (q1, q2) = true
                  · rw [hlx] at KL
                    have hF2 : Hid (∀ i, j ≤ i → i < r → lxB (p1, p2) (pt s i) = true) := Lib.hid (fun i h1 h2 => by
                      by_cases hij : i = j
                      · subst hij; rw [HQ.out]; exact hlx
                      · exact hF.out i (by omega) h2)
                    clear hlx
                    go_wp2_with fail
                    refine wp_region_B (fun W => Below wi.heap.size wi W) (by kernel_rfl) (by repeat (first | exact Below.refl _ _ | apply Below.drew)) ?_
                    first | refine wpB_skip 0 rfl (by kernel_rfl) (by kernel_rfl) (by kernel_rfl) (by rfl) ?_ | (refine wpB_text 0 (v := ?_) rfl (by kernel_rfl) (by kernel_rfl) (by kernel_rfl) (by rfl) (fun W hW => ?_) ?_; rotate_left; (have k1 := hW; obtain ⟨hc1, hf1⟩ := bcell k1; go_simp; refine comes_v ?_; exact k1))
                    (try simp only [Act.put, List.setIfInBounds_toArray, List.set_cons_zero, List.set_cons_succ])
                    first | refine wpB_skip 1 rfl (by kernel_rfl) (by kernel_rfl) (by kernel_rfl) (by rfl) ?_ | (refine wpB_text 1 (v := ?_) rfl (by kernel_rfl) (by kernel_rfl) (by kernel_rfl) (by rfl) (fun W hW => ?_) ?_; rotate_left; (have k1 := hW; obtain ⟨hc1, hf1⟩ := bcell k1; go_simp; refine comes_v ?_; exact k1))
                    (try simp only [Act.put, List.setIfInBounds_toArray, List.set_cons_zero, List.set_cons_succ])
                    first | refine wpB_skip 2 rfl (by kernel_rfl) (by kernel_rfl) (by kernel_rfl) (by rfl) ?_ | (refine wpB_text 2 (v := ?_) rfl (by kernel_rfl) (by kernel_rfl) (by kernel_rfl) (by rfl) (fun W hW => ?_) ?_; rotate_left; (have k1 := hW; obtain ⟨hc1, hf1⟩ := bcell k1; go_simp; refine comes_v ?_; exact k1))
                    (try simp only [Act.put, List.setIfInBounds_toArray, List.set_cons_zero, List.set_cons_succ])
                    first | refine wpB_skip 3 rfl (by kernel_rfl) (by kernel_rfl) (by kernel_rfl) (by rfl) ?_ | (refine wpB_text 3 (v := ?_) rfl (by kernel_rfl) (by kernel_rfl) (by kernel_rfl) (by rfl) (fun W hW => ?_) ?_; rotate_left; (have k1 := hW; obtain ⟨hc1, hf1⟩ := bcell k1; go_simp; refine comes_v ?_; exact k1))
                    (try simp only [Act.put, List.setIfInBounds_toArray, List.set_cons_zero, List.set_cons_succ])
                    first | refine wpB_skip 4 rfl (by kernel_rfl) (by kernel_rfl) (by kernel_rfl) (by rfl) ?_ | (refine wpB_text 4 (v := ?_) rfl (by kernel_rfl) (by kernel_rfl) (by kernel_rfl) (by rfl) (fun W hW => ?_) ?_; rotate_left; (have k1 := hW; obtain ⟨hc1, hf1⟩ := bcell k1; go_simp; refine comes_v ?_; exact k1))
                    (try simp only [Act.put, List.setIfInBounds_toArray, List.set_cons_zero, List.set_cons_succ])
                    first | refine wpB_skip 5 rfl (by kernel_rfl) (by kernel_rfl) (by kernel_rfl) (by rfl) ?_ | (refine wpB_text 5 (v := ?_) rfl (by kernel_rfl) (by kernel_rfl) (by kernel_rfl) (by rfl) (fun W hW => ?_) ?_; rotate_left; (have k1 := hW; obtain ⟨hc1, hf1⟩ := bcell k1; go_simp; refine comes_v ?_; exact k1))
                    (try simp only [Act.put, List.setIfInBounds_toArray, List.set_cons_zero, List.set_cons_succ])
                    first | refine wpB_skip 6 rfl (by kernel_rfl) (by kernel_rfl) (by kernel_rfl) (by rfl) ?_ | (refine wpB_text 6 (v := ?_) rfl (by kernel_rfl) (by kernel_rfl) (by kernel_rfl) (by rfl) (fun W hW => ?_) ?_; rotate_left; (have k1 := hW; obtain ⟨hc1, hf1⟩ := bcell k1; go_simp; refine comes_v ?_; exact k1))
                    (try simp only [Act.put, List.setIfInBounds_toArray, List.set_cons_zero, List.set_cons_succ])
                    first | refine wpB_skip 7 rfl (by kernel_rfl) (by kernel_rfl) (by kernel_rfl) (by rfl) ?_ | (refine wpB_text 7 (v := ?_) rfl (by kernel_rfl) (by kernel_rfl) (by kernel_rfl) (by rfl) (fun W hW => ?_) ?_; rotate_left; (have k1 := hW; obtain ⟨hc1, hf1⟩ := bcell k1; go_simp; refine comes_v ?_; exact k1))
                    (try simp only [Act.put, List.setIfInBounds_toArray, List.set_cons_zero, List.set_cons_succ])
                    first | refine wpB_skip 8 rfl (by kernel_rfl) (by kernel_rfl) (by kernel_rfl) (by rfl) ?_ | (refine wpB_text 8 (v := ?_) rfl (by kernel_rfl) (by kernel_rfl) (by kernel_rfl) (by rfl) (fun W hW => ?_) ?_; rotate_left; (have k1 := hW; obtain ⟨hc1, hf1⟩ := bcell k1; go_simp; refine comes_v ?_; exact k1))
                    (try simp only [Act.put, List.setIfInBounds_toArray, List.set_cons_zero, List.set_cons_succ])
                    first | refine wpB_skip 9 rfl (by kernel_rfl) (by kernel_rfl) (by kernel_rfl) (by rfl) ?_ | (refine wpB_text 9 (v := .bool true) rfl (by kernel_rfl) (by kernel_rfl) (by kernel_rfl) (by rfl) (fun W hW => ?_) ?_; (have k1 := hW; obtain ⟨hc1, hf1⟩ := bcell k1; go_simp; exact comes_c ( KL.out _) (fun wn hbn => bt_keep k1 hbn)))
                    (try simp only [Act.put, List.setIfInBounds_toArray, List.set_cons_zero, List.set_cons_succ])
                    first | refine wpB_skip 10 rfl (by kernel_rfl) (by kernel_rfl) (by kernel_rfl) (by rfl) ?_ | (refine wpB_text 10 (v := ?_) rfl (by kernel_rfl) (by kernel_rfl) (by kernel_rfl) (by rfl) (fun W hW => ?_) ?_; rotate_left; (have k1 := hW; obtain ⟨hc1, hf1⟩ := bcell k1; go_simp; refine comes_v ?_; exact k1))
                    (try simp only [Act.put, List.setIfInBounds_toArray, List.set_cons_zero, List.set_cons_succ])
                    refine wpB_done (by kernel_rfl) ?_ _
                    intro W hW; have k1 := hW
                    go_wp2_with fail
                    go_roundg j
                    case measure => have := HGJ.out; omega
                    case rel => exact ⟨j, by omega, rfl, by first | rfl | go_num, hBi.trans (k1.mono hBi.size), hF2⟩
                  · have hlf : lxB (p1, p2) (q1, q2) = false := by simpa using hlx
                    rw [hlf] at KL
                    have hJ : Hid (j + 1 = insAt s (p1, p2)) := Lib.hid (insAt_back HSS.out HNw.out (by rw [HLEN.out]; exact hjr) (fun i h1 h2 => hF.out i h1 (by rw [← HLEN.out]; exact h2)) (Or.inr (by rw [Nat.add_sub_cancel, HQ.out]; exact hlf))).symm
                    clear hlx hlf
                    go_wp2_with fail
                    refine wp_region_B (fun W => Below wi.heap.size wi W) (by kernel_rfl) (by repeat (first | exact Below.refl _ _ | apply Below.drew)) ?_
                    first | refine wpB_skip 0 rfl (by kernel_rfl) (by kernel_rfl) (by kernel_rfl) (by rfl) ?_ | (refine wpB_text 0 (v := ?_) rfl (by kernel_rfl) (by kernel_rfl) (by kernel_rfl) (by rfl) (fun W hW => ?_) ?_; rotate_left; (have k1 := hW; obtain ⟨hc1, hf1⟩ := bcell k1; go_simp; refine comes_v ?_; exact k1))
                    (try simp only [Act.put, List.setIfInBounds_toArray, List.set_cons_zero, List.set_cons_succ])
                    first | refine wpB_skip 1 rfl (by kernel_rfl) (by kernel_rfl) (by kernel_rfl) (by rfl) ?_ | (refine wpB_text 1 (v := ?_) rfl (by kernel_rfl) (by kernel_rfl) (by kernel_rfl) (by rfl) (fun W hW => ?_) ?_; rotate_left; (have k1 := hW; obtain ⟨hc1, hf1⟩ := bcell k1; go_simp; refine comes_v ?_; exact k1))
                    (try simp only [Act.put, List.setIfInBounds_toArray, List.set_cons_zero, List.set_cons_succ])
                    first | refine wpB_skip 2 rfl (by kernel_rfl) (by kernel_rfl) (by kernel_rfl) (by rfl) ?_ | (refine wpB_text 2 (v := ?_) rfl (by kernel_rfl) (by kernel_rfl) (by kernel_rfl) (by rfl) (fun W hW => ?_) ?_; rotate_left; (have k1 := hW; obtain ⟨hc1, hf1⟩ := bcell k1; go_simp; refine comes_v ?_; exact k1))
                    (try simp only [Act.put, List.setIfInBounds_toArray, List.set_cons_zero, List.set_cons_succ])
                    first | refine wpB_skip 3 rfl (by kernel_rfl) (by kernel_rfl) (by kernel_rfl) (by rfl) ?_ | (refine wpB_text 3 (v := ?_) rfl (by kernel_rfl) (by kernel_rfl) (by kernel_rfl) (by rfl) (fun W hW => ?_) ?_; rotate_left; (have k1 := hW; obtain ⟨hc1, hf1⟩ := bcell k1; go_simp; refine comes_v ?_; exact k1))
                    (try simp only [Act.put, List.setIfInBounds_toArray, List.set_cons_zero, List.set_cons_succ])
                    first | refine wpB_skip 4 rfl (by kernel_rfl) (by kernel_rfl) (by kernel_rfl) (by rfl) ?_ | (refine wpB_text 4 (v := ?_) rfl (by kernel_rfl) (by kernel_rfl) (by kernel_rfl) (by rfl) (fun W hW => ?_) ?_; rotate_left; (have k1 := hW; obtain ⟨hc1, hf1⟩ := bcell k1; go_simp; refine comes_v ?_; exact k1))
                    (try simp only [Act.put, List.setIfInBounds_toArray, List.set_cons_zero, List.set_cons_succ])
                    first | refine wpB_skip 5 rfl (by kernel_rfl) (by kernel_rfl) (by kernel_rfl) (by rfl) ?_ | (refine wpB_text 5 (v := ?_) rfl (by kernel_rfl) (by kernel_rfl) (by kernel_rfl) (by rfl) (fun W hW => ?_) ?_; rotate_left; (have k1 := hW; obtain ⟨hc1, hf1⟩ := bcell k1; go_simp; refine comes_v ?_; exact k1))
                    (try simp only [Act.put, List.setIfInBounds_toArray, List.set_cons_zero, List.set_cons_succ])
                    first | refine wpB_skip 6 rfl (by kernel_rfl) (by kernel_rfl) (by kernel_rfl) (by rfl) ?_ | (refine wpB_text 6 (v := ?_) rfl (by kernel_rfl) (by kernel_rfl) (by kernel_rfl) (by rfl) (fun W hW => ?_) ?_; rotate_left; (have k1 := hW; obtain ⟨hc1, hf1⟩ := bcell k1; go_simp; refine comes_v ?_; exact k1))
                    (try simp only [Act.put, List.setIfInBounds_toArray, List.set_cons_zero, List.set_cons_succ])
                    first | refine wpB_skip 7 rfl (by kernel_rfl) (by kernel_rfl) (by kernel_rfl) (by rfl) ?_ | (refine wpB_text 7 (v := ?_) rfl (by kernel_rfl) (by kernel_rfl) (by kernel_rfl) (by rfl) (fun W hW => ?_) ?_; rotate_left; (have k1 := hW; obtain ⟨hc1, hf1⟩ := bcell k1; go_simp; refine comes_v ?_; exact k1))
                    (try simp only [Act.put, List.setIfInBounds_toArray, List.set_cons_zero, List.set_cons_succ])
                    first | refine wpB_skip 8 rfl (by kernel_rfl) (by kernel_rfl) (by kernel_rfl) (by rfl) ?_ | (refine wpB_text 8 (v := ?_) rfl (by kernel_rfl) (by kernel_rfl) (by kernel_rfl) (by rfl) (fun W hW => ?_) ?_; rotate_left; (have k1 := hW; obtain ⟨hc1, hf1⟩ := bcell k1; go_simp; refine comes_v ?_; exact k1))
                    (try simp only [Act.put, List.setIfInBounds_toArray, List.set_cons_zero, List.set_cons_succ])
                    first | refine wpB_skip 9 rfl (by kernel_rfl) (by kernel_rfl) (by kernel_rfl) (by rfl) ?_ | (refine wpB_text 9 (v := .bool false) rfl (by kernel_rfl) (by kernel_rfl) (by kernel_rfl) (by rfl) (fun W hW => ?_) ?_; (have k1 := hW; obtain ⟨hc1, hf1⟩ := bcell k1; go_simp; exact comes_c ( KL.out _) (fun wn hbn => bt_keep k1 hbn)))
                    (try simp only [Act.put, List.setIfInBounds_toArray, List.set_cons_zero, List.set_cons_succ])
                    first | refine wpB_skip 10 rfl (by kernel_rfl) (by kernel_rfl) (by kernel_rfl) (by rfl) ?_ | (refine wpB_text 10 (v := ?_) rfl (by kernel_rfl) (by kernel_rfl) (by kernel_rfl) (by rfl) (fun W hW => ?_) ?_; rotate_left; (have k1 := hW; obtain ⟨hc1, hf1⟩ := bcell k1; go_simp; refine comes_v ?_; exact k1))
                    (try simp only [Act.put, List.setIfInBounds_toArray, List.set_cons_zero, List.set_cons_succ])
                    refine wpB_done (by kernel_rfl) ?_ _
                    intro W hW; have k1 := hW
                    go_wp2_with fail
                    go_meet
                    case rel => exact ⟨j + 1, by first | rfl | go_num, hJ, hBi.trans (k1.mono hBi.size)⟩
            case rest =>
              obtain ⟨j, rfl, hJ, BC⟩ := hcut
              rename World => wy
              have hjk : j ≤ r := by
                have := insAt_le s (p1, p2)
                rw [← hJ.out, HLEN.out] at this
                exact this
              have hp5 : wo.heap.size < wy.heap.size := Nat.lt_of_lt_of_le zWp0 BC.size
              have x0 := ((bcell BC).1 _ 0 zWp0).trans yWp0_0
              have x1 := ((bcell BC).1 _ 1 zWp0).trans yWp0_1
              have BWY := BWp.trans (BC.mono BWp.size)
              have BY := hB.trans (BWY.mono hB.size)
              have hwx := BY.size
              have hzo := BWY.size
              have HV : Hid (∀ W, Below wy.heap.size wy W → ∀ i u, (flat (s.take j))[i]? = some u → W.cell? ((⟨g, 0, none⟩ : Addr).add i) = some u) := Lib.hid (fun W hW => take_own (HS.out W (BWY.trans (hW.mono hzo))) j)
              have HL := HLEN.out
              clear yWp0_0 yWp0_1 fWp0 zWp0 BC BWp hq1 hq2
              go_upto_region 12 with fail
              go_cut [14] (fun q wx => ∃ v, v = q ∧ Hid (wx.ownsRow wy.heap.size 56 2 v (0 + j + 1) ([] ++ flat (s.take j) ++ [.int .i64 p1, .int .i64 p2])) ∧ Below wy.heap.size wy wx)
              case first =>
                refine wp_region_any (by kernel_rfl) ?_
                change wpAny _ _ _ _ _ _ _ (World.drew _)
                have BB : Below wy.heap.size wy wy.drew := (Below.refl _ _).drew
                generalize wy.drew = W0 at BB ⊢
                refine wpAny_take (i := 1) (v := .slice (some ⟨g, 0, none⟩) r cap) rfl (by kernel_rfl) (by kernel_rfl) (by kernel_rfl) (fun _ _ _ h => h) (Or.inl ⟨by rfl, fun W => by first | rfl | (go_simp; try (intro h; omega))⟩) ?_
                (try simp only [List.getElem_toArray, List.getElem_cons_zero, List.getElem_cons_succ, Act.put, List.setIfInBounds_toArray, List.set_cons_zero, List.set_cons_succ])
                refine wpAny_take (i := 2) (v := .int .i64 j) rfl (by kernel_rfl) (by kernel_rfl) (by kernel_rfl) (fun _ _ _ h => h) (Or.inl ⟨by rfl, fun W => by first | rfl | (go_simp; try (intro h; omega))⟩) ?_
                (try simp only [List.getElem_toArray, List.getElem_cons_zero, List.getElem_cons_succ, Act.put, List.setIfInBounds_toArray, List.set_cons_zero, List.set_cons_succ])
                refine wpAny_take (i := 3) (v := .slice (some ⟨g, 0, none⟩) j cap) rfl (by kernel_rfl) (by kernel_rfl) (by kernel_rfl) (fun _ _ _ h => h) (Or.inl ⟨by rfl, fun W => by first | rfl | (go_simp; try (intro h; omega))⟩) ?_
                (try simp only [List.getElem_toArray, List.getElem_cons_zero, List.getElem_cons_succ, Act.put, List.setIfInBounds_toArray, List.set_cons_zero, List.set_cons_succ])
                refine wpAny_all (rs := [0, 5]) (by kernel_rfl) (by simp) (fun i hi => ?_)
                rcases (by simpa using hi : i = 0 ∨ i = 5) with rfl | rfl
                · refine wpOp_val (v := .slice (some ⟨W0.heap.size, 0, none⟩) 0 0) (w' := W0.alloc (.cells #[] 56)) rfl (by rfl) (by go_simp) ?_
                  have own28 : (W0.alloc (.cells #[] 56)).ownsRow wy.heap.size 56 2 (.slice (some ⟨W0.heap.size, 0, none⟩) 0 0) 0 [] := World.ownsRow_lit W0 #[] 0 BB.size (by decide) rfl
                  have hn28 : wy.heap.size ≤ W0.heap.size := BB.size
                  have BB := Below.alloc BB BB.size (.cells #[] 56)
                  have zn : W0.heap.size < (W0.alloc (.cells #[] 56)).heap.size := by simp
                  (try simp only [List.getElem_toArray, List.getElem_cons_zero, List.getElem_cons_succ, Act.put, List.setIfInBounds_toArray, List.set_cons_zero, List.set_cons_succ])
                  generalize W0.alloc (.cells #[] 56) = W1 at *
                  generalize W0.heap.size = b28 at own28 hn28 zn ⊢
                  refine wpAny_all (rs := [4, 5]) (by kernel_rfl) (by simp) (fun i hi => ?_)
                  rcases (by simpa using hi : i = 4 ∨ i = 5) with rfl | rfl
                  · refine wpOp_left rfl (by rfl) (wp_append_own _ (.tmp 59) (.tmp 62) 26 rfl wy.heap.size 56 i0 (.agg #[.int .i64 0, .int .i64 0]) 2 16 Try.underlying26 HI.out.1 HI.out.2.1 HI.out.2.2.1 HI.out.2.2.2 rfl (by decide) (.slice (some ⟨b28, 0, none⟩) 0 0) 0 [] rfl own28 ⟨g, 0, none⟩ j cap (flat (s.take j)) rfl (by rw [flat_len, List.length_take]; omega) (HV.out _ BB) (flat_one _) (by unfold maxLen; omega) (by omega) BB.size ?_)
                    intro v32 W2 own32 hgr4 _
                    have BB := BB.grown hgr4 BB.size (fun g hg => (World.ownsRow.lt own28 g hg).1)
                    clear hgr4
                    (try simp only [List.getElem_toArray, List.getElem_cons_zero, List.getElem_cons_succ, Act.put, List.setIfInBounds_toArray, List.set_cons_zero, List.set_cons_succ])
                    refine wpAny_all (rs := [5]) (by kernel_rfl) (by simp) (fun i hi => ?_)
                    obtain rfl : i = 5 := by simpa using hi
                    refine wpOp_val (v := .agg #[.int .i64 p1, .int .i64 p2]) (w' := W2) rfl (by rfl) (by first | (have e0 := (bcell BB).1 _ 0 hp5; have e1 := (bcell BB).1 _ 1 hp5; rw [x0] at e0; rw [x1] at e1; go_simp) | go_simp) ?_
                    (try simp only [List.getElem_toArray, List.getElem_cons_zero, List.getElem_cons_succ, Act.put, List.setIfInBounds_toArray, List.set_cons_zero, List.set_cons_succ])
                    refine wpAny_all (rs := [6]) (by kernel_rfl) (by simp) (fun i hi => ?_)
                    obtain rfl : i = 6 := by simpa using hi
                    refine wpOp_val (v := .slice (some ⟨W2.heap.size, 0, none⟩) 1 1) (w' := W2.alloc (.cells #[.int .i64 p1, .int .i64 p2] 56)) rfl (by rfl) (by go_simp) ?_
                    have cp0 : (W2.alloc (.cells #[.int .i64 p1, .int .i64 p2] 56)).cell? ⟨W2.heap.size, 0, none⟩ = some (.int .i64 p1) := by go_simp
                    have cp1 : (W2.alloc (.cells #[.int .i64 p1, .int .i64 p2] 56)).cell? ⟨W2.heap.size, 1, none⟩ = some (.int .i64 p2) := by go_simp
                    have zp : W2.heap.size < (W2.alloc (.cells #[.int .i64 p1, .int .i64 p2] 56)).heap.size := by simp
                    have own32 := own32.alloc (.cells #[.int .i64 p1, .int .i64 p2] 56)
                    have BB := Below.alloc BB BB.size (.cells #[.int .i64 p1, .int .i64 p2] 56)
                    (try simp only [List.getElem_toArray, List.getElem_cons_zero, List.getElem_cons_succ, Act.put, List.setIfInBounds_toArray, List.set_cons_zero, List.set_cons_succ])
                    generalize W2.alloc (.cells #[.int .i64 p1, .int .i64 p2] 56) = W4 at *
                    generalize W2.heap.size = b34 at cp0 cp1 zp ⊢
                    refine wpAny_all (rs := [7]) (by kernel_rfl) (by simp) (fun i hi => ?_)
                    obtain rfl : i = 7 := by simpa using hi
                    refine wpOp_left rfl (by rfl) (wp_append_own _ (.tmp 63) (.tmp 65) 26 rfl wy.heap.size 56 i0 (.agg #[.int .i64 0, .int .i64 0]) 2 16 Try.underlying26 HI.out.1 HI.out.2.1 HI.out.2.2.1 HI.out.2.2.2 rfl (by decide) v32 (0 + j) ([] ++ flat (s.take j)) rfl own32 ⟨b34, 0, none⟩ 1 1 [.int .i64 p1, .int .i64 p2] rfl rfl (two_cells cp0 cp1) (two_one _ _) (by unfold maxLen; omega) (by omega) BB.size ?_)
                    intro v35 w8 own35 hgr8 _
                    have BE := BB.grown hgr8 BB.size (fun g hg => (World.ownsRow.lt own32 g hg).1)
                    (try simp only [List.getElem_toArray, List.getElem_cons_zero, List.getElem_cons_succ, Act.put, List.setIfInBounds_toArray, List.set_cons_zero, List.set_cons_succ])
                    refine wpAny_all (rs := [8]) (by kernel_rfl) (by simp) (fun i hi => ?_)
                    obtain rfl : i = 8 := by simpa using hi
                    refine wpOp_val (v := v35) (w' := w8) rfl (by rfl) (by first | rfl | go_simp) ?_
                    (try simp only [List.getElem_toArray, List.getElem_cons_zero, List.getElem_cons_succ, Act.put, List.setIfInBounds_toArray, List.set_cons_zero, List.set_cons_succ])
                    refine wpAny_done (by kernel_rfl) ?_ _
                    go_wp2_with fail
                    go_meet
                    case rel => exact ⟨v35, rfl, Lib.hid own35, BE⟩
                  · refine wpOp_val (v := .agg #[.int .i64 p1, .int .i64 p2]) (w' := W1) rfl (by rfl) (by first | (have e0 := (bcell BB).1 _ 0 hp5; have e1 := (bcell BB).1 _ 1 hp5; rw [x0] at e0; rw [x1] at e1; go_simp) | go_simp) ?_
                    (try simp only [List.getElem_toArray, List.getElem_cons_zero, List.getElem_cons_succ, Act.put, List.setIfInBounds_toArray, List.set_cons_zero, List.set_cons_succ])
                    refine wpAny_all (rs := [4, 6]) (by kernel_rfl) (by simp) (fun i hi => ?_)
                    rcases (by simpa using hi : i = 4 ∨ i = 6) with rfl | rfl
                    · refine wpOp_left rfl (by rfl) (wp_append_own _ (.tmp 59) (.tmp 62) 26 rfl wy.heap.size 56 i0 (.agg #[.int .i64 0, .int .i64 0]) 2 16 Try.underlying26 HI.out.1 HI.out.2.1 HI.out.2.2.1 HI.out.2.2.2 rfl (by decide) (.slice (some ⟨b28, 0, none⟩) 0 0) 0 [] rfl own28 ⟨g, 0, none⟩ j cap (flat (s.take j)) rfl (by rw [flat_len, List.length_take]; omega) (HV.out _ BB) (flat_one _) (by unfold maxLen; omega) (by omega) BB.size ?_)
                      intro v32 W3 own32 hgr4 _
                      have BB := BB.grown hgr4 BB.size (fun g hg => (World.ownsRow.lt own28 g hg).1)
                      clear hgr4
                      (try simp only [List.getElem_toArray, List.getElem_cons_zero, List.getElem_cons_succ, Act.put, List.setIfInBounds_toArray, List.set_cons_zero, List.set_cons_succ])
                      refine wpAny_all (rs := [6]) (by kernel_rfl) (by simp) (fun i hi => ?_)
                      obtain rfl : i = 6 := by simpa using hi
                      refine wpOp_val (v := .slice (some ⟨W3.heap.size, 0, none⟩) 1 1) (w' := W3.alloc (.cells #[.int .i64 p1, .int .i64 p2] 56)) rfl (by rfl) (by go_simp) ?_
                      have cp0 : (W3.alloc (.cells #[.int .i64 p1, .int .i64 p2] 56)).cell? ⟨W3.heap.size, 0, none⟩ = some (.int .i64 p1) := by go_simp
                      have cp1 : (W3.alloc (.cells #[.int .i64 p1, .int .i64 p2] 56)).cell? ⟨W3.heap.size, 1, none⟩ = some (.int .i64 p2) := by go_simp
                      have zp : W3.heap.size < (W3.alloc (.cells #[.int .i64 p1, .int .i64 p2] 56)).heap.size := by simp
                      have own32 := own32.alloc (.cells #[.int .i64 p1, .int .i64 p2] 56)
                      have BB := Below.alloc BB BB.size (.cells #[.int .i64 p1, .int .i64 p2] 56)
                      (try simp only [List.getElem_toArray, List.getElem_cons_zero, List.getElem_cons_succ, Act.put, List.setIfInBounds_toArray, List.set_cons_zero, List.set_cons_succ])
                      generalize W3.alloc (.cells #[.int .i64 p1, .int .i64 p2] 56) = W4 at *
                      generalize W3.heap.size = b34 at cp0 cp1 zp ⊢
                      refine wpAny_all (rs := [7]) (by kernel_rfl) (by simp) (fun i hi => ?_)
                      obtain rfl : i = 7 := by simpa using hi
                      refine wpOp_left rfl (by rfl) (wp_append_own _ (.tmp 63) (.tmp 65) 26 rfl wy.heap.size 56 i0 (.agg #[.int .i64 0, .int .i64 0]) 2 16 Try.underlying26 HI.out.1 HI.out.2.1 HI.out.2.2.1 HI.out.2.2.2 rfl (by decide) v32 (0 + j) ([] ++ flat (s.take j)) rfl own32 ⟨b34, 0, none⟩ 1 1 [.int .i64 p1, .int .i64 p2] rfl rfl (two_cells cp0 cp1) (two_one _ _) (by unfold maxLen; omega) (by omega) BB.size ?_)
                      intro v35 w8 own35 hgr8 _
                      have BE := BB.grown hgr8 BB.size (fun g hg => (World.ownsRow.lt own32 g hg).1)
                      (try simp only [List.getElem_toArray, List.getElem_cons_zero, List.getElem_cons_succ, Act.put, List.setIfInBounds_toArray, List.set_cons_zero, List.set_cons_succ])
                      refine wpAny_all (rs := [8]) (by kernel_rfl) (by simp) (fun i hi => ?_)
                      obtain rfl : i = 8 := by simpa using hi
                      refine wpOp_val (v := v35) (w' := w8) rfl (by rfl) (by first | rfl | go_simp) ?_
                      (try simp only [List.getElem_toArray, List.getElem_cons_zero, List.getElem_cons_succ, Act.put, List.setIfInBounds_toArray, List.set_cons_zero, List.set_cons_succ])
                      refine wpAny_done (by kernel_rfl) ?_ _
                      go_wp2_with fail
                      go_meet
                      case rel => exact ⟨v35, rfl, Lib.hid own35, BE⟩
                    · refine wpOp_val (v := .slice (some ⟨W1.heap.size, 0, none⟩) 1 1) (w' := W1.alloc (.cells #[.int .i64 p1, .int .i64 p2] 56)) rfl (by rfl) (by go_simp) ?_
                      have cp0 : (W1.alloc (.cells #[.int .i64 p1, .int .i64 p2] 56)).cell? ⟨W1.heap.size, 0, none⟩ = some (.int .i64 p1) := by go_simp
                      have cp1 : (W1.alloc (.cells #[.int .i64 p1, .int .i64 p2] 56)).cell? ⟨W1.heap.size, 1, none⟩ = some (.int .i64 p2) := by go_simp
                      have zp : W1.heap.size < (W1.alloc (.cells #[.int .i64 p1, .int .i64 p2] 56)).heap.size := by simp
                      have own28 := own28.alloc (.cells #[.int .i64 p1, .int .i64 p2] 56)
                      have hne : W1.heap.size ≠ b28 := Nat.ne_of_gt zn
                      have zn := Nat.lt_trans zn zp
                      have BB := Below.alloc BB BB.size (.cells #[.int .i64 p1, .int .i64 p2] 56)
                      (try simp only [List.getElem_toArray, List.getElem_cons_zero, List.getElem_cons_succ, Act.put, List.setIfInBounds_toArray, List.set_cons_zero, List.set_cons_succ])
                      generalize W1.alloc (.cells #[.int .i64 p1, .int .i64 p2] 56) = W3 at *
                      generalize W1.heap.size = b34 at cp0 cp1 zp hne ⊢
                      refine wpAny_all (rs := [4]) (by kernel_rfl) (by simp) (fun i hi => ?_)
                      obtain rfl : i = 4 := by simpa using hi
                      refine wpOp_left rfl (by rfl) (wp_append_own _ (.tmp 59) (.tmp 62) 26 rfl wy.heap.size 56 i0 (.agg #[.int .i64 0, .int .i64 0]) 2 16 Try.underlying26 HI.out.1 HI.out.2.1 HI.out.2.2.1 HI.out.2.2.2 rfl (by decide) (.slice (some ⟨b28, 0, none⟩) 0 0) 0 [] rfl own28 ⟨g, 0, none⟩ j cap (flat (s.take j)) rfl (by rw [flat_len, List.length_take]; omega) (HV.out _ BB) (flat_one _) (by unfold maxLen; omega) (by omega) BB.size ?_)
                      intro v32 W4 own32 hgr4 _
                      have BB := BB.grown hgr4 BB.size (fun g hg => (World.ownsRow.lt own28 g hg).1)
                      have cp0 := hgr4.cell cp0 (by simp [Value.ownBlock]; exact hne)
                      have cp1 := hgr4.cell cp1 (by simp [Value.ownBlock]; exact hne)
                      have zp := Nat.lt_of_lt_of_le zp hgr4.size
                      clear hgr4
                      (try simp only [List.getElem_toArray, List.getElem_cons_zero, List.getElem_cons_succ, Act.put, List.setIfInBounds_toArray, List.set_cons_zero, List.set_cons_succ])
                      refine wpAny_all (rs := [7]) (by kernel_rfl) (by simp) (fun i hi => ?_)
                      obtain rfl : i = 7 := by simpa using hi
                      refine wpOp_left rfl (by rfl) (wp_append_own _ (.tmp 63) (.tmp 65) 26 rfl wy.heap.size 56 i0 (.agg #[.int .i64 0, .int .i64 0]) 2 16 Try.underlying26 HI.out.1 HI.out.2.1 HI.out.2.2.1 HI.out.2.2.2 rfl (by decide) v32 (0 + j) ([] ++ flat (s.take j)) rfl own32 ⟨b34, 0, none⟩ 1 1 [.int .i64 p1, .int .i64 p2] rfl rfl (two_cells cp0 cp1) (two_one _ _) (by unfold maxLen; omega) (by omega) BB.size ?_)
                      intro v35 w8 own35 hgr8 _
                      have BE := BB.grown hgr8 BB.size (fun g hg => (World.ownsRow.lt own32 g hg).1)
                      (try simp only [List.getElem_toArray, List.getElem_cons_zero, List.getElem_cons_succ, Act.put, List.setIfInBounds_toArray, List.set_cons_zero, List.set_cons_succ])
                      refine wpAny_all (rs := [8]) (by kernel_rfl) (by simp) (fun i hi => ?_)
                      obtain rfl : i = 8 := by simpa using hi
                      refine wpOp_val (v := v35) (w' := w8) rfl (by rfl) (by first | rfl | go_simp) ?_
                      (try simp only [List.getElem_toArray, List.getElem_cons_zero, List.getElem_cons_succ, Act.put, List.setIfInBounds_toArray, List.set_cons_zero, List.set_cons_succ])
                      refine wpAny_done (by kernel_rfl) ?_ _
                      go_wp2_with fail
                      go_meet
                      case rel => exact ⟨v35, rfl, Lib.hid own35, BE⟩
                · refine wpOp_val (v := .agg #[.int .i64 p1, .int .i64 p2]) (w' := W0) rfl (by rfl) (by first | (have e0 := (bcell BB).1 _ 0 hp5; have e1 := (bcell BB).1 _ 1 hp5; rw [x0] at e0; rw [x1] at e1; go_simp) | go_simp) ?_
                  (try simp only [List.getElem_toArray, List.getElem_cons_zero, List.getElem_cons_succ, Act.put, List.setIfInBounds_toArray, List.set_cons_zero, List.set_cons_succ])
                  refine wpAny_all (rs := [0, 6]) (by kernel_rfl) (by simp) (fun i hi => ?_)
                  rcases (by simpa using hi : i = 0 ∨ i = 6) with rfl | rfl
                  · refine wpOp_val (v := .slice (some ⟨W0.heap.size, 0, none⟩) 0 0) (w' := W0.alloc (.cells #[] 56)) rfl (by rfl) (by go_simp) ?_
                    have own28 : (W0.alloc (.cells #[] 56)).ownsRow wy.heap.size 56 2 (.slice (some ⟨W0.heap.size, 0, none⟩) 0 0) 0 [] := World.ownsRow_lit W0 #[] 0 BB.size (by decide) rfl
                    have hn28 : wy.heap.size ≤ W0.heap.size := BB.size
                    have BB := Below.alloc BB BB.size (.cells #[] 56)
                    have zn : W0.heap.size < (W0.alloc (.cells #[] 56)).heap.size := by simp
                    (try simp only [List.getElem_toArray, List.getElem_cons_zero, List.getElem_cons_succ, Act.put, List.setIfInBounds_toArray, List.set_cons_zero, List.set_cons_succ])
                    generalize W0.alloc (.cells #[] 56) = W2 at *
                    generalize W0.heap.size = b28 at own28 hn28 zn ⊢
                    refine wpAny_all (rs := [4, 6]) (by kernel_rfl) (by simp) (fun i hi => ?_)
                    rcases (by simpa using hi : i = 4 ∨ i = 6) with rfl | rfl
                    · refine wpOp_left rfl (by rfl) (wp_append_own _ (.tmp 59) (.tmp 62) 26 rfl wy.heap.size 56 i0 (.agg #[.int .i64 0, .int .i64 0]) 2 16 Try.underlying26 HI.out.1 HI.out.2.1 HI.out.2.2.1 HI.out.2.2.2 rfl (by decide) (.slice (some ⟨b28, 0, none⟩) 0 0) 0 [] rfl own28 ⟨g, 0, none⟩ j cap (flat (s.take j)) rfl (by rw [flat_len, List.length_take]; omega) (HV.out _ BB) (flat_one _) (by unfold maxLen; omega) (by omega) BB.size ?_)
                      intro v32 W3 own32 hgr4 _
                      have BB := BB.grown hgr4 BB.size (fun g hg => (World.ownsRow.lt own28 g hg).1)
                      clear hgr4
                      (try simp only [List.getElem_toArray, List.getElem_cons_zero, List.getElem_cons_succ, Act.put, List.setIfInBounds_toArray, List.set_cons_zero, List.set_cons_succ])
                      refine wpAny_all (rs := [6]) (by kernel_rfl) (by simp) (fun i hi => ?_)
                      obtain rfl : i = 6 := by simpa using hi
                      refine wpOp_val (v := .slice (some ⟨W3.heap.size, 0, none⟩) 1 1) (w' := W3.alloc (.cells #[.int .i64 p1, .int .i64 p2] 56)) rfl (by rfl) (by go_simp) ?_
                      have cp0 : (W3.alloc (.cells #[.int .i64 p1, .int .i64 p2] 56)).cell? ⟨W3.heap.size, 0, none⟩ = some (.int .i64 p1) := by go_simp
                      have cp1 : (W3.alloc (.cells #[.int .i64 p1, .int .i64 p2] 56)).cell? ⟨W3.heap.size, 1, none⟩ = some (.int .i64 p2) := by go_simp
                      have zp : W3.heap.size < (W3.alloc (.cells #[.int .i64 p1, .int .i64 p2] 56)).heap.size := by simp
                      have own32 := own32.alloc (.cells #[.int .i64 p1, .int .i64 p2] 56)
                      have BB := Below.alloc BB BB.size (.cells #[.int .i64 p1, .int .i64 p2] 56)
                      (try simp only [List.getElem_toArray, List.getElem_cons_zero, List.getElem_cons_succ, Act.put, List.setIfInBounds_toArray, List.set_cons_zero, List.set_cons_succ])
                      generalize W3.alloc (.cells #[.int .i64 p1, .int .i64 p2] 56) = W4 at *
                      generalize W3.heap.size = b34 at cp0 cp1 zp ⊢
                      refine wpAny_all (rs := [7]) (by kernel_rfl) (by simp) (fun i hi => ?_)
                      obtain rfl : i = 7 := by simpa using hi
                      refine wpOp_left rfl (by rfl) (wp_append_own _ (.tmp 63) (.tmp 65) 26 rfl wy.heap.size 56 i0 (.agg #[.int .i64 0, .int .i64 0]) 2 16 Try.underlying26 HI.out.1 HI.out.2.1 HI.out.2.2.1 HI.out.2.2.2 rfl (by decide) v32 (0 + j) ([] ++ flat (s.take j)) rfl own32 ⟨b34, 0, none⟩ 1 1 [.int .i64 p1, .int .i64 p2] rfl rfl (two_cells cp0 cp1) (two_one _ _) (by unfold maxLen; omega) (by omega) BB.size ?_)
                      intro v35 w8 own35 hgr8 _
                      have BE := BB.grown hgr8 BB.size (fun g hg => (World.ownsRow.lt own32 g hg).1)
                      (try simp only [List.getElem_toArray, List.getElem_cons_zero, List.getElem_cons_succ, Act.put, List.setIfInBounds_toArray, List.set_cons_zero, List.set_cons_succ])
                      refine wpAny_all (rs := [8]) (by kernel_rfl) (by simp) (fun i hi => ?_)
                      obtain rfl : i = 8 := by simpa using hi
                      refine wpOp_val (v := v35) (w' := w8) rfl (by rfl) (by first | rfl | go_simp) ?_
                      (try simp only [List.getElem_toArray, List.getElem_cons_zero, List.getElem_cons_succ, Act.put, List.setIfInBounds_toArray, List.set_cons_zero, List.set_cons_succ])
                      refine wpAny_done (by kernel_rfl) ?_ _
                      go_wp2_with fail
                      go_meet
                      case rel => exact ⟨v35, rfl, Lib.hid own35, BE⟩
                    · refine wpOp_val (v := .slice (some ⟨W2.heap.size, 0, none⟩) 1 1) (w' := W2.alloc (.cells #[.int .i64 p1, .int .i64 p2] 56)) rfl (by rfl) (by go_simp) ?_
                      have cp0 : (W2.alloc (.cells #[.int .i64 p1, .int .i64 p2] 56)).cell? ⟨W2.heap.size, 0, none⟩ = some (.int .i64 p1) := by go_simp
                      have cp1 : (W2.alloc (.cells #[.int .i64 p1, .int .i64 p2] 56)).cell? ⟨W2.heap.size, 1, none⟩ = some (.int .i64 p2) := by go_simp
                      have zp : W2.heap.size < (W2.alloc (.cells #[.int .i64 p1, .int .i64 p2] 56)).heap.size := by simp
                      have own28 := own28.alloc (.cells #[.int .i64 p1, .int .i64 p2] 56)
                      have hne : W2.heap.size ≠ b28 := Nat.ne_of_gt zn
                      have zn := Nat.lt_trans zn zp
                      have BB := Below.alloc BB BB.size (.cells #[.int .i64 p1, .int .i64 p2] 56)
                      (try simp only [List.getElem_toArray, List.getElem_cons_zero, List.getElem_cons_succ, Act.put, List.setIfInBounds_toArray, List.set_cons_zero, List.set_cons_succ])
                      generalize W2.alloc (.cells #[.int .i64 p1, .int .i64 p2] 56) = W3 at *
                      generalize W2.heap.size = b34 at cp0 cp1 zp hne ⊢
                      refine wpAny_all (rs := [4]) (by kernel_rfl) (by simp) (fun i hi => ?_)
                      obtain rfl : i = 4 := by simpa using hi
                      refine wpOp_left rfl (by rfl) (wp_append_own _ (.tmp 59) (.tmp 62) 26 rfl wy.heap.size 56 i0 (.agg #[.int .i64 0, .int .i64 0]) 2 16 Try.underlying26 HI.out.1 HI.out.2.1 HI.out.2.2.1 HI.out.2.2.2 rfl (by decide) (.slice (some ⟨b28, 0, none⟩) 0 0) 0 [] rfl own28 ⟨g, 0, none⟩ j cap (flat (s.take j)) rfl (by rw [flat_len, List.length_take]; omega) (HV.out _ BB) (flat_one _) (by unfold maxLen; omega) (by omega) BB.size ?_)
                      intro v32 W4 own32 hgr4 _
                      have BB := BB.grown hgr4 BB.size (fun g hg => (World.ownsRow.lt own28 g hg).1)
                      have cp0 := hgr4.cell cp0 (by simp [Value.ownBlock]; exact hne)
                      have cp1 := hgr4.cell cp1 (by simp [Value.ownBlock]; exact hne)
                      have zp := Nat.lt_of_lt_of_le zp hgr4.size
                      clear hgr4
                      (try simp only [List.getElem_toArray, List.getElem_cons_zero, List.getElem_cons_succ, Act.put, List.setIfInBounds_toArray, List.set_cons_zero, List.set_cons_succ])
                      refine wpAny_all (rs := [7]) (by kernel_rfl) (by simp) (fun i hi => ?_)
                      obtain rfl : i = 7 := by simpa using hi
                      refine wpOp_left rfl (by rfl) (wp_append_own _ (.tmp 63) (.tmp 65) 26 rfl wy.heap.size 56 i0 (.agg #[.int .i64 0, .int .i64 0]) 2 16 Try.underlying26 HI.out.1 HI.out.2.1 HI.out.2.2.1 HI.out.2.2.2 rfl (by decide) v32 (0 + j) ([] ++ flat (s.take j)) rfl own32 ⟨b34, 0, none⟩ 1 1 [.int .i64 p1, .int .i64 p2] rfl rfl (two_cells cp0 cp1) (two_one _ _) (by unfold maxLen; omega) (by omega) BB.size ?_)
                      intro v35 w8 own35 hgr8 _
                      have BE := BB.grown hgr8 BB.size (fun g hg => (World.ownsRow.lt own32 g hg).1)
                      (try simp only [List.getElem_toArray, List.getElem_cons_zero, List.getElem_cons_succ, Act.put, List.setIfInBounds_toArray, List.set_cons_zero, List.set_cons_succ])
                      refine wpAny_all (rs := [8]) (by kernel_rfl) (by simp) (fun i hi => ?_)
                      obtain rfl : i = 8 := by simpa using hi
                      refine wpOp_val (v := v35) (w' := w8) rfl (by rfl) (by first | rfl | go_simp) ?_
                      (try simp only [List.getElem_toArray, List.getElem_cons_zero, List.getElem_cons_succ, Act.put, List.setIfInBounds_toArray, List.set_cons_zero, List.set_cons_succ])
                      refine wpAny_done (by kernel_rfl) ?_ _
                      go_wp2_with fail
                      go_meet
                      case rel => exact ⟨v35, rfl, Lib.hid own35, BE⟩
                  · refine wpOp_val (v := .slice (some ⟨W0.heap.size, 0, none⟩) 1 1) (w' := W0.alloc (.cells #[.int .i64 p1, .int .i64 p2] 56)) rfl (by rfl) (by go_simp) ?_
                    have cp0 : (W0.alloc (.cells #[.int .i64 p1, .int .i64 p2] 56)).cell? ⟨W0.heap.size, 0, none⟩ = some (.int .i64 p1) := by go_simp
                    have cp1 : (W0.alloc (.cells #[.int .i64 p1, .int .i64 p2] 56)).cell? ⟨W0.heap.size, 1, none⟩ = some (.int .i64 p2) := by go_simp
                    have zp : W0.heap.size < (W0.alloc (.cells #[.int .i64 p1, .int .i64 p2] 56)).heap.size := by simp
                    have BB := Below.alloc BB BB.size (.cells #[.int .i64 p1, .int .i64 p2] 56)
                    (try simp only [List.getElem_toArray, List.getElem_cons_zero, List.getElem_cons_succ, Act.put, List.setIfInBounds_toArray, List.set_cons_zero, List.set_cons_succ])
                    generalize W0.alloc (.cells #[.int .i64 p1, .int .i64 p2] 56) = W2 at *
                    generalize W0.heap.size = b34 at cp0 cp1 zp ⊢
                    refine wpAny_all (rs := [0]) (by kernel_rfl) (by simp) (fun i hi => ?_)
                    obtain rfl : i = 0 := by simpa using hi
                    refine wpOp_val (v := .slice (some ⟨W2.heap.size, 0, none⟩) 0 0) (w' := W2.alloc (.cells #[] 56)) rfl (by rfl) (by go_simp) ?_
                    have own28 : (W2.alloc (.cells #[] 56)).ownsRow wy.heap.size 56 2 (.slice (some ⟨W2.heap.size, 0, none⟩) 0 0) 0 [] := World.ownsRow_lit W2 #[] 0 BB.size (by decide) rfl
                    have hn28 : wy.heap.size ≤ W2.heap.size := BB.size
                    have cp0 := (World.cell?_alloc_lt W2 (.cells #[] 56) ⟨b34, 0, none⟩ zp).trans cp0
                    have cp1 := (World.cell?_alloc_lt W2 (.cells #[] 56) ⟨b34, 1, none⟩ zp).trans cp1
                    have hne : b34 ≠ W2.heap.size := Nat.ne_of_lt zp
                    have BB := Below.alloc BB BB.size (.cells #[] 56)
                    have zn : W2.heap.size < (W2.alloc (.cells #[] 56)).heap.size := by simp
                    have zp := Nat.lt_trans zp zn
                    (try simp only [List.getElem_toArray, List.getElem_cons_zero, List.getElem_cons_succ, Act.put, List.setIfInBounds_toArray, List.set_cons_zero, List.set_cons_succ])
                    generalize W2.alloc (.cells #[] 56) = W3 at *
                    generalize W2.heap.size = b28 at own28 hn28 zn hne ⊢
                    refine wpAny_all (rs := [4]) (by kernel_rfl) (by simp) (fun i hi => ?_)
                    obtain rfl : i = 4 := by simpa using hi
                    refine wpOp_left rfl (by rfl) (wp_append_own _ (.tmp 59) (.tmp 62) 26 rfl wy.heap.size 56 i0 (.agg #[.int .i64 0, .int .i64 0]) 2 16 Try.underlying26 HI.out.1 HI.out.2.1 HI.out.2.2.1 HI.out.2.2.2 rfl (by decide) (.slice (some ⟨b28, 0, none⟩) 0 0) 0 [] rfl own28 ⟨g, 0, none⟩ j cap (flat (s.take j)) rfl (by rw [flat_len, List.length_take]; omega) (HV.out _ BB) (flat_one _) (by unfold maxLen; omega) (by omega) BB.size ?_)
                    intro v32 W4 own32 hgr4 _
                    have BB := BB.grown hgr4 BB.size (fun g hg => (World.ownsRow.lt own28 g hg).1)
                    have cp0 := hgr4.cell cp0 (by simp [Value.ownBlock]; exact hne)
                    have cp1 := hgr4.cell cp1 (by simp [Value.ownBlock]; exact hne)
                    have zp := Nat.lt_of_lt_of_le zp hgr4.size
                    clear hgr4
                    (try simp only [List.getElem_toArray, List.getElem_cons_zero, List.getElem_cons_succ, Act.put, List.setIfInBounds_toArray, List.set_cons_zero, List.set_cons_succ])
                    refine wpAny_all (rs := [7]) (by kernel_rfl) (by simp) (fun i hi => ?_)
                    obtain rfl : i = 7 := by simpa using hi
                    refine wpOp_left rfl (by rfl) (wp_append_own _ (.tmp 63) (.tmp 65) 26 rfl wy.heap.size 56 i0 (.agg #[.int .i64 0, .int .i64 0]) 2 16 Try.underlying26 HI.out.1 HI.out.2.1 HI.out.2.2.1 HI.out.2.2.2 rfl (by decide) v32 (0 + j) ([] ++ flat (s.take j)) rfl own32 ⟨b34, 0, none⟩ 1 1 [.int .i64 p1, .int .i64 p2] rfl rfl (two_cells cp0 cp1) (two_one _ _) (by unfold maxLen; omega) (by omega) BB.size ?_)
                    intro v35 w8 own35 hgr8 _
                    have BE := BB.grown hgr8 BB.size (fun g hg => (World.ownsRow.lt own32 g hg).1)
                    (try simp only [List.getElem_toArray, List.getElem_cons_zero, List.getElem_cons_succ, Act.put, List.setIfInBounds_toArray, List.set_cons_zero, List.set_cons_succ])
                    refine wpAny_all (rs := [8]) (by kernel_rfl) (by simp) (fun i hi => ?_)
                    obtain rfl : i = 8 := by simpa using hi
                    refine wpOp_val (v := v35) (w' := w8) rfl (by rfl) (by first | rfl | go_simp) ?_
                    (try simp only [List.getElem_toArray, List.getElem_cons_zero, List.getElem_cons_succ, Act.put, List.setIfInBounds_toArray, List.set_cons_zero, List.set_cons_succ])
                    refine wpAny_done (by kernel_rfl) ?_ _
                    go_wp2_with fail
                    go_meet
                    case rel => exact ⟨v35, rfl, Lib.hid own35, BE⟩

              case rest =>
                obtain ⟨v7, rfl, hO7, BE⟩ := hcut
                rename World => wz
                have HD := Lib.hid (drop_own (HS.out wz (BWY.trans (BE.mono hzo))) j (by omega))
                have HO := Lib.hid (own_base hO7.out hwx)
                have B9 := BY.trans (BE.mono hwx)
                have hz9 := B9.size
                clear hO7 BE BY hO HV
                have HE : Hid (∀ (W : World) (v : Value), W.ownsRow w1.heap.size 56 2 v (0 + j + 1 + (r - j)) (([] ++ flat (s.take j) ++ [.int .i64 p1, .int .i64 p2]) ++ flat (s.drop j)) → W.ownsRow w1.heap.size 56 2 v (r + 1) (flat m2)) := Lib.hid (fun W v hh => by
                  rw [HSTEP.out, ins_flat hJ.out, show r + 1 = 0 + j + 1 + (r - j) by omega]
                  exact hh)
                have hn7 : 0 + j + 1 ≤ r + 1 := by omega
                have hyl : (flat (s.drop j)).length = (r - j) * 2 := by rw [flat_len, List.length_drop]; omega
                have hy1 : ∀ u ∈ flat (s.drop j), u.oneCell' = true := flat_one _
                have hy0 : j = r → flat (s.drop j) = [] := fun e => by rw [List.drop_of_length_le (by omega)]; rfl
                generalize [] ++ flat (s.take j) ++ [Value.int .i64 p1, .int .i64 p2] = xs at *
                generalize flat (s.drop j) = ys at *
                generalize 0 + j + 1 = n7 at *
                rcases Nat.lt_or_ge j r with hj | hj
                · have e1 : ¬ (cap : Int) = (j : Int) := by omega
                  have e2 : ¬ cap = j := by omega
                  go_wp2_with (at_builtin; refine wpList_append_own _ rfl (.tmp 67) (.tmp 70) 26 rfl w1.heap.size 56 i0 (.agg #[.int .i64 0, .int .i64 0]) 2 16 Try.underlying26 HI.out.1 HI.out.2.1 HI.out.2.2.1 HI.out.2.2.2 rfl (by decide) v7 n7 xs rfl HO.out ⟨g, j * 2, none⟩ (r - j) (cap - j) ys rfl hyl HD.out hy1 (by unfold maxLen; omega) (by omega) hz9 ?_)
                  intro v9 w9 own9 hgr9 _
                  have HF9 := Lib.hid (HE.out _ _ own9)
                  have BZ := B9.grown hgr9 hz9 (fun g hg => (World.ownsRow.lt HO.out g hg).1)
                  clear own9 hgr9
                  go_wp2_with fail
                  go_roundg (n - (k + 1))
                  case measure => have := HGK.out; omega
                  case rel => exact ⟨k + 1, v9, rfl, by omega, rfl, by go_num, BZ, Lib.hid (by rw [HM2.out, HLM.out]; exact HF9.out)⟩
                · have hjk2 : j = r := by omega
                  subst hjk2
                  have hdn := hy0 rfl
                  subst hdn
                  rw [Nat.sub_self] at HE
                  by_cases hcj : cap = j
                  · have e1 : (cap : Int) = (j : Int) := by omega
                    go_wp2_with (at_builtin; refine wpList_append_own _ rfl (.tmp 67) (.tmp 70) 26 rfl w1.heap.size 56 i0 (.agg #[.int .i64 0, .int .i64 0]) 2 16 Try.underlying26 HI.out.1 HI.out.2.1 HI.out.2.2.1 HI.out.2.2.2 rfl (by decide) v7 n7 xs rfl HO.out ⟨g, 0, none⟩ 0 _ [] rfl (by simp) (by intro i u hi; simp at hi) (by intro u hu; simp at hu) (by unfold maxLen; omega) (by omega) hz9 ?_)
                    intro v9 w9 own9 hgr9 _
                    have HF9 := Lib.hid (HE.out w9 v9 (by first | exact own9 | simpa using own9))
                    have BZ := B9.grown hgr9 hz9 (fun g hg => (World.ownsRow.lt HO.out g hg).1)
                    clear own9 hgr9
                    go_wp2_with fail
                    go_roundg (n - (k + 1))
                    case measure => have := HGK.out; omega
                    case rel => exact ⟨k + 1, v9, rfl, by omega, rfl, by go_num, BZ, Lib.hid (by rw [HM2.out, HLM.out]; exact HF9.out)⟩
                  · have e1 : ¬ (cap : Int) = (j : Int) := by omega
                    go_wp2_with (at_builtin; refine wpList_append_own _ rfl (.tmp 67) (.tmp 70) 26 rfl w1.heap.size 56 i0 (.agg #[.int .i64 0, .int .i64 0]) 2 16 Try.underlying26 HI.out.1 HI.out.2.1 HI.out.2.2.1 HI.out.2.2.2 rfl (by decide) v7 n7 xs rfl HO.out ⟨g, j * 2, none⟩ 0 _ [] rfl (by simp) (by intro i u hi; simp at hi) (by intro u hu; simp at hu) (by unfold maxLen; omega) (by omega) hz9 ?_)
                    intro v9 w9 own9 hgr9 _
                    have HF9 := Lib.hid (HE.out w9 v9 (by first | exact own9 | simpa using own9))
                    have BZ := B9.grown hgr9 hz9 (fun g hg => (World.ownsRow.lt HO.out g hg).1)
                    clear own9 hgr9
                    go_wp2_with fail
                    go_roundg (n - (k + 1))
                    case measure => have := HGK.out; omega
                    case rel => exact ⟨k + 1, v9, rfl, by omega, rfl, by go_num, BZ, Lib.hid (by rw [HM2.out, HLM.out]; exact HF9.out)⟩
      · obtain rfl : k = n := by omega
        go_wp2_with fail
        go_ret2
        exact HRT.out _ _ _ hO.out B1 hB
end Go.Proofs.Ytheddoinnakneaa
/- contracts: the program puts points in order -/
namespace Go.Proofs.Ytheddoinnakneaa
open Go.ChangeShapes Go.WideShapes Go.ChangeAt Go.RowKit Go.Joins
set_option linter.unusedVariables false
set_option linter.unusedSimpArgs false
set_option maxRecDepth 4000
section
open Go.Shelf
def layClone_ren : Go.Shelf.Ren := ⟨fun | 41 => 116 | n => n, fun | 22 => 26 | 23 => 56 | 4 => 4 | n => n, fun | n => n⟩
theorem layClone : Go.Proofs.SlLaysE0.n41 Try.prog layClone_ren := {
  mixed := by kernel_rfl
  f41 := ⟨Try.f116.name, by decide, Try.func116.trans (congrArg some (by kernel_rfl))⟩
  t4 := Try.underlying4
  a4 := Try.isAgg4
  z4 := Try.sizeOf4
  v4 := Try.zeroValue4
  t22 := Try.underlying26
  a22 := Try.isAgg26
  z22 := Try.sizeOf26
  v22 := Try.zeroValue26 }
end
section
open Go.Shelf
def laySort_ren : Go.Shelf.Ren := ⟨fun | 6 => 117 | 15 => 131 | 14 => 139 | 28 => 151 | 29 => 152 | 20 => 154 | 21 => 155 | 22 => 156 | 23 => 157 | 24 => 158 | 25 => 159 | 26 => 160 | 27 => 161 | 46 => 168 | 47 => 164 | 48 => 165 | 49 => 169 | 50 => 170 | 57 => 173 | n => n, fun | 22 => 26 | 24 => 56 | 25 => 98 | 3 => 3 | 39 => 138 | 0 => 0 | 53 => 151 | 55 => 153 | 4 => 4 | 46 => 145 | 45 => 144 | 50 => 24 | 5 => 5 | 9 => 9 | 66 => 161 | 70 => 165 | 76 => 169 | 77 => 90 | n => n, fun | n => n⟩
theorem laySort : Go.Proofs.SlLaysF0.n6 Try.prog laySort_ren := {
  mixed := by kernel_rfl
  f6 := ⟨Try.f117.name, by decide, Try.func117.trans (congrArg some (by kernel_rfl))⟩
  f14 := ⟨Try.f139.name, by decide, Try.func139.trans (congrArg some (by kernel_rfl))⟩
  f15 := Try.func131.trans (congrArg some (by kernel_rfl))
  f20 := ⟨Try.f154.name, by decide, Try.func154.trans (congrArg some (by kernel_rfl))⟩
  f21 := ⟨Try.f155.name, by decide, Try.func155.trans (congrArg some (by kernel_rfl))⟩
  f22 := ⟨Try.f156.name, by decide, Try.func156.trans (congrArg some (by kernel_rfl))⟩
  f23 := ⟨Try.f157.name, by decide, Try.func157.trans (congrArg some (by kernel_rfl))⟩
  f24 := ⟨Try.f158.name, by decide, Try.func158.trans (congrArg some (by kernel_rfl))⟩
  f25 := ⟨Try.f159.name, by decide, Try.func159.trans (congrArg some (by kernel_rfl))⟩
  f26 := ⟨Try.f160.name, by decide, Try.func160.trans (congrArg some (by kernel_rfl))⟩
  f27 := ⟨Try.f161.name, by decide, Try.func161.trans (congrArg some (by kernel_rfl))⟩
  f28 := Try.func151.trans (congrArg some (by kernel_rfl))
  f29 := Try.func152.trans (congrArg some (by kernel_rfl))
  f46 := ⟨Try.f168.name, by decide, Try.func168.trans (congrArg some (by kernel_rfl))⟩
  f47 := Try.func164.trans (congrArg some (by kernel_rfl))
  f48 := Try.func165.trans (congrArg some (by kernel_rfl))
  f49 := ⟨Try.f169.name, by decide, Try.func169.trans (congrArg some (by kernel_rfl))⟩
  f50 := ⟨Try.f170.name, by decide, Try.func170.trans (congrArg some (by kernel_rfl))⟩
  f57 := ⟨Try.f173.name, by decide, Try.func173.trans (congrArg some (by kernel_rfl))⟩
  t0 := Try.underlying0
  a0 := Try.isAgg0
  z0 := Try.sizeOf0
  v0 := Try.zeroValue0
  t3 := Try.underlying3
  a3 := Try.isAgg3
  z3 := Try.sizeOf3
  v3 := Try.zeroValue3
  t4 := Try.underlying4
  a4 := Try.isAgg4
  z4 := Try.sizeOf4
  v4 := Try.zeroValue4
  t5 := Try.underlying5
  a5 := Try.isAgg5
  z5 := Try.sizeOf5
  v5 := Try.zeroValue5
  t9 := Try.underlying9
  a9 := Try.isAgg9
  z9 := Try.sizeOf9
  v9 := Try.zeroValue9
  t22 := Try.underlying26
  a22 := Try.isAgg26
  z22 := Try.sizeOf26
  v22 := Try.zeroValue26
  t25 := Try.underlying98
  a25 := Try.isAgg98
  z25 := Try.sizeOf98
  v25 := Try.zeroValue98
  t39 := Try.underlying138
  a39 := Try.isAgg138
  z39 := Try.sizeOf138
  v39 := Try.zeroValue138
  t45 := Try.underlying144
  a45 := Try.isAgg144
  z45 := Try.sizeOf144
  v45 := Try.zeroValue144
  t46 := Try.underlying145
  a46 := Try.isAgg145
  z46 := Try.sizeOf145
  v46 := Try.zeroValue145
  t50 := Try.underlying24
  a50 := Try.isAgg24
  z50 := Try.sizeOf24
  v50 := Try.zeroValue24
  t53 := Try.underlying151
  a53 := Try.isAgg151
  z53 := Try.sizeOf151
  v53 := Try.zeroValue151
  t55 := Try.underlying153
  a55 := Try.isAgg153
  z55 := Try.sizeOf153
  v55 := Try.zeroValue153
  t66 := Try.underlying161
  a66 := Try.isAgg161
  z66 := Try.sizeOf161
  v66 := Try.zeroValue161
  t70 := Try.underlying165
  a70 := Try.isAgg165
  z70 := Try.sizeOf165
  v70 := Try.zeroValue165
  t76 := Try.underlying169
  a76 := Try.isAgg169
  z76 := Try.sizeOf169
  v76 := Try.zeroValue169
  t77 := Try.underlying90
  a77 := Try.isAgg90
  z77 := Try.sizeOf90
  v77 := Try.zeroValue90 }
end
/-- draws and new blocks -/
def Gw (w W : World) : Prop := ∃ q os, W = Go.Sort.grow (w.drewN q) os
theorem Gw.refl (w : World) : Gw w w := ⟨0, #[], by rw [Go.Sort.grow_empty]; rfl⟩
theorem Gw.drew {w W : World} (h : Gw w W) : Gw w W.drew := by
  obtain ⟨q, os, rfl⟩ := h
  exact ⟨q + 1, os, rfl⟩
theorem Gw.alloc {w W : World} (h : Gw w W) (o : Obj) : Gw w (W.alloc o) := by
  obtain ⟨q, os, rfl⟩ := h
  exact ⟨q, os ++ #[o], by rw [Go.Sort.alloc_eq_grow, Go.Sort.grow_grow]⟩
theorem Gw.trans {a b c : World} (h : Gw a b) (h' : Gw b c) : Gw a c := by
  obtain ⟨q, os, rfl⟩ := h
  obtain ⟨q', os', rfl⟩ := h'
  refine ⟨q + q', os ++ os', ?_⟩
  rw [← Go.Sort.grow_grow]
  congr 1
  show Go.Sort.grow ((a.drewN q).drewN q') os = _
  rw [World.drewN_drewN]
theorem Gw.below {w W : World} (h : Gw w W) : Below w.heap.size w W := by
  obtain ⟨q, os, rfl⟩ := h
  refine ⟨rfl, rfl, rfl, ?_, fun k hk => ?_⟩
  · simp
  · unfold Go.Sort.grow
    simp only
    rw [Array.getElem?_append_left (by simpa using hk)]
    rfl
set_option maxHeartbeats 4000000 in
theorem pegCompareW_any (a1 a2 b1 b2 : Int) (w : World) :
    Calls Try.prog 118 #[.agg #[.int .i64 a1, .int .i64 a2], .agg #[.int .i64 b1, .int .i64 b2]] w fun e w' => e = .returned (.int .i64 (cmpP (a1, a2) (b1, b2))) ∧ Gw w w' := by
  have K1 := Lib.hid (fun W => compare_any a1 b1 W)
  have K2 := Lib.hid (fun W => compare_any a2 b2 W)
  have KO : Hid (∀ (g n : Nat) (W : World) (h0 : W.cell? ⟨g, 0, none⟩ = some (.int .i64 (sgI (a1 - b1)))) (h1 : W.cell? ⟨g, 1, none⟩ = some (.int .i64 (sgI (a2 - b2)))), Calls Try.prog 132 #[.slice (some ⟨g, 0, none⟩) 2 n] W fun e w' => e = .returned (.int .i64 (cmpP (a1, a2) (b1, b2))) ∧ W = w') := Lib.hid (fun g n W h0 h1 => or2_any g n (sgI (a1 - b1)) (sgI (a2 - b2)) W h0 h1)
  generalize cmpP (a1, a2) (b1, b2) = r at *
  generalize sgI (a1 - b1) = x at *
  generalize sgI (a2 - b2) = y at *
  go_enter Try.func118, Try.ntmps118
  go_wp2_with fail
  obtain ⟨Wp, hWp⟩ : ∃ Wp, Wp = ((w.alloc (.cells #[.int .i64 a1, .int .i64 a2] 56)).alloc (.cells #[.int .i64 b1, .int .i64 b2] 56)) := ⟨_, rfl⟩
  rw [← hWp]
  have yWp0_0 : Wp.cell? ⟨w.heap.size, 0, none⟩ = some (.int .i64 a1) := by rw [hWp]; go_simp
  have yWp0_1 : Wp.cell? ⟨w.heap.size, 1, none⟩ = some (.int .i64 a2) := by rw [hWp]; go_simp
  have fWp0 : ∀ o, Wp.frozen? ⟨w.heap.size, o, none⟩ = false := by intro o; rw [hWp]; (repeat rw [frozen?_alloc_cells]); simp [World.frozen?]
  have zWp0 : w.heap.size < Wp.heap.size := by rw [hWp]; simp <;> omega
  have yWp1_0 : Wp.cell? ⟨w.heap.size + 1, 0, none⟩ = some (.int .i64 b1) := by rw [hWp]; go_simp
  have yWp1_1 : Wp.cell? ⟨w.heap.size + 1, 1, none⟩ = some (.int .i64 b2) := by rw [hWp]; go_simp
  have fWp1 : ∀ o, Wp.frozen? ⟨w.heap.size + 1, o, none⟩ = false := by intro o; rw [hWp]; (repeat rw [frozen?_alloc_cells]); simp [World.frozen?]
  have zWp1 : w.heap.size + 1 < Wp.heap.size := by rw [hWp]; simp <;> omega
  have BWp : Below w.heap.size w Wp := by rw [hWp]; exact (Below.alloc (Below.alloc (Below.refl _ _) (by simp <;> omega) _) (by simp <;> omega) _)
  have eWp : Hid (Wp.heap.size = w.heap.size + 2) := Lib.hid (by rw [hWp]; simp)
  have GWp : Gw w Wp := by rw [hWp]; exact (Gw.alloc (Gw.alloc (Gw.refl _) _) _)
  clear hWp
  refine wp_region_BT 10 (fun W => Gw (Wp) W) (by kernel_rfl) (by kernel_rfl) (by repeat (first | exact Gw.refl _ | apply Gw.drew)) ?_
  simp only [List.take_succ_cons, List.take_zero, List.drop_succ_cons, List.drop_zero]
  first | refine wpH_skip (by rfl) ?_ | (refine wpH_text (v := ?_) (by rfl) (fun W k1 => ?_) ?_; rotate_left; (obtain ⟨hc1, hf1⟩ := bcell (Gw.below k1);  go_simp; refine comes_v ?_; exact k1))
  (try simp only [Act.put, List.setIfInBounds_toArray, List.set_cons_zero, List.set_cons_succ])
  first | refine wpH_skip (by rfl) ?_ | (refine wpH_text (v := ?_) (by rfl) (fun W k1 => ?_) ?_; rotate_left; (obtain ⟨hc1, hf1⟩ := bcell (Gw.below k1);  go_simp; refine comes_v ?_; exact k1))
  (try simp only [Act.put, List.setIfInBounds_toArray, List.set_cons_zero, List.set_cons_succ])
  first | refine wpH_skip (by rfl) ?_ | (refine wpH_text (v := ?_) (by rfl) (fun W k1 => ?_) ?_; rotate_left; (obtain ⟨hc1, hf1⟩ := bcell (Gw.below k1);  go_simp; refine comes_v ?_; exact k1))
  (try simp only [Act.put, List.setIfInBounds_toArray, List.set_cons_zero, List.set_cons_succ])
  first | refine wpH_skip (by rfl) ?_ | (refine wpH_text (v := ?_) (by rfl) (fun W k1 => ?_) ?_; rotate_left; (obtain ⟨hc1, hf1⟩ := bcell (Gw.below k1);  go_simp; refine comes_v ?_; exact k1))
  (try simp only [Act.put, List.setIfInBounds_toArray, List.set_cons_zero, List.set_cons_succ])
  first | refine wpH_skip (by rfl) ?_ | (refine wpH_text (v := .int .i64 x) (by rfl) (fun W k1 => ?_) ?_; (obtain ⟨hc1, hf1⟩ := bcell (Gw.below k1);  go_simp; exact comes_q ( K1.out _) k1))
  (try simp only [Act.put, List.setIfInBounds_toArray, List.set_cons_zero, List.set_cons_succ])
  first | refine wpH_skip (by rfl) ?_ | (refine wpH_text (v := ?_) (by rfl) (fun W k1 => ?_) ?_; rotate_left; (obtain ⟨hc1, hf1⟩ := bcell (Gw.below k1);  go_simp; refine comes_v ?_; exact k1))
  (try simp only [Act.put, List.setIfInBounds_toArray, List.set_cons_zero, List.set_cons_succ])
  first | refine wpH_skip (by rfl) ?_ | (refine wpH_text (v := ?_) (by rfl) (fun W k1 => ?_) ?_; rotate_left; (obtain ⟨hc1, hf1⟩ := bcell (Gw.below k1);  go_simp; refine comes_v ?_; exact k1))
  (try simp only [Act.put, List.setIfInBounds_toArray, List.set_cons_zero, List.set_cons_succ])
  first | refine wpH_skip (by rfl) ?_ | (refine wpH_text (v := ?_) (by rfl) (fun W k1 => ?_) ?_; rotate_left; (obtain ⟨hc1, hf1⟩ := bcell (Gw.below k1);  go_simp; refine comes_v ?_; exact k1))
  (try simp only [Act.put, List.setIfInBounds_toArray, List.set_cons_zero, List.set_cons_succ])
  first | refine wpH_skip (by rfl) ?_ | (refine wpH_text (v := ?_) (by rfl) (fun W k1 => ?_) ?_; rotate_left; (obtain ⟨hc1, hf1⟩ := bcell (Gw.below k1);  go_simp; refine comes_v ?_; exact k1))
  (try simp only [Act.put, List.setIfInBounds_toArray, List.set_cons_zero, List.set_cons_succ])
  first | refine wpH_skip (by rfl) ?_ | (refine wpH_text (v := .int .i64 y) (by rfl) (fun W k1 => ?_) ?_; (obtain ⟨hc1, hf1⟩ := bcell (Gw.below k1);  go_simp; exact comes_q ( K2.out _) k1))
  (try simp only [Act.put, List.setIfInBounds_toArray, List.set_cons_zero, List.set_cons_succ])
  refine wpH_nil ?_
  intro W k1; obtain ⟨hc1, hf1⟩ := bcell (Gw.below k1)
  go_wp2_with fail
  refine (KO.out W.heap.size 2 _ (by go_simp) (by go_simp)).mono ?_; rintro e w2 ⟨rfl, rfl⟩
  have BW := GWp.trans k1
  have B2 := Gw.alloc BW (.cells #[.int .i64 x, .int .i64 y] 3)
  go_wp2_with fail
  go_ret
  exact ⟨rfl, B2⟩
def encP (p : Int × Int) : List Value := [.int .i64 p.1, .int .i64 p.2]
theorem ltP {x y : Int × Int} : ltOf cmpP x y = true ↔ lxP x y := by unfold ltOf; rw [decide_eq_true_eq]; exact cmpP_lt
theorem ltPf {x y : Int × Int} : ltOf cmpP x y = false ↔ ¬ lxP x y := by rw [← ltP]; simp
theorem swoP : Go.Sort.SWO (ltOf cmpP) where
  irrefl x := by rw [ltPf]; unfold lxP; omega
  trans x y z h1 h2 := by rw [ltP] at *; unfold lxP at *; omega
  ntrans x y z h1 h2 := by rw [ltPf] at *; unfold lxP at *; omega
theorem partsP (x y : Int × Int) (h1 : ltOf cmpP x y = false) (h2 : ltOf cmpP y x = false) : x = y := by
  rw [ltPf] at *; unfold lxP at *; exact Prod.ext (by omega) (by omega)
theorem merge_srt {l : List (Int × Int)} (h : l.Nodup) : (l.mergeSort fun x y => !(ltOf cmpP) y x) = srt l := by
  refine sorted_same _ _ ?_ (srt_sorted h) (fun x => ?_)
  · have hp := List.pairwise_mergeSort (le := fun x y => !(ltOf cmpP) y x) (fun a b c h1 h2 => by
      simp only [Bool.not_eq_true'] at *
      exact swoP.ntrans c b a h2 h1) (fun a b => by
      simp only [Bool.or_eq_true, Bool.not_eq_true']
      rw [ltPf, ltPf]
      unfold lxP; omega) l
    have hn : (l.mergeSort fun x y => !(ltOf cmpP) y x).Pairwise (· ≠ ·) := by
      rw [← List.nodup_iff_pairwise_ne]
      exact (List.mergeSort_perm _ _).nodup_iff.2 h
    refine (hp.and hn).imp fun {a b} hab => ?_
    have h1 : ¬ lxP b a := by rw [← ltPf]; simpa using hab.1
    have h2 := hab.2
    unfold lxP at *
    by_cases e1 : a.1 = b.1
    · by_cases e2 : a.2 = b.2
      · exact absurd (Prod.ext e1 e2) h2
      · omega
    · omega
  · rw [srt_mem]; exact (List.mergeSort_perm _ _).mem_iff
section
open Go.Shelf Go.Sort Go.Lib
theorem flatK_size (l : List (Int × Int)) : (flatK encP 2 l.toArray).size = l.length * 2 := by rw [size_flatK]; simp
theorem flatK_at (l : List (Int × Int)) (t : Nat) (h : t < l.length * 2) : (flat l)[t]? = some ((flatK encP 2 l.toArray)[t]!) := by
  have h1 := flat_get l (t / 2) (by omega)
  rw [get_flatK _ _ _ _ (by simpa using h)]
  have ep : l.toArray[t / 2]! = pt l (t / 2) := by
    have hh : t / 2 < l.length := by omega
    unfold pt
    rw [getElem!_pos _ _ (by simpa using hh), List.getElem?_eq_getElem hh]
    simp
  rw [ep]
  rcases Nat.mod_two_eq_zero_or_one t with m | m
  · rw [m]
    have := h1.1
    rw [show t / 2 * 2 = t by omega] at this
    exact this
  · rw [m]
    have := h1.2
    rw [show t / 2 * 2 + 1 = t by omega] at this
    exact this
theorem holds_own {w : World} {base g n cap : Nat} {l : List (Int × Int)} (h : w.ownsRow base 56 2 (.slice (some ⟨g, 0, none⟩) n cap) n (flat l)) (hl : l.length = n) : HoldsK encP 2 w g 0 l.toArray := by
  intro j hj
  rw [flatK_size] at hj
  have hc := World.ownsRow.cellAt h j (by omega)
  rw [flatK_at l j hj] at hc
  rw [Nat.zero_add]
  refine ⟨hc, ?_⟩
  rcases h.2 with ⟨hv, _⟩ | ⟨g', cap', cur, hv, hg, hh, r⟩
  · simp at hv
  · simp only [Value.slice.injEq, Option.some.injEq, Addr.mk.injEq, and_true, true_and] at hv
    obtain ⟨rfl, rfl⟩ := hv
    simp [World.frozen?, hh]
theorem own_sorted {w : World} {base g n cap m : Nat} {os : Array Obj} {l l' : List (Int × Int)} (h : w.ownsRow base 56 2 (.slice (some ⟨g, 0, none⟩) n cap) n (flat l)) (hl' : l'.length = n) :
    (sortWorldK encP 2 w g 0 m l'.toArray os).ownsRow base 56 2 (.slice (some ⟨g, 0, none⟩) n cap) n (flat l') := by
  refine ⟨by rw [flat_len, hl'], .inr ?_⟩
  rcases h.2 with ⟨hv, _⟩ | ⟨g', cap', cur, hv, hg, hh, hc, hm, hs, ht⟩
  · simp at hv
  · simp only [Value.slice.injEq, Option.some.injEq, Addr.mk.injEq, and_true, true_and] at hv
    obtain ⟨rfl, rfl⟩ := hv
    have hlt : g < w.heap.size := by
      rcases Nat.lt_or_ge g w.heap.size with h | h
      · exact h
      · rw [Array.getElem?_eq_none h] at hh; simp at hh
    refine ⟨g, cap, Go.Sort.putCells id 0 (flatK encP 2 l'.toArray) cur, rfl, hg, ?_, hc, hm, by unfold Go.Sort.putCells; rw [Array.size_mapIdx]; exact hs, ?_⟩
    · unfold sortWorldK putRowK Go.Sort.putRow Go.Sort.mapBlock Go.Sort.grow
      simp only
      rw [Array.getElem?_append_left (by rw [Array.size_modify]; exact hlt), Array.getElem?_modify]
      rw [if_pos rfl]
      show Option.map _ w.heap[g]? = _
      rw [hh]
      rfl
    · apply List.ext_getElem?
      intro t
      by_cases h : t < n * 2
      · have hcs : t < cur.size := by rw [hs]; have := Nat.mul_le_mul_right 2 hc; omega
        rw [List.getElem?_take, if_pos h, flatK_at l' t (by omega)]
        unfold Go.Sort.putCells
        rw [Array.getElem?_toList, Array.getElem?_mapIdx, Array.getElem?_eq_getElem hcs]
        simp only [Option.map_some, Option.some.injEq]
        rw [if_pos ⟨Nat.zero_le _, by rw [flatK_size]; omega⟩]
        rfl
      · rw [List.getElem?_take, if_neg h, List.getElem?_eq_none (by rw [flat_len]; omega)]
theorem cmpLaysP (g m : Nat) (w : World) : CmpLays Try.prog 118 #[] encP 2 cmpP g 0 m w := by
  intro k os dk hs x y
  exact pegCompareW_any x.1 x.2 y.1 y.2 _
theorem sort_any (base g n cap : Nat) (l : List (Int × Int)) (w : World) (hl : l.length = n) (hnd : l.Nodup) (hn : n ≤ 1000000) (h : w.ownsRow base 56 2 (.slice (some ⟨g, 0, none⟩) n cap) n (flat l)) :
    Calls Try.prog 117 #[.slice (some ⟨g, 0, none⟩) n cap, .func (.func 118) #[] #[]] w fun e w' =>
      e = .returned (.tuple #[]) ∧ w'.ownsRow base 56 2 (.slice (some ⟨g, 0, none⟩) n cap) n (flat (srt l)) ∧ Below g w w' := by
  have hlt : g < w.heap.size := (World.ownsRow.lt h g rfl).2
  have hsz : l.toArray.size = n := by simpa using hl
  have hS := AnyQ.slices_SortFunc_total laySort 2 (fun _ => by kernel_rfl) (fun _ => by kernel_rfl) encP (fun _ => rfl) (fun x v hv => by simp [encP] at hv; rcases hv with rfl | rfl <;> rfl) cmpP swoP 118 #[] g 0 cap l.toArray w
    (enters_of Try.func118 (by kernel_rfl) rfl) (cmpLaysP g _ w) (holds_own h hl) hlt (by rw [hsz]; omega) partsP
  rw [hsz] at hS
  refine Calls.mono hS ?_
  rintro e w' ⟨rfl, q, os, rfl⟩
  rw [merge_srt hnd]
  refine ⟨rfl, own_sorted h (by rw [srt_len]; exact hl), ?_⟩
  refine ⟨rfl, rfl, rfl, size_sortWorldK_c _ _ _ _ _ _ _ _, fun k hk => ?_⟩
  unfold sortWorldK putRowK Go.Sort.putRow Go.Sort.mapBlock Go.Sort.grow
  simp only
  rw [Array.getElem?_append_left (by rw [Array.size_modify]; show k < w.heap.size; omega), Array.getElem?_modify, if_neg (by omega)]
  rfl
end
set_option maxHeartbeats 4000000 in
theorem clone_any (A : Option Addr) (c n : Nat) (l : List (Int × Int)) (w : World) (hln : l.length = n) (h1 : 1 ≤ n) (hn : n ≤ 1000000) (hR : Rd w w.heap.size A l) :
    Calls Try.prog 116 #[.slice A n c] w fun e w' =>
      ∃ g cap, e = .returned (.slice (some ⟨g, 0, none⟩) n cap) ∧ w'.ownsRow w.heap.size 56 2 (.slice (some ⟨g, 0, none⟩) n cap) n (flat l) ∧ Below w.heap.size w w' := by
  obtain ⟨i0, hi0, hz0, hz1, hz2⟩ := info_parts peg_info
  obtain ⟨b, off, rfl, hb, hc⟩ := hR (by omega)
  have hC := AnyE.slices_Clone layClone i0 (.agg #[.int .i64 0, .int .i64 0]) 2 16 hi0 hz0 hz1 hz2 rfl (by decide) (fun _ => by kernel_rfl) b off n c (flat l) w (by rw [flat_len, hln]) (by unfold maxLen; omega) (by omega)
    (fun j u hu => by
      have := flat_cells (w := w) (b := b) (off := off) (l := l) (fun i hi => hc i _ (pt_get hi)) j u hu
      rw [add_plain] at this
      exact this)
    (fun u hu => by
      obtain ⟨p, _, hp⟩ := List.mem_flatMap.1 hu
      simp at hp
      rcases hp with rfl | rfl <;> rfl)
  refine Calls.mono hC ?_
  rintro e w' ⟨v, rfl, ho, hnil, hb2⟩
  rcases own_val ho with ⟨rfl, _⟩ | ⟨g, cap, rfl, _⟩
  · exact absurd rfl hnil
  · exact ⟨g, cap, rfl, ho, hb2⟩
set_option maxHeartbeats 4000000 in
theorem inOrder_any (A : Option Addr) (c n : Nat) (l : List (Int × Int)) (w : World) (hln : l.length = n) (h1 : 1 ≤ n) (hn : n ≤ 1000000) (hnd : l.Nodup) (hR : Rd w w.heap.size A l) :
    Calls Try.prog 75 #[.slice A n c] w fun e w' => (∃ g cap, e = .returned (.slice (some ⟨g, 0, none⟩) n cap) ∧ w'.ownsRow w.heap.size 56 2 (.slice (some ⟨g, 0, none⟩) n cap) n (flat (srt l))) ∧ Below w.heap.size w w' := by
  have KC := Lib.hid (fun W (hb : Below w.heap.size w W) => clone_any A c n l W hln h1 hn (rd_more (rd_below hR hb (Nat.le_refl _)) hb.size))
  have KS := Lib.hid (fun base g cap W h => sort_any base g n cap l W hln hnd hn h)
  clear hR hln hnd
  go_enter Try.func75, Try.ntmps75
  go_wp2_with fail
  refine (KC.out w (Below.refl _ _)).mono ?_; rintro e w1 ⟨g, cap, rfl, ho, hb1⟩
  have hg := (World.ownsRow.lt ho g rfl).1
  have HO := Lib.hid ho
  clear ho
  go_wp2_with fail
  refine (KS.out _ _ _ _ HO.out).mono ?_; rintro e w2 ⟨rfl, ho2, hb2⟩
  have HO2 := Lib.hid ho2
  clear ho2
  go_wp2_with fail
  go_ret
  exact ⟨⟨g, cap, rfl, HO2.out⟩, hb1.trans (hb2.mono hg)⟩
end Go.Proofs.Ytheddoinnakneaa
/- A statement that leaves the order of its first operations open, one of which makes a new block; the last ones stand in one order: one walk, in the order of the text, whatever the block's number. -/
namespace Go.Proofs.Ytheddoinnakneaa
open Go.ChangeShapes Go.WideShapes Go.ChangeAt Go.RowKit Go.Joins
set_option linter.unusedVariables false
set_option linter.unusedSimpArgs false
set_option maxRecDepth 4000
section
variable {P : Program} {ops : Array Oper} {md : Region.Mode} {W0 : World}
theorem comes_mono {S S' : World → Prop} {v : Value} {r : Result Next} (h : Comes P S v r) (hk : ∀ w, S w → S' w) : Comes P S' v r := by
  cases r with
  | ok n w' =>
    cases n with
    | value u => exact ⟨h.1, hk _ h.2⟩
    | skip => exact ⟨h.1, hk _ h.2⟩
    | enter f args => exact Calls.mono h fun e w'' he => ⟨he.1, hk _ he.2⟩
    | _ => exact h.elim
  | halt x w' => exact h.elim
def SteadyR (P : Program) (ops : Array Oper) (W0 : World) (o : Oper) (v : Value) (a : Act) : Prop :=
  (Region.wanted o (yielded ops a.tmps) = true ∧ ∀ w, Below W0.heap.size W0 w → Comes P (fun w' => Below w.heap.size w w') v ((execOp a.eval o).run P w)) ∨
  (Region.wanted o (yielded ops a.tmps) = false ∧ v = undef)
theorem steady_of_R {S : World → Prop} {o : Oper} {v : Value} {a : Act} (h : SteadyR P ops W0 o v a) (hS : ∀ w, S w → Below W0.heap.size W0 w) (hK : ∀ w w', S w → Below w.heap.size w w' → S w') : Steady P ops S o v a := by
  rcases h with ⟨h1, h2⟩ | h
  · exact Or.inl ⟨h1, fun w hw => comes_mono (h2 w (hS w hw)) fun w' hb => hK w w' hw hb⟩
  · exact Or.inr h
theorem steadyR_same {o : Oper} {v : Value} {a a' : Act} (hy : SteadyR P ops W0 o v a) (he : execOp a'.eval o = execOp a.eval o)
    (hw : Region.wanted o (yielded ops a'.tmps) = Region.wanted o (yielded ops a.tmps)) : SteadyR P ops W0 o v a' := by
  unfold SteadyR at *; rw [he, hw]; exact hy
def wpAnyR (P : Program) (md : Region.Mode) (ops : Array Oper) (W0 : World) (n : Nat) (L : Array Bool → Act → Prop) : Nat → Array Bool → Act → Prop
  | 0, listed, a => L listed a
  | f + 1, listed, a => Region.ready md ops listed ≠ [] ∧ ∀ i ∈ Region.ready md ops listed, i < n ∧ ∃ oi v, ops[i]? = some oi ∧ SteadyR P ops W0 oi v a ∧ wpAnyR P md ops W0 n L f (listed.setIfInBounds i true) (a.put oi.dst v)
theorem wpAnyS_of_R {n : Nat} {L : Array Bool → Act → Prop} {S : World → Prop} (hS : ∀ w, S w → Below W0.heap.size W0 w) (hK : ∀ w w', S w → Below w.heap.size w w' → S w') :
    ∀ (f : Nat) (listed : Array Bool) (a : Act), wpAnyR P md ops W0 n L f listed a → wpAnyS P md ops S n L f listed a
  | 0, _, _, h => h
  | f + 1, listed, a, h => ⟨h.1, fun i hi => by
      obtain ⟨h1, oi, v, ho, hy, hn⟩ := h.2 i hi
      exact ⟨h1, oi, v, ho, steady_of_R hy hS hK, wpAnyS_of_R hS hK f _ _ hn⟩⟩
theorem wpAnyR_first {n i : Nat} {oi : Oper} {v : Value} {L : Array Bool → Act → Prop} (hi : ops[i]? = some oi) (hsel : ∀ (j : Nat) (o : Oper) cs b, ops[j]? = some o → o.op ≠ .select cs b)
    (hs : Region.sinkB md ops n = true) (hc : Region.chainB md ops n = true) (hn : n < ops.size) (hin : i < n)
    (hdone : ∀ listed a, L listed a → ∀ j ∈ Region.ready md ops listed, n ≤ j) :
    ∀ (f : Nat) (listed : Array Bool) (a : Act), HeadInv md ops n listed →
      (∀ j oj, ops[j]? = some oj → j ≠ i → listed.getD j true = false → (∀ e ∈ oj.after, Region.binds md e = true → e.on ≠ i) → oi.apart ops oj = true) →
      i ∈ Region.ready md ops listed → SteadyR P ops W0 oi v a →
      wpAnyR P md ops W0 n L f (listed.setIfInBounds i true) (a.put oi.dst v) → wpAnyR P md ops W0 n L (f + 1) listed a := by
  intro f
  induction f with
  | zero =>
    intro listed a inv _ hr hy H
    have hun := (mem_ready.1 hr).1
    refine ⟨fun h => (by rw [h] at hr; cases hr), fun j hj => ?_⟩
    have hjn : j < n := by
      rcases Nat.lt_or_ge j n with h | h
      · exact h
      · exact absurd hj (tail_waits hs hc hn inv _ i rfl hin hun j h)
    refine ⟨hjn, ?_⟩
    by_cases hji : j = i
    · subst hji; exact ⟨oi, v, hi, hy, H⟩
    · have := hdone _ _ H j (ready_mono hj hji)
      omega
  | succ f ih =>
    intro listed a inv hfree hr hy H
    have hun := (mem_ready.1 hr).1
    refine ⟨fun h => (by rw [h] at hr; cases hr), fun j hj => ?_⟩
    have hjn : j < n := by
      rcases Nat.lt_or_ge j n with h | h
      · exact h
      · exact absurd hj (tail_waits hs hc hn inv _ i rfl hin hun j h)
    refine ⟨hjn, ?_⟩
    by_cases hji : j = i
    · subst hji; exact ⟨oi, v, hi, hy, H⟩
    · obtain ⟨_, oj, u, hoj, hsj, Hj⟩ := H.2 j (ready_mono hj hji)
      obtain ⟨hjun, oj', hoj', hall⟩ := mem_ready.1 hj
      obtain rfl : oj' = oj := Option.some.inj (hoj'.symm.trans hoj)
      have hnot : ∀ e ∈ oj'.after, Region.binds md e = true → e.on ≠ i := fun e he hb heq => by
        have h1 := hall e he hb
        rw [heq, getD_both hun] at h1
        cases h1
      obtain ⟨h1, h2, h3⟩ := Oper.apart_spec (hfree j oj' hoj hji hjun hnot)
      have k1 : SteadyR P ops W0 oj' u a := steadyR_same hsj (execOp_put oj' (fun cs b => hsel j oj' cs b hoj) a oi.dst v h1).symm (wanted_put oj' a oi.dst v h1).symm
      have k2 : SteadyR P ops W0 oi v (a.put oj'.dst u) := steadyR_same hy (execOp_put oi (fun cs b => hsel i oi cs b hi) a oj'.dst u h3) (wanted_put oi a oj'.dst u h3)
      refine ⟨oj', u, hoj, k1, ih _ _ (inv.set hj hjn) (fun k ok hk hki hun hno => ?_) (ready_mono hr (Ne.symm hji)) k2 ?_⟩
      · refine hfree k ok hk hki ?_ hno
        by_cases hjk : j = k
        · subst hjk; exact hjun
        · rw [getD_set_ne true hjk] at hun; exact hun
      · rw [Array.setIfInBounds_comm _ _ hji, ← Act.put_comm a v u h2]
        exact Hj
/-- the head, in the text's order -/
def wpHR (P : Program) (ops : Array Oper) (W0 : World) (T : Act → Prop) : List Oper → Act → Prop
  | [], a => T a
  | o :: rest, a => ∃ v, SteadyR P ops W0 o v a ∧ wpHR P ops W0 T rest (a.put o.dst v)
def lexZ (md : Region.Mode) (ops : Array Oper) (g n : Nat) : Nat → Nat → Array Bool → Bool
  | 0, _, listed => Region.seqB md ops g n listed
  | m + 1, k, listed => (Region.ready md ops listed).contains k && Region.free md ops listed k && lexZ md ops g n m (k + 1) (listed.setIfInBounds k true)
theorem wpAnyR_lex {n g : Nat} {T : Act → Prop} (hsel : Region.noSelect ops = true) (hs : Region.sinkB md ops n = true) (hc : Region.chainB md ops n = true) (hn : n < ops.size) :
    ∀ (l : List Oper) (k : Nat) (listed : Array Bool) (a : Act), (∀ j, j < l.length → l[j]? = ops[k + j]?) → k + l.length < n → HeadInv md ops n listed →
    lexZ md ops g n l.length k listed = true → wpHR P ops W0 T l a →
    wpAnyR P md ops W0 n (fun listed' a' => Region.seqB md ops g n listed' = true ∧ T a') l.length listed a
  | [], k, listed, a, _, _, _, hB, h => ⟨hB, h⟩
  | o :: l, k, listed, a, hl, hk, inv, hB, h => by
    have h0 : ops[k]? = some o := by simpa using (hl 0 (by simp)).symm
    simp only [List.length_cons, lexZ, Bool.and_eq_true] at hB
    obtain ⟨⟨hr, hf⟩, hB'⟩ := hB
    have hkn : k < n := by simp only [List.length_cons] at hk; omega
    have hr' : k ∈ Region.ready md ops listed := by simpa using hr
    obtain ⟨v, hy, hK⟩ := h
    exact wpAnyR_first h0 (Region.noSelect_spec hsel) hs hc hn hkn (fun listed' a' hL => seqB_ready hL.1) l.length listed a inv (Region.free_spec h0 hf) hr' hy
      (wpAnyR_lex hsel hs hc hn l (k + 1) _ _ (fun j hj => by have := hl (j + 1) (by simp; omega); simpa [Nat.add_assoc, Nat.add_comm 1 j] using this) (by simp only [List.length_cons] at hk; omega) (inv.set hr' hkn) hB' hK)
theorem getD_set_keep {listed : Array Bool} {j z : Nat} (h : listed.getD z true = true) : (listed.setIfInBounds j true).getD z true = true := by
  by_cases hj : j = z
  · subst hj
    rcases Nat.lt_or_ge j listed.size with h' | h'
    · simp [h']
    · simp [Array.getElem?_eq_none h']
  · rw [getD_set_ne true hj]; exact h
/-- what the head comes to, with another slot set -/
theorem wpAnyR_put {n z : Nat} {oz : Oper} {vz : Value} {L : Array Bool → Act → Prop} (hsel : ∀ (j : Nat) (o : Oper) cs b, ops[j]? = some o → o.op ≠ .select cs b)
    (hap : ∀ j oj, j < n → j ≠ z → ops[j]? = some oj → oz.apart ops oj = true) :
    ∀ (f : Nat) (listed : Array Bool) (a : Act), listed.getD z true = true → wpAnyR P md ops W0 n L f listed a →
      wpAnyR P md ops W0 n (fun l' a' => ∃ b, L l' b ∧ a' = b.put oz.dst vz) f listed (a.put oz.dst vz)
  | 0, listed, a, _, h => ⟨a, h, rfl⟩
  | f + 1, listed, a, hz, h => ⟨h.1, fun j hj => by
      obtain ⟨hjn, oj, u, hoj, hsj, Hj⟩ := h.2 j hj
      have hjz : j ≠ z := by
        intro e
        subst e
        have := (mem_ready.1 hj).1
        rw [hz] at this
        cases this
      obtain ⟨h1, h2, h3⟩ := Oper.apart_spec (hap j oj hjn hjz hoj)
      refine ⟨hjn, oj, u, hoj, steadyR_same hsj (execOp_put oj (fun cs b => hsel j oj cs b hoj) a oz.dst vz h1) (wanted_put oj a oz.dst vz h1), ?_⟩
      rw [Act.put_comm a vz u h2]
      exact wpAnyR_put hsel hap f _ _ (getD_set_keep hz) Hj⟩
theorem op_gives {o : Oper} {a : Act} {K : Act → World → Prop} {Q : Exit → Act → World → Prop} {W w' : World} {v : Value} {i : Nat} (hi : ops[i]? = some o) (hw : Region.wanted o (yielded ops a.tmps) = true)
    (h1 : (execOp a.eval o).run P W = .ok (.value v) w') (h2 : K (a.put o.dst v) w') : wpOp P ops Q i K a W := by
  unfold wpOp
  simp only [hi, hw, if_true]
  left
  unfold Oper.wp
  rw [h1]
  exact h2
theorem wpAny_alloc {n z g : Nat} {oz : Oper} {obj : Obj} {rest : List Oper} {T : Act → Prop} {Q : Exit → Act → World → Prop} (hsel : ∀ (j : Nat) (o : Oper) cs b, ops[j]? = some o → o.op ≠ .select cs b)
    (hs : Region.sinkB md ops n = true) (hc : Region.chainB md ops n = true) (hn : n < ops.size) (hz : z < n) (hoz : ops[z]? = some oz)
    (hap : ∀ j oj, j < n → j ≠ z → ops[j]? = some oj → oz.apart ops oj = true) (hw : ∀ a : Act, Region.wanted oz (yielded ops a.tmps) = true)
    (hal : ∀ (a : Act) W, (execOp a.eval oz).run P W = .ok (.value (.pointer (some ⟨W.heap.size, 0, none⟩))) (W.alloc obj))
    (hrest : ∀ j, rest[j]? = ops[n + j]?) (hg : rest.length = g)
    (hT : ∀ a', T a' → ∀ W1 W, Below W0.heap.size W0 W1 → Below (W1.alloc obj).heap.size (W1.alloc obj) W → wpList P ops Q rest (a'.put oz.dst (.pointer (some ⟨W1.heap.size, 0, none⟩))) W) :
    ∀ (f : Nat) (listed : Array Bool) (a : Act), HeadInv md ops n listed → z ∈ Region.ready md ops listed →
      wpAnyR P md ops W0 n (fun l' a' => Region.seqB md ops g n l' = true ∧ T a') f (listed.setIfInBounds z true) a →
      ∀ W, Below W0.heap.size W0 W → wpAny P md ops Q (f + 1 + g) listed a W := by
  have doz : ∀ (f : Nat) (listed : Array Bool) (a : Act), z ∈ Region.ready md ops listed →
      wpAnyR P md ops W0 n (fun l' a' => Region.seqB md ops g n l' = true ∧ T a') f (listed.setIfInBounds z true) a →
      ∀ W, Below W0.heap.size W0 W → wpOp P ops Q z (fun a' w' => wpAny P md ops Q (f + g) (listed.setIfInBounds z true) a' w') a W := by
    intro f listed a hr H W hW
    refine op_gives hoz (hw _) (hal _ _) ?_
    have hzl : (listed.setIfInBounds z true).getD z true = true := by
      rcases Nat.lt_or_ge z listed.size with h' | h'
      · simp [h']
      · simp [Array.getElem?_eq_none h']
    have hWA : Below W0.heap.size W0 (W.alloc obj) := Below.alloc hW hW.size obj
    have H2 := wpAnyR_put (vz := .pointer (some ⟨W.heap.size, 0, none⟩)) hsel hap f _ _ hzl H
    have H3 := wpAnyS_of_R (S := fun w => Below (W.alloc obj).heap.size (W.alloc obj) w) (fun w hb => hWA.trans (hb.mono hWA.size)) (fun w w' h1 h2 => h1.trans (h2.mono h1.size)) f _ _ H2
    refine wpAny_of_S (Q := Q) (g := g) (fun l' a' hL W' hW' => ?_) f _ _ H3 (W.alloc obj) (Below.refl _ _)
    obtain ⟨b, ⟨hB, hTb⟩, rfl⟩ := hL
    have := wpAny_of_seq (md := md) (Q' := Q) rest n l' _ W' hrest (by rw [hg]; exact hB) (hT b hTb W W' hW hW')
    rwa [hg] at this
  intro f
  induction f with
  | zero =>
    intro listed a inv hr H W hW
    rw [show 0 + 1 + g = (0 + g) + 1 by omega]
    refine ⟨fun h => (by rw [h] at hr; cases hr), fun j hj => ?_⟩
    by_cases hjz : j = z
    · subst hjz; exact doz 0 listed a hr H W hW
    · have h1 := seqB_ready H.1 j (ready_mono hj hjz)
      exact absurd hj (tail_waits hs hc hn inv _ z rfl hz (mem_ready.1 hr).1 j h1)
  | succ f ih =>
    intro listed a inv hr H W hW
    rw [show f + 1 + 1 + g = (f + 1 + g) + 1 by omega]
    refine ⟨fun h => (by rw [h] at hr; cases hr), fun j hj => ?_⟩
    by_cases hjz : j = z
    · subst hjz; exact doz (f + 1) listed a hr H W hW
    · obtain ⟨hjn, oj, u, hoj, hsj, Hj⟩ := H.2 j (ready_mono hj hjz)
      have hst : Steady P ops (fun w => Below W0.heap.size W0 w) oj u a := steady_of_R hsj (fun w h => h) (fun w w' h1 h2 => h1.trans (h2.mono h1.size))
      refine steady_op hoj hst hW fun w' hS' => ?_
      refine ih (listed.setIfInBounds j true) (a.put oj.dst u) (inv.set hj hjn) (ready_mono hr (Ne.symm hjz)) ?_ w' hS'
      rw [Array.setIfInBounds_comm _ _ hjz]
      exact Hj
def lexAllB (md : Region.Mode) (ops : Array Oper) (z : Nat) : Bool :=
  Region.noSelect ops && decide (z + 1 < ops.size) && Region.sinkB md ops (z + 1) && Region.chainB md ops (z + 1) && (Region.ready md ops (Array.replicate ops.size false)).contains z &&
    ((List.range z).all fun j => match ops[z]?, ops[j]? with | some oz, some oj => oz.apart ops oj | _, _ => false) &&
    lexZ md ops (ops.size - (z + 1)) (z + 1) z 0 ((Array.replicate ops.size false).setIfInBounds z true)
theorem wp_region_AL {id : Nat} {Q : Exit → Act → World → Prop} {a : Act} {w : World} {l : List Oper} (z : Nat) {oz : Oper} {rest : List Oper} {obj : Obj} (W0 : World) (hm : P.follows .mixedOrders = true) (hB : lexAllB .any l.toArray z = true)
    (hS : Below W0.heap.size W0 w.drew) (hlz : l.drop z = oz :: rest) (hw : ∀ a, Region.wanted oz (yielded l.toArray a) = true)
    (hal : ∀ (a : Act) W, (execOp a.eval oz).run P W = .ok (.value (.pointer (some ⟨W.heap.size, 0, none⟩))) (W.alloc obj))
    (h : wpHR P l.toArray W0 (fun a' => ∀ W1 W, Below W0.heap.size W0 W1 → Below (W1.alloc obj).heap.size (W1.alloc obj) W → wpList P l.toArray Q rest (a'.put oz.dst (.pointer (some ⟨W1.heap.size, 0, none⟩))) W) (l.take z) a) :
    (Code.region id l.toArray true).wp P Q a w := by
  simp only [lexAllB, Bool.and_eq_true, decide_eq_true_eq] at hB
  obtain ⟨⟨⟨⟨⟨⟨hsel, hn⟩, hs⟩, hc⟩, hr0⟩, hap⟩, hlex⟩ := hB
  have hn' : z + 1 < l.length := by simpa using hn
  have hoz : l.toArray[z]? = some oz := by
    have h0 : (l.drop z)[0]? = some oz := by rw [hlz]; rfl
    simpa [List.getElem?_drop] using h0
  have hrest : ∀ j, rest[j]? = l.toArray[z + 1 + j]? := fun j => by
    have h0 : (l.drop z)[j + 1]? = rest[j]? := by rw [hlz]; rfl
    rw [← h0]
    simp [List.getElem?_drop]
    congr 1
    omega
  have hrl : rest.length = l.toArray.size - (z + 1) := by
    have := congrArg List.length hlz
    simp at this ⊢
    omega
  have htl : (l.take z).length = z := by simp; omega
  have inv0 : HeadInv .any l.toArray (z + 1) (Array.replicate l.toArray.size false) :=
    ⟨by simp, fun j oj _ hl => (by rw [getD_replicate_false] at hl; cases hl), fun t _ ht => getD_in (by simpa using ht) (getD_replicate_false _ _)⟩
  have hr0' : z ∈ Region.ready .any l.toArray (Array.replicate l.toArray.size false) := by simpa using hr0
  have H := wpAnyR_lex (md := .any) (g := l.toArray.size - (z + 1)) hsel hs hc hn (l.take z) 0 _ a (fun j hj => by
    have hj' : j < z := by rw [htl] at hj; exact hj
    simp [List.getElem?_take, hj']) (by rw [htl]; omega) (inv0.set hr0' (by omega)) (by rw [htl]; exact hlex) h
  refine wp_region_any hm ?_
  have hap' : ∀ j oj, j < z + 1 → j ≠ z → l.toArray[j]? = some oj → oz.apart l.toArray oj = true := fun j oj hj hjz hoj => by
    have h1 := List.all_eq_true.1 hap j (List.mem_range.2 (by omega))
    simpa only [hoz, hoj] using h1
  have := wpAny_alloc (md := .any) (Q := Q) (g := l.toArray.size - (z + 1)) (rest := rest) (Region.noSelect_spec hsel) hs hc hn (by omega) hoz hap' (fun a => hw a.tmps) hal hrest hrl (fun a' hT => hT) (l.take z).length _ a inv0 hr0' H w.drew hS
  rw [htl, show z + 1 + (l.toArray.size - (z + 1)) = l.toArray.size by omega] at this
  exact this
theorem wpR_text {T : Act → Prop} {o : Oper} {rest : List Oper} {a : Act} {v : Value} (hw : Region.wanted o (yielded ops a.tmps) = true) (hy : ∀ w, Below W0.heap.size W0 w → Comes P (fun w' => Below w.heap.size w w') v ((execOp a.eval o).run P w))
    (h : wpHR P ops W0 T rest (a.put o.dst v)) : wpHR P ops W0 T (o :: rest) a := ⟨v, Or.inl ⟨hw, hy⟩, h⟩
theorem wpR_skip {T : Act → Prop} {o : Oper} {rest : List Oper} {a : Act} (hw : Region.wanted o (yielded ops a.tmps) = false)
    (h : wpHR P ops W0 T rest (a.put o.dst undef)) : wpHR P ops W0 T (o :: rest) a := ⟨undef, Or.inr ⟨hw, rfl⟩, h⟩
theorem wpR_nil {T : Act → Prop} {a : Act} (h : T a) : wpHR P ops W0 T [] a := h
end
end Go.Proofs.Ytheddoinnakneaa

