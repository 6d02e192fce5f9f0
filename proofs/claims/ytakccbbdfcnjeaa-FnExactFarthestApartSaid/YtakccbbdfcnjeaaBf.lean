/- contract: points put in order, the model -/
import Derived.Test.YtakccbbdfcnjeaaBf0
import Derived.Test.YtakccbbdfcnjeaaBc
import Derived.Deep.CutBlock
import Derived.Deep.DeepCutAuto
import Derived.Laws.AppendOwnNone
namespace Go.Proofs.Ytakccbbdfcnjeaa
open Go.ChangeShapes Go.WideShapes Go.ChangeAt Go.RowKit Go.Joins
set_option linter.unusedVariables false
set_option linter.unusedSimpArgs false
set_option maxRecDepth 4000
theorem pgLess_lx (a1 a2 b1 b2 : Int) (w : World) :
    Calls Try.prog 86 #[.agg #[.int .i64 a1, .int .i64 a2], .agg #[.int .i64 b1, .int .i64 b2]] w fun e w' => e = .returned (.bool (lxB (a1, a2) (b1, b2))) ∧ Below w.heap.size w w' := by
  by_cases h1 : a1 < b1
  · go_enter Try.func86, Try.ntmps86
    go_wp2_with fail
    go_ret
    exact ⟨ret_bool (by simp [lxB, h1]), (by repeat (first | exact Below.refl _ _ | assumption | apply Below.drew | refine Below.alloc ?_ (by simp <;> omega) _))⟩
  · by_cases h2 : a1 = b1
    · by_cases h3 : a2 < b2
      all_goals
        subst h2
        go_enter Try.func86, Try.ntmps86
        go_wp2_with fail
        go_ret
        exact ⟨ret_bool (by simp [lxB, h3]), (by repeat (first | exact Below.refl _ _ | assumption | apply Below.drew | refine Below.alloc ?_ (by simp <;> omega) _))⟩
    · go_enter Try.func86, Try.ntmps86
      go_wp2_with fail
      go_ret
      exact ⟨ret_bool (by simp [lxB, h1, h2]), (by repeat (first | exact Below.refl _ _ | assumption | apply Below.drew | refine Below.alloc ?_ (by simp <;> omega) _))⟩
set_option maxHeartbeats 8000000 in
theorem bdSorted_any (A : Option Addr) (c n : Nat) (l : List (Int × Int)) (w : World) (hln : l.length = n) (hn : n ≤ 1048576) (hR : Rd w w.heap.size A l) :
    Calls Try.prog 53 #[.slice A n c] w fun e w' => (∃ v, e = .returned v ∧ w'.ownsRow w.heap.size 25 2 v n (flat (srt l))) ∧ Below w.heap.size w w' := by
  obtain ⟨i0, hi0, hz0, hz1, hz2⟩ := info_parts peg_info
  have HI := Lib.hid (And.intro hi0 (And.intro hz0 (And.intro hz1 hz2)))
  have HN := Lib.hid hln
  have HC : Hid (∀ W, Below w.heap.size w W → ∀ i, i < n → ∃ b off, A = some ⟨b, off, none⟩ ∧ b < w.heap.size ∧ W.cell? ⟨b, off + i * 2, none⟩ = some (.int .i64 (vx l i).1) ∧ W.cell? ⟨b, off + i * 2 + 1, none⟩ = some (.int .i64 (vx l i).2)) := Lib.hid (fun W hW i hi => by
    obtain ⟨b, off, e, hb, hc⟩ := hR (by omega)
    obtain ⟨h1, h2⟩ := hc i _ (vx_get (by omega))
    exact ⟨b, off, e, hb, (hW.cell (p := ⟨b, off + i * 2, none⟩) hb).trans h1, (hW.cell (p := ⟨b, off + i * 2 + 1, none⟩) hb).trans h2⟩)
  clear hR hln hi0 hz0 hz1 hz2
  go_enter Try.func53, Try.ntmps53
  go_wp2_with fail
  go_loopg [3, 10] n (fun g s i wr => ∃ (k : Nat) (v : Value), s = v ∧ k ≤ n ∧ g = n - k ∧ i = .int .i64 k ∧ Below w.heap.size w wr ∧ Hid (wr.ownsRow w.heap.size 25 2 v k (flat (srt (l.take k)))))
  case atStart => exact ⟨0, _, rfl, Nat.zero_le _, rfl, rfl, Below.refl _ _, Lib.hid (World.ownsRow_nil w w.heap.size _ _)⟩
  case round =>
    obtain ⟨k, v, rfl, hk, hg, rfl, hB, hO⟩ := hrel
    rename World => wo
    have HGK := Lib.hid hg
    clear hg
    by_cases hlt : k < n
    · have HSTEP : Hid (srt (l.take (k + 1)) = ins (srt (l.take k)) (vx l k)) := Lib.hid (srt_step (by have := HN.out; omega))
      have HLEN : Hid ((srt (l.take k)).length = k) := Lib.hid (by rw [srt_len, List.length_take]; have := HN.out; omega)
      obtain ⟨b, off, hA, hb, hq1, hq2⟩ := HC.out wo hB k hlt
      subst hA
      obtain ⟨p1, p2, hpe⟩ : ∃ p1 p2, vx l k = (p1, p2) := ⟨_, _, rfl⟩
      rw [hpe] at hq1 hq2 HSTEP
      obtain ⟨s, hs⟩ : ∃ s, s = srt (l.take k) := ⟨_, rfl⟩
      rw [← hs] at HSTEP HLEN hO
      clear hs hpe
      rcases own_val hO.out with ⟨hv, hk0⟩ | ⟨g, cap, hv, hkc, hcm, hgl, hgw⟩
      · subst hv
        subst hk0
        simp only [Nat.zero_mul, Nat.add_zero] at hq1 hq2
        have hsn : s = [] := List.eq_nil_of_length_eq_zero HLEN.out
        go_upto_block 2 with fail
        obtain ⟨Wp, hWp⟩ : ∃ Wp, Wp = (wo.alloc (.cells #[.int .i64 p1, .int .i64 p2] 25)) := ⟨_, rfl⟩
        rw [← hWp]
        have yWp0_0 : Wp.cell? ⟨wo.heap.size, 0, none⟩ = some (.int .i64 p1) := by rw [hWp]; go_simp
        have yWp0_1 : Wp.cell? ⟨wo.heap.size, 1, none⟩ = some (.int .i64 p2) := by rw [hWp]; go_simp
        have fWp0 : ∀ o, Wp.frozen? ⟨wo.heap.size, o, none⟩ = false := by intro o; rw [hWp]; (repeat rw [frozen?_alloc_cells]); simp [World.frozen?]
        have zWp0 : wo.heap.size < Wp.heap.size := by rw [hWp]; simp <;> omega
        have BWp : Below wo.heap.size wo Wp := by rw [hWp]; exact (Below.alloc (Below.refl _ _) (by simp <;> omega) _)
        have eWp : Hid (Wp.heap.size = wo.heap.size + 1) := Lib.hid (by rw [hWp]; simp)
        clear hWp
        go_cut [6] (fun q wx => q = .int .i64 0 ∧ Below Wp.heap.size Wp wx)
        case first =>
          go_wp2_with fail
          go_loopg [6] 0 (fun g2 q wr => g2 = 0 ∧ q = .int .i64 0 ∧ Below Wp.heap.size Wp wr)
          case atStart => exact ⟨rfl, rfl, Below.refl _ _⟩
          case round =>
            obtain ⟨hg2, rfl, hBi⟩ := hrel
            go_wp2_with fail
            refine wp_region_B (fun W => Below Wp.heap.size Wp W) (by kernel_rfl) (by first | exact hBi | exact hBi.drew) ?_
            first | refine wpB_skip 0 rfl (by kernel_rfl) (by kernel_rfl) (by kernel_rfl) (by rfl) ?_ | (refine wpB_text 0 (v := ?_) rfl (by kernel_rfl) (by kernel_rfl) (by kernel_rfl) (by rfl) (fun W hW => ?_) ?_; rotate_left; (have k1 := hW; obtain ⟨hc1, hf1⟩ := bcell k1; go_simp; refine comes_v ?_; exact k1))
            (try simp only [Act.put, List.setIfInBounds_toArray, List.set_cons_zero, List.set_cons_succ])
            first | refine wpB_skip 1 rfl (by kernel_rfl) (by kernel_rfl) (by kernel_rfl) (by rfl) ?_ | (refine wpB_text 1 (v := ?_) rfl (by kernel_rfl) (by kernel_rfl) (by kernel_rfl) (by rfl) (fun W hW => ?_) ?_; rotate_left; (have k1 := hW; obtain ⟨hc1, hf1⟩ := bcell k1; go_simp; refine comes_v ?_; exact k1))
            (try simp only [Act.put, List.setIfInBounds_toArray, List.set_cons_zero, List.set_cons_succ])
            first | refine wpB_skip 2 rfl (by kernel_rfl) (by kernel_rfl) (by kernel_rfl) (by rfl) ?_ | (refine wpB_text 2 (v := ?_) rfl (by kernel_rfl) (by kernel_rfl) (by kernel_rfl) (by rfl) (fun W hW => ?_) ?_; rotate_left; (have k1 := hW; obtain ⟨hc1, hf1⟩ := bcell k1; go_simp; refine comes_v ?_; exact k1))
            (try simp only [Act.put, List.setIfInBounds_toArray, List.set_cons_zero, List.set_cons_succ])
            first | refine wpB_skip 3 rfl (by kernel_rfl) (by kernel_rfl) (by kernel_rfl) (by rfl) ?_ | (refine wpB_text 3 (v := ?_) rfl (by kernel_rfl) (by kernel_rfl) (by kernel_rfl) (by rfl) (fun W hW => ?_) ?_; rotate_left; (have k1 := hW; obtain ⟨hc1, hf1⟩ := bcell k1; go_simp; refine comes_v ?_; exact k1))
            (try simp only [Act.put, List.setIfInBounds_toArray, List.set_cons_zero, List.set_cons_succ])
            first | refine wpB_skip 4 rfl (by kernel_rfl) (by kernel_rfl) (by kernel_rfl) (by rfl) ?_ | (refine wpB_text 4 (v := ?_) rfl (by kernel_rfl) (by kernel_rfl) (by kernel_rfl) (by rfl) (fun W hW => ?_) ?_; rotate_left; (have k1 := hW; obtain ⟨hc1, hf1⟩ := bcell k1; go_simp; refine comes_v ?_; exact k1))
            (try simp only [Act.put, List.setIfInBounds_toArray, List.set_cons_zero, List.set_cons_succ])
            first | refine wpB_skip 5 rfl (by kernel_rfl) (by kernel_rfl) (by kernel_rfl) (by rfl) ?_ | (refine wpB_text 5 (v := ?_) rfl (by kernel_rfl) (by kernel_rfl) (by kernel_rfl) (by rfl) (fun W hW => ?_) ?_; rotate_left; (have k1 := hW; obtain ⟨hc1, hf1⟩ := bcell k1; go_simp; refine comes_v ?_; exact k1))
            (try simp only [Act.put, List.setIfInBounds_toArray, List.set_cons_zero, List.set_cons_succ])
            first | refine wpB_skip 6 rfl (by kernel_rfl) (by kernel_rfl) (by kernel_rfl) (by rfl) ?_ | (refine wpB_text 6 (v := ?_) rfl (by kernel_rfl) (by kernel_rfl) (by kernel_rfl) (by rfl) (fun W hW => ?_) ?_; rotate_left; (have k1 := hW; obtain ⟨hc1, hf1⟩ := bcell k1; go_simp; refine comes_v ?_; exact k1))
            (try simp only [Act.put, List.setIfInBounds_toArray, List.set_cons_zero, List.set_cons_succ])
            first | refine wpB_skip 7 rfl (by kernel_rfl) (by kernel_rfl) (by kernel_rfl) (by rfl) ?_ | (refine wpB_text 7 (v := ?_) rfl (by kernel_rfl) (by kernel_rfl) (by kernel_rfl) (by rfl) (fun W hW => ?_) ?_; rotate_left; (have k1 := hW; obtain ⟨hc1, hf1⟩ := bcell k1; go_simp; refine comes_v ?_; exact k1))
            (try simp only [Act.put, List.setIfInBounds_toArray, List.set_cons_zero, List.set_cons_succ])
            first | refine wpB_skip 8 rfl (by kernel_rfl) (by kernel_rfl) (by kernel_rfl) (by rfl) ?_ | (refine wpB_text 8 (v := ?_) rfl (by kernel_rfl) (by kernel_rfl) (by kernel_rfl) (by rfl) (fun W hW => ?_) ?_; rotate_left; (have k1 := hW; obtain ⟨hc1, hf1⟩ := bcell k1; go_simp; refine comes_v ?_; exact k1))
            (try simp only [Act.put, List.setIfInBounds_toArray, List.set_cons_zero, List.set_cons_succ])
            first | refine wpB_skip 9 rfl (by kernel_rfl) (by kernel_rfl) (by kernel_rfl) (by rfl) ?_ | (refine wpB_text 9 (v := ?_) rfl (by kernel_rfl) (by kernel_rfl) (by kernel_rfl) (by rfl) (fun W hW => ?_) ?_; rotate_left; (have k1 := hW; obtain ⟨hc1, hf1⟩ := bcell k1; go_simp; refine comes_v ?_; exact k1))
            (try simp only [Act.put, List.setIfInBounds_toArray, List.set_cons_zero, List.set_cons_succ])
            first | refine wpB_skip 10 rfl (by kernel_rfl) (by kernel_rfl) (by kernel_rfl) (by rfl) ?_ | (refine wpB_text 10 (v := ?_) rfl (by kernel_rfl) (by kernel_rfl) (by kernel_rfl) (by rfl) (fun W hW => ?_) ?_; rotate_left; (have k1 := hW; obtain ⟨hc1, hf1⟩ := bcell k1; go_simp; refine comes_v ?_; exact k1))
            (try simp only [Act.put, List.setIfInBounds_toArray, List.set_cons_zero, List.set_cons_succ])
            first | refine wpB_skip 11 rfl (by kernel_rfl) (by kernel_rfl) (by kernel_rfl) (by rfl) ?_ | (refine wpB_text 11 (v := ?_) rfl (by kernel_rfl) (by kernel_rfl) (by kernel_rfl) (by rfl) (fun W hW => ?_) ?_; rotate_left; (have k1 := hW; obtain ⟨hc1, hf1⟩ := bcell k1; go_simp; refine comes_v ?_; exact k1))
            (try simp only [Act.put, List.setIfInBounds_toArray, List.set_cons_zero, List.set_cons_succ])
            refine wpB_done (by kernel_rfl) ?_ _
            intro W hW; have k1 := hW
            go_wp2_with fail
            go_meet
            case rel => exact ⟨rfl, k1⟩
        case rest =>
          obtain ⟨rfl, BC⟩ := hcut
          rename World => wy
          have hp5 : wo.heap.size < wy.heap.size := Nat.lt_of_lt_of_le zWp0 BC.size
          have x0 := ((bcell BC).1 _ 0 zWp0).trans yWp0_0
          have x1 := ((bcell BC).1 _ 1 zWp0).trans yWp0_1
          have BY := hB.trans ((BWp.mono hB.size).trans (BC.mono (Nat.le_trans hB.size BWp.size)))
          have hwx := BY.size
          have hj0 : flat (s.take 0) = [] := rfl
          obtain ⟨j, hj⟩ : ∃ j, j = 0 := ⟨_, rfl⟩
          go_upto_region 8 with fail
          go_cut [7] (fun q wx => ∃ v, v = q ∧ Hid (wx.ownsRow wy.heap.size 25 2 v (0 + 0 + 1) ([] ++ flat (s.take 0) ++ [.int .i64 p1, .int .i64 p2])) ∧ Below wy.heap.size wy wx)
          case first =>
            refine wp_region_any (by kernel_rfl) ?_
            change wpAny _ _ _ _ _ _ _ (World.drew _)
            have BB : Below wy.heap.size wy wy.drew := (Below.refl _ _).drew
            generalize wy.drew = W0 at BB ⊢
            refine wpAny_take (i := 1) (v := .slice none 0 0) rfl (by kernel_rfl) (by kernel_rfl) (by kernel_rfl) (fun _ _ _ h => h) (Or.inl ⟨by rfl, fun W => by first | rfl | (go_simp; try (intro h; omega))⟩) ?_
            (try simp only [List.getElem_toArray, List.getElem_cons_zero, List.getElem_cons_succ, Act.put, List.setIfInBounds_toArray, List.set_cons_zero, List.set_cons_succ])
            refine wpAny_take (i := 2) (v := .int .i64 0) rfl (by kernel_rfl) (by kernel_rfl) (by kernel_rfl) (fun _ _ _ h => h) (Or.inl ⟨by rfl, fun W => by first | rfl | (go_simp; try (intro h; omega))⟩) ?_
            (try simp only [List.getElem_toArray, List.getElem_cons_zero, List.getElem_cons_succ, Act.put, List.setIfInBounds_toArray, List.set_cons_zero, List.set_cons_succ])
            refine wpAny_take (i := 3) (v := .slice none 0 0) rfl (by kernel_rfl) (by kernel_rfl) (by kernel_rfl) (fun _ _ _ h => h) (Or.inl ⟨by rfl, fun W => by first | rfl | (go_simp; try (intro h; omega))⟩) ?_
            (try simp only [List.getElem_toArray, List.getElem_cons_zero, List.getElem_cons_succ, Act.put, List.setIfInBounds_toArray, List.set_cons_zero, List.set_cons_succ])
            refine wpAny_all (rs := [0, 5]) (by kernel_rfl) (by simp) (fun i hi => ?_)
            rcases (by simpa using hi : i = 0 ∨ i = 5) with rfl | rfl
            · refine wpOp_val (v := .slice (some ⟨W0.heap.size, 0, none⟩) 0 0) (w' := W0.alloc (.cells #[] 25)) rfl (by rfl) (by go_simp) ?_
              have own28 : (W0.alloc (.cells #[] 25)).ownsRow wy.heap.size 25 2 (.slice (some ⟨W0.heap.size, 0, none⟩) 0 0) 0 [] := World.ownsRow_lit W0 #[] 0 BB.size (by decide) rfl
              have hn28 : wy.heap.size ≤ W0.heap.size := BB.size
              have BB := Below.alloc BB BB.size (.cells #[] 25)
              have zn : W0.heap.size < (W0.alloc (.cells #[] 25)).heap.size := by simp
              (try simp only [List.getElem_toArray, List.getElem_cons_zero, List.getElem_cons_succ, Act.put, List.setIfInBounds_toArray, List.set_cons_zero, List.set_cons_succ])
              generalize W0.alloc (.cells #[] 25) = W1 at *
              generalize W0.heap.size = b28 at own28 hn28 zn ⊢
              refine wpAny_all (rs := [4, 5]) (by kernel_rfl) (by simp) (fun i hi => ?_)
              rcases (by simpa using hi : i = 4 ∨ i = 5) with rfl | rfl
              · refine wpOp_left rfl (by rfl) (wp_append_none (.tmp 28) (.tmp 31) 28 rfl wy.heap.size 25 i0 2 Try.underlying28 HI.out.1 _ 0 [] rfl own28 rfl ?_)
                obtain ⟨v32, hv32⟩ : ∃ v, v = Value.slice (some ⟨b28, 0, none⟩) 0 0 := ⟨_, rfl⟩
                rw [← hv32]
                rw [← hv32] at own28
                have own32 : W1.ownsRow wy.heap.size 25 2 v32 (0 + 0) ([] ++ flat (s.take 0)) := own28
                (try simp only [List.getElem_toArray, List.getElem_cons_zero, List.getElem_cons_succ, Act.put, List.setIfInBounds_toArray, List.set_cons_zero, List.set_cons_succ])
                refine wpAny_all (rs := [5]) (by kernel_rfl) (by simp) (fun i hi => ?_)
                obtain rfl : i = 5 := by simpa using hi
                refine wpOp_val (v := .agg #[.int .i64 p1, .int .i64 p2]) (w' := W1) rfl (by rfl) (by first | (have e0 := (bcell BB).1 _ 0 hp5; have e1 := (bcell BB).1 _ 1 hp5; rw [x0] at e0; rw [x1] at e1; go_simp) | go_simp) ?_
                (try simp only [List.getElem_toArray, List.getElem_cons_zero, List.getElem_cons_succ, Act.put, List.setIfInBounds_toArray, List.set_cons_zero, List.set_cons_succ])
                refine wpAny_all (rs := [6]) (by kernel_rfl) (by simp) (fun i hi => ?_)
                obtain rfl : i = 6 := by simpa using hi
                refine wpOp_val (v := .slice (some ⟨W1.heap.size, 0, none⟩) 1 1) (w' := W1.alloc (.cells #[.int .i64 p1, .int .i64 p2] 25)) rfl (by rfl) (by go_simp) ?_
                have cp0 : (W1.alloc (.cells #[.int .i64 p1, .int .i64 p2] 25)).cell? ⟨W1.heap.size, 0, none⟩ = some (.int .i64 p1) := by go_simp
                have cp1 : (W1.alloc (.cells #[.int .i64 p1, .int .i64 p2] 25)).cell? ⟨W1.heap.size, 1, none⟩ = some (.int .i64 p2) := by go_simp
                have zp : W1.heap.size < (W1.alloc (.cells #[.int .i64 p1, .int .i64 p2] 25)).heap.size := by simp
                have own32 := own32.alloc (.cells #[.int .i64 p1, .int .i64 p2] 25)
                have BB := Below.alloc BB BB.size (.cells #[.int .i64 p1, .int .i64 p2] 25)
                (try simp only [List.getElem_toArray, List.getElem_cons_zero, List.getElem_cons_succ, Act.put, List.setIfInBounds_toArray, List.set_cons_zero, List.set_cons_succ])
                generalize W1.alloc (.cells #[.int .i64 p1, .int .i64 p2] 25) = W4 at *
                generalize W1.heap.size = b34 at cp0 cp1 zp ⊢
                refine wpAny_all (rs := [7]) (by kernel_rfl) (by simp) (fun i hi => ?_)
                obtain rfl : i = 7 := by simpa using hi
                refine wpOp_left rfl (by rfl) (wp_append_own _ (.tmp 32) (.tmp 34) 28 rfl wy.heap.size 25 i0 (.agg #[.int .i64 0, .int .i64 0]) 2 16 Try.underlying28 HI.out.1 HI.out.2.1 HI.out.2.2.1 HI.out.2.2.2 rfl (by decide) v32 (0 + 0) ([] ++ flat (s.take 0)) rfl own32 ⟨b34, 0, none⟩ 1 1 [.int .i64 p1, .int .i64 p2] rfl rfl (two_cells cp0 cp1) (two_one _ _) (by unfold maxLen; omega) (by omega) BB.size ?_)
                intro v35 w8 own35 hgr8 _
                have BE := BB.grown hgr8 BB.size (fun g hg => (World.ownsRow.lt own32 g hg).1)
                (try simp only [List.getElem_toArray, List.getElem_cons_zero, List.getElem_cons_succ, Act.put, List.setIfInBounds_toArray, List.set_cons_zero, List.set_cons_succ])
                refine wpAny_all (rs := [8]) (by kernel_rfl) (by simp) (fun i hi => ?_)
                obtain rfl : i = 8 := by simpa using hi
                refine wpOp_val (v := v35) (w' := w8) rfl (by rfl) (by first | rfl | go_simp) ?_
                (try simp only [List.getElem_toArray, List.getElem_cons_zero, List.getElem_cons_succ, Act.put, List.setIfInBounds_toArray, List.set_cons_zero, List.set_cons_succ])
                refine wpAny_done (by kernel_rfl) ?_ _
                go_wp2_with fail
                go_meet
                case rel => exact ⟨v35, rfl, Lib.hid own35, BE⟩
              · refine wpOp_val (v := .agg #[.int .i64 p1, .int .i64 p2]) (w' := W1) rfl (by rfl) (by first | (have e0 := (bcell BB).1 _ 0 hp5; have e1 := (bcell BB).1 _ 1 hp5; rw [x0] at e0; rw [x1] at e1; go_simp) | go_simp) ?_
                (try simp only [List.getElem_toArray, List.getElem_cons_zero, List.getElem_cons_succ, Act.put, List.setIfInBounds_toArray, List.set_cons_zero, List.set_cons_succ])
                refine wpAny_all (rs := [4, 6]) (by kernel_rfl) (by simp) (fun i hi => ?_)
                rcases (by simpa using hi : i = 4 ∨ i = 6) with rfl | rfl
                · refine wpOp_left rfl (by rfl) (wp_append_none (.tmp 28) (.tmp 31) 28 rfl wy.heap.size 25 i0 2 Try.underlying28 HI.out.1 _ 0 [] rfl own28 rfl ?_)
                  obtain ⟨v32, hv32⟩ : ∃ v, v = Value.slice (some ⟨b28, 0, none⟩) 0 0 := ⟨_, rfl⟩
                  rw [← hv32]
                  rw [← hv32] at own28
                  have own32 : W1.ownsRow wy.heap.size 25 2 v32 (0 + 0) ([] ++ flat (s.take 0)) := own28
                  (try simp only [List.getElem_toArray, List.getElem_cons_zero, List.getElem_cons_succ, Act.put, List.setIfInBounds_toArray, List.set_cons_zero, List.set_cons_succ])
                  refine wpAny_all (rs := [6]) (by kernel_rfl) (by simp) (fun i hi => ?_)
                  obtain rfl : i = 6 := by simpa using hi
                  refine wpOp_val (v := .slice (some ⟨W1.heap.size, 0, none⟩) 1 1) (w' := W1.alloc (.cells #[.int .i64 p1, .int .i64 p2] 25)) rfl (by rfl) (by go_simp) ?_
                  have cp0 : (W1.alloc (.cells #[.int .i64 p1, .int .i64 p2] 25)).cell? ⟨W1.heap.size, 0, none⟩ = some (.int .i64 p1) := by go_simp
                  have cp1 : (W1.alloc (.cells #[.int .i64 p1, .int .i64 p2] 25)).cell? ⟨W1.heap.size, 1, none⟩ = some (.int .i64 p2) := by go_simp
                  have zp : W1.heap.size < (W1.alloc (.cells #[.int .i64 p1, .int .i64 p2] 25)).heap.size := by simp
                  have own32 := own32.alloc (.cells #[.int .i64 p1, .int .i64 p2] 25)
                  have BB := Below.alloc BB BB.size (.cells #[.int .i64 p1, .int .i64 p2] 25)
                  (try simp only [List.getElem_toArray, List.getElem_cons_zero, List.getElem_cons_succ, Act.put, List.setIfInBounds_toArray, List.set_cons_zero, List.set_cons_succ])
                  generalize W1.alloc (.cells #[.int .i64 p1, .int .i64 p2] 25) = W4 at *
                  generalize W1.heap.size = b34 at cp0 cp1 zp ⊢
                  refine wpAny_all (rs := [7]) (by kernel_rfl) (by simp) (fun i hi => ?_)
                  obtain rfl : i = 7 := by simpa using hi
                  refine wpOp_left rfl (by rfl) (wp_append_own _ (.tmp 32) (.tmp 34) 28 rfl wy.heap.size 25 i0 (.agg #[.int .i64 0, .int .i64 0]) 2 16 Try.underlying28 HI.out.1 HI.out.2.1 HI.out.2.2.1 HI.out.2.2.2 rfl (by decide) v32 (0 + 0) ([] ++ flat (s.take 0)) rfl own32 ⟨b34, 0, none⟩ 1 1 [.int .i64 p1, .int .i64 p2] rfl rfl (two_cells cp0 cp1) (two_one _ _) (by unfold maxLen; omega) (by omega) BB.size ?_)
                  intro v35 w8 own35 hgr8 _
                  have BE := BB.grown hgr8 BB.size (fun g hg => (World.ownsRow.lt own32 g hg).1)
                  (try simp only [List.getElem_toArray, List.getElem_cons_zero, List.getElem_cons_succ, Act.put, List.setIfInBounds_toArray, List.set_cons_zero, List.set_cons_succ])
                  refine wpAny_all (rs := [8]) (by kernel_rfl) (by simp) (fun i hi => ?_)
                  obtain rfl : i = 8 := by simpa using hi
                  refine wpOp_val (v := v35) (w' := w8) rfl (by rfl) (by first | rfl | go_simp) ?_
                  (try simp only [List.getElem_toArray, List.getElem_cons_zero, List.getElem_cons_succ, Act.put, List.setIfInBounds_toArray, List.set_cons_zero, List.set_cons_succ])
                  refine wpAny_done (by kernel_rfl) ?_ _
                  go_wp2_with fail
                  go_meet
                  case rel => exact ⟨v35, rfl, Lib.hid own35, BE⟩
                · refine wpOp_val (v := .slice (some ⟨W1.heap.size, 0, none⟩) 1 1) (w' := W1.alloc (.cells #[.int .i64 p1, .int .i64 p2] 25)) rfl (by rfl) (by go_simp) ?_
                  have cp0 : (W1.alloc (.cells #[.int .i64 p1, .int .i64 p2] 25)).cell? ⟨W1.heap.size, 0, none⟩ = some (.int .i64 p1) := by go_simp
                  have cp1 : (W1.alloc (.cells #[.int .i64 p1, .int .i64 p2] 25)).cell? ⟨W1.heap.size, 1, none⟩ = some (.int .i64 p2) := by go_simp
                  have zp : W1.heap.size < (W1.alloc (.cells #[.int .i64 p1, .int .i64 p2] 25)).heap.size := by simp
                  have own28 := own28.alloc (.cells #[.int .i64 p1, .int .i64 p2] 25)
                  have hne : W1.heap.size ≠ b28 := Nat.ne_of_gt zn
                  have zn := Nat.lt_trans zn zp
                  have BB := Below.alloc BB BB.size (.cells #[.int .i64 p1, .int .i64 p2] 25)
                  (try simp only [List.getElem_toArray, List.getElem_cons_zero, List.getElem_cons_succ, Act.put, List.setIfInBounds_toArray, List.set_cons_zero, List.set_cons_succ])
                  generalize W1.alloc (.cells #[.int .i64 p1, .int .i64 p2] 25) = W3 at *
                  generalize W1.heap.size = b34 at cp0 cp1 zp hne ⊢
                  refine wpAny_all (rs := [4]) (by kernel_rfl) (by simp) (fun i hi => ?_)
                  obtain rfl : i = 4 := by simpa using hi
                  refine wpOp_left rfl (by rfl) (wp_append_none (.tmp 28) (.tmp 31) 28 rfl wy.heap.size 25 i0 2 Try.underlying28 HI.out.1 _ 0 [] rfl own28 rfl ?_)
                  obtain ⟨v32, hv32⟩ : ∃ v, v = Value.slice (some ⟨b28, 0, none⟩) 0 0 := ⟨_, rfl⟩
                  rw [← hv32]
                  rw [← hv32] at own28
                  have own32 : W3.ownsRow wy.heap.size 25 2 v32 (0 + 0) ([] ++ flat (s.take 0)) := own28
                  (try simp only [List.getElem_toArray, List.getElem_cons_zero, List.getElem_cons_succ, Act.put, List.setIfInBounds_toArray, List.set_cons_zero, List.set_cons_succ])
                  refine wpAny_all (rs := [7]) (by kernel_rfl) (by simp) (fun i hi => ?_)
                  obtain rfl : i = 7 := by simpa using hi
                  refine wpOp_left rfl (by rfl) (wp_append_own _ (.tmp 32) (.tmp 34) 28 rfl wy.heap.size 25 i0 (.agg #[.int .i64 0, .int .i64 0]) 2 16 Try.underlying28 HI.out.1 HI.out.2.1 HI.out.2.2.1 HI.out.2.2.2 rfl (by decide) v32 (0 + 0) ([] ++ flat (s.take 0)) rfl own32 ⟨b34, 0, none⟩ 1 1 [.int .i64 p1, .int .i64 p2] rfl rfl (two_cells cp0 cp1) (two_one _ _) (by unfold maxLen; omega) (by omega) BB.size ?_)
                  intro v35 w8 own35 hgr8 _
                  have BE := BB.grown hgr8 BB.size (fun g hg => (World.ownsRow.lt own32 g hg).1)
                  (try simp only [List.getElem_toArray, List.getElem_cons_zero, List.getElem_cons_succ, Act.put, List.setIfInBounds_toArray, List.set_cons_zero, List.set_cons_succ])
                  refine wpAny_all (rs := [8]) (by kernel_rfl) (by simp) (fun i hi => ?_)
                  obtain rfl : i = 8 := by simpa using hi
                  refine wpOp_val (v := v35) (w' := w8) rfl (by rfl) (by first | rfl | go_simp) ?_
                  (try simp only [List.getElem_toArray, List.getElem_cons_zero, List.getElem_cons_succ, Act.put, List.setIfInBounds_toArray, List.set_cons_zero, List.set_cons_succ])
                  refine wpAny_done (by kernel_rfl) ?_ _
                  go_wp2_with fail
                  go_meet
                  case rel => exact ⟨v35, rfl, Lib.hid own35, BE⟩
            · refine wpOp_val (v := .agg #[.int .i64 p1, .int .i64 p2]) (w' := W0) rfl (by rfl) (by first | (have e0 := (bcell BB).1 _ 0 hp5; have e1 := (bcell BB).1 _ 1 hp5; rw [x0] at e0; rw [x1] at e1; go_simp) | go_simp) ?_
              (try simp only [List.getElem_toArray, List.getElem_cons_zero, List.getElem_cons_succ, Act.put, List.setIfInBounds_toArray, List.set_cons_zero, List.set_cons_succ])
              refine wpAny_all (rs := [0, 6]) (by kernel_rfl) (by simp) (fun i hi => ?_)
              rcases (by simpa using hi : i = 0 ∨ i = 6) with rfl | rfl
              · refine wpOp_val (v := .slice (some ⟨W0.heap.size, 0, none⟩) 0 0) (w' := W0.alloc (.cells #[] 25)) rfl (by rfl) (by go_simp) ?_
                have own28 : (W0.alloc (.cells #[] 25)).ownsRow wy.heap.size 25 2 (.slice (some ⟨W0.heap.size, 0, none⟩) 0 0) 0 [] := World.ownsRow_lit W0 #[] 0 BB.size (by decide) rfl
                have hn28 : wy.heap.size ≤ W0.heap.size := BB.size
                have BB := Below.alloc BB BB.size (.cells #[] 25)
                have zn : W0.heap.size < (W0.alloc (.cells #[] 25)).heap.size := by simp
                (try simp only [List.getElem_toArray, List.getElem_cons_zero, List.getElem_cons_succ, Act.put, List.setIfInBounds_toArray, List.set_cons_zero, List.set_cons_succ])
                generalize W0.alloc (.cells #[] 25) = W2 at *
                generalize W0.heap.size = b28 at own28 hn28 zn ⊢
                refine wpAny_all (rs := [4, 6]) (by kernel_rfl) (by simp) (fun i hi => ?_)
                rcases (by simpa using hi : i = 4 ∨ i = 6) with rfl | rfl
                · refine wpOp_left rfl (by rfl) (wp_append_none (.tmp 28) (.tmp 31) 28 rfl wy.heap.size 25 i0 2 Try.underlying28 HI.out.1 _ 0 [] rfl own28 rfl ?_)
                  obtain ⟨v32, hv32⟩ : ∃ v, v = Value.slice (some ⟨b28, 0, none⟩) 0 0 := ⟨_, rfl⟩
                  rw [← hv32]
                  rw [← hv32] at own28
                  have own32 : W2.ownsRow wy.heap.size 25 2 v32 (0 + 0) ([] ++ flat (s.take 0)) := own28
                  (try simp only [List.getElem_toArray, List.getElem_cons_zero, List.getElem_cons_succ, Act.put, List.setIfInBounds_toArray, List.set_cons_zero, List.set_cons_succ])
                  refine wpAny_all (rs := [6]) (by kernel_rfl) (by simp) (fun i hi => ?_)
                  obtain rfl : i = 6 := by simpa using hi
                  refine wpOp_val (v := .slice (some ⟨W2.heap.size, 0, none⟩) 1 1) (w' := W2.alloc (.cells #[.int .i64 p1, .int .i64 p2] 25)) rfl (by rfl) (by go_simp) ?_
                  have cp0 : (W2.alloc (.cells #[.int .i64 p1, .int .i64 p2] 25)).cell? ⟨W2.heap.size, 0, none⟩ = some (.int .i64 p1) := by go_simp
                  have cp1 : (W2.alloc (.cells #[.int .i64 p1, .int .i64 p2] 25)).cell? ⟨W2.heap.size, 1, none⟩ = some (.int .i64 p2) := by go_simp
                  have zp : W2.heap.size < (W2.alloc (.cells #[.int .i64 p1, .int .i64 p2] 25)).heap.size := by simp
                  have own32 := own32.alloc (.cells #[.int .i64 p1, .int .i64 p2] 25)
                  have BB := Below.alloc BB BB.size (.cells #[.int .i64 p1, .int .i64 p2] 25)
                  (try simp only [List.getElem_toArray, List.getElem_cons_zero, List.getElem_cons_succ, Act.put, List.setIfInBounds_toArray, List.set_cons_zero, List.set_cons_succ])
                  generalize W2.alloc (.cells #[.int .i64 p1, .int .i64 p2] 25) = W4 at *
                  generalize W2.heap.size = b34 at cp0 cp1 zp ⊢
                  refine wpAny_all (rs := [7]) (by kernel_rfl) (by simp) (fun i hi => ?_)
                  obtain rfl : i = 7 := by simpa using hi
                  refine wpOp_left rfl (by rfl) (wp_append_own _ (.tmp 32) (.tmp 34) 28 rfl wy.heap.size 25 i0 (.agg #[.int .i64 0, .int .i64 0]) 2 16 Try.underlying28 HI.out.1 HI.out.2.1 HI.out.2.2.1 HI.out.2.2.2 rfl (by decide) v32 (0 + 0) ([] ++ flat (s.take 0)) rfl own32 ⟨b34, 0, none⟩ 1 1 [.int .i64 p1, .int .i64 p2] rfl rfl (two_cells cp0 cp1) (two_one _ _) (by unfold maxLen; omega) (by omega) BB.size ?_)
                  intro v35 w8 own35 hgr8 _
                  have BE := BB.grown hgr8 BB.size (fun g hg => (World.ownsRow.lt own32 g hg).1)
                  (try simp only [List.getElem_toArray, List.getElem_cons_zero, List.getElem_cons_succ, Act.put, List.setIfInBounds_toArray, List.set_cons_zero, List.set_cons_succ])
                  refine wpAny_all (rs := [8]) (by kernel_rfl) (by simp) (fun i hi => ?_)
                  obtain rfl : i = 8 := by simpa using hi
                  refine wpOp_val (v := v35) (w' := w8) rfl (by rfl) (by first | rfl | go_simp) ?_
                  (try simp only [List.getElem_toArray, List.getElem_cons_zero, List.getElem_cons_succ, Act.put, List.setIfInBounds_toArray, List.set_cons_zero, List.set_cons_succ])
                  refine wpAny_done (by kernel_rfl) ?_ _
                  go_wp2_with fail
                  go_meet
                  case rel => exact ⟨v35, rfl, Lib.hid own35, BE⟩
                · refine wpOp_val (v := .slice (some ⟨W2.heap.size, 0, none⟩) 1 1) (w' := W2.alloc (.cells #[.int .i64 p1, .int .i64 p2] 25)) rfl (by rfl) (by go_simp) ?_
                  have cp0 : (W2.alloc (.cells #[.int .i64 p1, .int .i64 p2] 25)).cell? ⟨W2.heap.size, 0, none⟩ = some (.int .i64 p1) := by go_simp
                  have cp1 : (W2.alloc (.cells #[.int .i64 p1, .int .i64 p2] 25)).cell? ⟨W2.heap.size, 1, none⟩ = some (.int .i64 p2) := by go_simp
                  have zp : W2.heap.size < (W2.alloc (.cells #[.int .i64 p1, .int .i64 p2] 25)).heap.size := by simp
                  have own28 := own28.alloc (.cells #[.int .i64 p1, .int .i64 p2] 25)
                  have hne : W2.heap.size ≠ b28 := Nat.ne_of_gt zn
                  have zn := Nat.lt_trans zn zp
                  have BB := Below.alloc BB BB.size (.cells #[.int .i64 p1, .int .i64 p2] 25)
                  (try simp only [List.getElem_toArray, List.getElem_cons_zero, List.getElem_cons_succ, Act.put, List.setIfInBounds_toArray, List.set_cons_zero, List.set_cons_succ])
                  generalize W2.alloc (.cells #[.int .i64 p1, .int .i64 p2] 25) = W3 at *
                  generalize W2.heap.size = b34 at cp0 cp1 zp hne ⊢
                  refine wpAny_all (rs := [4]) (by kernel_rfl) (by simp) (fun i hi => ?_)
                  obtain rfl : i = 4 := by simpa using hi
                  refine wpOp_left rfl (by rfl) (wp_append_none (.tmp 28) (.tmp 31) 28 rfl wy.heap.size 25 i0 2 Try.underlying28 HI.out.1 _ 0 [] rfl own28 rfl ?_)
                  obtain ⟨v32, hv32⟩ : ∃ v, v = Value.slice (some ⟨b28, 0, none⟩) 0 0 := ⟨_, rfl⟩
                  rw [← hv32]
                  rw [← hv32] at own28
                  have own32 : W3.ownsRow wy.heap.size 25 2 v32 (0 + 0) ([] ++ flat (s.take 0)) := own28
                  (try simp only [List.getElem_toArray, List.getElem_cons_zero, List.getElem_cons_succ, Act.put, List.setIfInBounds_toArray, List.set_cons_zero, List.set_cons_succ])
                  refine wpAny_all (rs := [7]) (by kernel_rfl) (by simp) (fun i hi => ?_)
                  obtain rfl : i = 7 := by simpa using hi
                  refine wpOp_left rfl (by rfl) (wp_append_own _ (.tmp 32) (.tmp 34) 28 rfl wy.heap.size 25 i0 (.agg #[.int .i64 0, .int .i64 0]) 2 16 Try.underlying28 HI.out.1 HI.out.2.1 HI.out.2.2.1 HI.out.2.2.2 rfl (by decide) v32 (0 + 0) ([] ++ flat (s.take 0)) rfl own32 ⟨b34, 0, none⟩ 1 1 [.int .i64 p1, .int .i64 p2] rfl rfl (two_cells cp0 cp1) (two_one _ _) (by unfold maxLen; omega) (by omega) BB.size ?_)
                  intro v35 w8 own35 hgr8 _
                  have BE := BB.grown hgr8 BB.size (fun g hg => (World.ownsRow.lt own32 g hg).1)
                  (try simp only [List.getElem_toArray, List.getElem_cons_zero, List.getElem_cons_succ, Act.put, List.setIfInBounds_toArray, List.set_cons_zero, List.set_cons_succ])
                  refine wpAny_all (rs := [8]) (by kernel_rfl) (by simp) (fun i hi => ?_)
                  obtain rfl : i = 8 := by simpa using hi
                  refine wpOp_val (v := v35) (w' := w8) rfl (by rfl) (by first | rfl | go_simp) ?_
                  (try simp only [List.getElem_toArray, List.getElem_cons_zero, List.getElem_cons_succ, Act.put, List.setIfInBounds_toArray, List.set_cons_zero, List.set_cons_succ])
                  refine wpAny_done (by kernel_rfl) ?_ _
                  go_wp2_with fail
                  go_meet
                  case rel => exact ⟨v35, rfl, Lib.hid own35, BE⟩
              · refine wpOp_val (v := .slice (some ⟨W0.heap.size, 0, none⟩) 1 1) (w' := W0.alloc (.cells #[.int .i64 p1, .int .i64 p2] 25)) rfl (by rfl) (by go_simp) ?_
                have cp0 : (W0.alloc (.cells #[.int .i64 p1, .int .i64 p2] 25)).cell? ⟨W0.heap.size, 0, none⟩ = some (.int .i64 p1) := by go_simp
                have cp1 : (W0.alloc (.cells #[.int .i64 p1, .int .i64 p2] 25)).cell? ⟨W0.heap.size, 1, none⟩ = some (.int .i64 p2) := by go_simp
                have zp : W0.heap.size < (W0.alloc (.cells #[.int .i64 p1, .int .i64 p2] 25)).heap.size := by simp
                have BB := Below.alloc BB BB.size (.cells #[.int .i64 p1, .int .i64 p2] 25)
                (try simp only [List.getElem_toArray, List.getElem_cons_zero, List.getElem_cons_succ, Act.put, List.setIfInBounds_toArray, List.set_cons_zero, List.set_cons_succ])
                generalize W0.alloc (.cells #[.int .i64 p1, .int .i64 p2] 25) = W2 at *
                generalize W0.heap.size = b34 at cp0 cp1 zp ⊢
                refine wpAny_all (rs := [0]) (by kernel_rfl) (by simp) (fun i hi => ?_)
                obtain rfl : i = 0 := by simpa using hi
                refine wpOp_val (v := .slice (some ⟨W2.heap.size, 0, none⟩) 0 0) (w' := W2.alloc (.cells #[] 25)) rfl (by rfl) (by go_simp) ?_
                have own28 : (W2.alloc (.cells #[] 25)).ownsRow wy.heap.size 25 2 (.slice (some ⟨W2.heap.size, 0, none⟩) 0 0) 0 [] := World.ownsRow_lit W2 #[] 0 BB.size (by decide) rfl
                have hn28 : wy.heap.size ≤ W2.heap.size := BB.size
                have cp0 := (World.cell?_alloc_lt W2 (.cells #[] 25) ⟨b34, 0, none⟩ zp).trans cp0
                have cp1 := (World.cell?_alloc_lt W2 (.cells #[] 25) ⟨b34, 1, none⟩ zp).trans cp1
                have hne : b34 ≠ W2.heap.size := Nat.ne_of_lt zp
                have BB := Below.alloc BB BB.size (.cells #[] 25)
                have zn : W2.heap.size < (W2.alloc (.cells #[] 25)).heap.size := by simp
                have zp := Nat.lt_trans zp zn
                (try simp only [List.getElem_toArray, List.getElem_cons_zero, List.getElem_cons_succ, Act.put, List.setIfInBounds_toArray, List.set_cons_zero, List.set_cons_succ])
                generalize W2.alloc (.cells #[] 25) = W3 at *
                generalize W2.heap.size = b28 at own28 hn28 zn hne ⊢
                refine wpAny_all (rs := [4]) (by kernel_rfl) (by simp) (fun i hi => ?_)
                obtain rfl : i = 4 := by simpa using hi
                refine wpOp_left rfl (by rfl) (wp_append_none (.tmp 28) (.tmp 31) 28 rfl wy.heap.size 25 i0 2 Try.underlying28 HI.out.1 _ 0 [] rfl own28 rfl ?_)
                obtain ⟨v32, hv32⟩ : ∃ v, v = Value.slice (some ⟨b28, 0, none⟩) 0 0 := ⟨_, rfl⟩
                rw [← hv32]
                rw [← hv32] at own28
                have own32 : W3.ownsRow wy.heap.size 25 2 v32 (0 + 0) ([] ++ flat (s.take 0)) := own28
                (try simp only [List.getElem_toArray, List.getElem_cons_zero, List.getElem_cons_succ, Act.put, List.setIfInBounds_toArray, List.set_cons_zero, List.set_cons_succ])
                refine wpAny_all (rs := [7]) (by kernel_rfl) (by simp) (fun i hi => ?_)
                obtain rfl : i = 7 := by simpa using hi
                refine wpOp_left rfl (by rfl) (wp_append_own _ (.tmp 32) (.tmp 34) 28 rfl wy.heap.size 25 i0 (.agg #[.int .i64 0, .int .i64 0]) 2 16 Try.underlying28 HI.out.1 HI.out.2.1 HI.out.2.2.1 HI.out.2.2.2 rfl (by decide) v32 (0 + 0) ([] ++ flat (s.take 0)) rfl own32 ⟨b34, 0, none⟩ 1 1 [.int .i64 p1, .int .i64 p2] rfl rfl (two_cells cp0 cp1) (two_one _ _) (by unfold maxLen; omega) (by omega) BB.size ?_)
                intro v35 w8 own35 hgr8 _
                have BE := BB.grown hgr8 BB.size (fun g hg => (World.ownsRow.lt own32 g hg).1)
                (try simp only [List.getElem_toArray, List.getElem_cons_zero, List.getElem_cons_succ, Act.put, List.setIfInBounds_toArray, List.set_cons_zero, List.set_cons_succ])
                refine wpAny_all (rs := [8]) (by kernel_rfl) (by simp) (fun i hi => ?_)
                obtain rfl : i = 8 := by simpa using hi
                refine wpOp_val (v := v35) (w' := w8) rfl (by rfl) (by first | rfl | go_simp) ?_
                (try simp only [List.getElem_toArray, List.getElem_cons_zero, List.getElem_cons_succ, Act.put, List.setIfInBounds_toArray, List.set_cons_zero, List.set_cons_succ])
                refine wpAny_done (by kernel_rfl) ?_ _
                go_wp2_with fail
                go_meet
                case rel => exact ⟨v35, rfl, Lib.hid own35, BE⟩

          case rest =>
            obtain ⟨v7, rfl, hO7, BE⟩ := hcut
            rename World => wz
            have HE := Lib.hid (show wz.ownsRow w.heap.size 25 2 v7 (0 + 1) (flat (srt (l.take (0 + 1)))) from by
              rw [HSTEP.out, hsn]
              have := own_base hO7.out hwx
              rw [hsn] at this
              exact this)
            have B9 := BY.trans (BE.mono hwx)
            clear hO7 BE BY hO
            go_wp2_with (at_builtin; refine wpList_append_own_none rfl (.tmp 36) (.tmp 39) 28 rfl w.heap.size 25 i0 2 Try.underlying28 HI.out.1 v7 _ _ rfl HE.out rfl ?_)
            go_roundg (n - (0 + 1))
            case measure => have := HGK.out; omega
            case rel => exact ⟨0 + 1, v7, rfl, by omega, rfl, by go_num, B9, HE⟩
      · subst hv
        have HS : Hid (∀ W, Below wo.heap.size wo W → W.ownsRow w.heap.size 25 2 (.slice (some ⟨g, 0, none⟩) k cap) k (flat s)) := Lib.hid (fun W hW => ownB hO.out hW (Nat.le_refl _))
        have hcm2 : cap ≤ 9223372036854775807 := by unfold maxLen at hcm; omega
        go_upto_block 2 with fail
        obtain ⟨Wp, hWp⟩ : ∃ Wp, Wp = (wo.alloc (.cells #[.int .i64 p1, .int .i64 p2] 25)) := ⟨_, rfl⟩
        rw [← hWp]
        have yWp0_0 : Wp.cell? ⟨wo.heap.size, 0, none⟩ = some (.int .i64 p1) := by rw [hWp]; go_simp
        have yWp0_1 : Wp.cell? ⟨wo.heap.size, 1, none⟩ = some (.int .i64 p2) := by rw [hWp]; go_simp
        have fWp0 : ∀ o, Wp.frozen? ⟨wo.heap.size, o, none⟩ = false := by intro o; rw [hWp]; (repeat rw [frozen?_alloc_cells]); simp [World.frozen?]
        have zWp0 : wo.heap.size < Wp.heap.size := by rw [hWp]; simp <;> omega
        have BWp : Below wo.heap.size wo Wp := by rw [hWp]; exact (Below.alloc (Below.refl _ _) (by simp <;> omega) _)
        have eWp : Hid (Wp.heap.size = wo.heap.size + 1) := Lib.hid (by rw [hWp]; simp)
        clear hWp
        go_cut [6] (fun q wx => ∃ j : Nat, q = .int .i64 j ∧ Hid (j = insAt s (p1, p2)) ∧ Below Wp.heap.size Wp wx)
        case first =>
          go_wp2_with fail
          go_loopg [6] k (fun g2 q wr => ∃ j : Nat, j ≤ k ∧ g2 = k - j ∧ q = .int .i64 j ∧ Below Wp.heap.size Wp wr ∧ Hid (∀ i, i < j → lxB (pt s i) (p1, p2) = true))
          case atStart => exact ⟨0, Nat.zero_le _, rfl, rfl, Below.refl _ _, Lib.hid (fun i h => absurd h (Nat.not_lt_zero _))⟩
          case round =>
            obtain ⟨j, hjk, hg2, rfl, hBi, hF⟩ := hrel
            rename World => wi
            have HGJ := Lib.hid hg2
            clear hg2
            by_cases hj : j < k
            · have BW := BWp.trans (hBi.mono BWp.size)
              obtain ⟨xs0, xs1⟩ := own_pt (HS.out wi BW) HLEN.out j hj
              have zp := Nat.lt_of_lt_of_le zWp0 hBi.size
              have zg := Nat.lt_of_lt_of_le hgw BW.size
              have y0 := ((bcell hBi).1 _ 0 zWp0).trans yWp0_0
              have y1 := ((bcell hBi).1 _ 1 zWp0).trans yWp0_1
              obtain ⟨q1, q2, hqe⟩ : ∃ q1 q2, pt s j = (q1, q2) := ⟨_, _, rfl⟩
              rw [hqe] at xs0 xs1
              have HQ := Lib.hid hqe
              have KL := Lib.hid (fun W => pgLess_lx q1 q2 p1 p2 W)
              clear hqe
              by_cases hlx : lxB (q1, q2) (p1, p2) = true
              · rw [hlx] at KL
                have hF2 : Hid (∀ i, i < j + 1 → lxB (pt s i) (p1, p2) = true) := Lib.hid (fun i hi => by
                  by_cases hij : i = j
                  · subst hij; rw [HQ.out]; exact hlx
                  · exact hF.out i (by omega))
                clear hlx
                go_wp2_with fail
                refine wp_region_B (fun W => Below wi.heap.size wi W) (by kernel_rfl) (by repeat (first | exact Below.refl _ _ | apply Below.drew)) ?_
                first | refine wpB_skip 0 rfl (by kernel_rfl) (by kernel_rfl) (by kernel_rfl) (by rfl) ?_ | (refine wpB_text 0 (v := ?_) rfl (by kernel_rfl) (by kernel_rfl) (by kernel_rfl) (by rfl) (fun W hW => ?_) ?_; rotate_left; (have k1 := hW; obtain ⟨hc1, hf1⟩ := bcell k1; go_simp; refine comes_v ?_; exact k1))
                (try simp only [Act.put, List.setIfInBounds_toArray, List.set_cons_zero, List.set_cons_succ])
                first | refine wpB_skip 1 rfl (by kernel_rfl) (by kernel_rfl) (by kernel_rfl) (by rfl) ?_ | (refine wpB_text 1 (v := ?_) rfl (by kernel_rfl) (by kernel_rfl) (by kernel_rfl) (by rfl) (fun W hW => ?_) ?_; rotate_left; (have k1 := hW; obtain ⟨hc1, hf1⟩ := bcell k1; go_simp; refine comes_v ?_; exact k1))
                (try simp only [Act.put, List.setIfInBounds_toArray, List.set_cons_zero, List.set_cons_succ])
                first | refine wpB_skip 2 rfl (by kernel_rfl) (by kernel_rfl) (by kernel_rfl) (by rfl) ?_ | (refine wpB_text 2 (v := ?_) rfl (by kernel_rfl) (by kernel_rfl) (by kernel_rfl) (by rfl) (fun W hW => ?_) ?_; rotate_left; (have k1 := hW; obtain ⟨hc1, hf1⟩ := bcell k1; go_simp; refine comes_v ?_; exact k1))
                (try simp only [Act.put, List.setIfInBounds_toArray, List.set_cons_zero, List.set_cons_succ])
                first | refine wpB_skip 3 rfl (by kernel_rfl) (by kernel_rfl) (by kernel_rfl) (by rfl) ?_ | (refine wpB_text 3 (v := ?_) rfl (by kernel_rfl) (by kernel_rfl) (by kernel_rfl) (by rfl) (fun W hW => ?_) ?_; rotate_left; (have k1 := hW; obtain ⟨hc1, hf1⟩ := bcell k1; go_simp; refine comes_v ?_; exact k1))
                (try simp only [Act.put, List.setIfInBounds_toArray, List.set_cons_zero, List.set_cons_succ])
                first | refine wpB_skip 4 rfl (by kernel_rfl) (by kernel_rfl) (by kernel_rfl) (by rfl) ?_ | (refine wpB_text 4 (v := ?_) rfl (by kernel_rfl) (by kernel_rfl) (by kernel_rfl) (by rfl) (fun W hW => ?_) ?_; rotate_left; (have k1 := hW; obtain ⟨hc1, hf1⟩ := bcell k1; go_simp; refine comes_v ?_; exact k1))
                (try simp only [Act.put, List.setIfInBounds_toArray, List.set_cons_zero, List.set_cons_succ])
                first | refine wpB_skip 5 rfl (by kernel_rfl) (by kernel_rfl) (by kernel_rfl) (by rfl) ?_ | (refine wpB_text 5 (v := ?_) rfl (by kernel_rfl) (by kernel_rfl) (by kernel_rfl) (by rfl) (fun W hW => ?_) ?_; rotate_left; (have k1 := hW; obtain ⟨hc1, hf1⟩ := bcell k1; go_simp; refine comes_v ?_; exact k1))
                (try simp only [Act.put, List.setIfInBounds_toArray, List.set_cons_zero, List.set_cons_succ])
                first | refine wpB_skip 6 rfl (by kernel_rfl) (by kernel_rfl) (by kernel_rfl) (by rfl) ?_ | (refine wpB_text 6 (v := ?_) rfl (by kernel_rfl) (by kernel_rfl) (by kernel_rfl) (by rfl) (fun W hW => ?_) ?_; rotate_left; (have k1 := hW; obtain ⟨hc1, hf1⟩ := bcell k1; go_simp; refine comes_v ?_; exact k1))
                (try simp only [Act.put, List.setIfInBounds_toArray, List.set_cons_zero, List.set_cons_succ])
                first | refine wpB_skip 7 rfl (by kernel_rfl) (by kernel_rfl) (by kernel_rfl) (by rfl) ?_ | (refine wpB_text 7 (v := ?_) rfl (by kernel_rfl) (by kernel_rfl) (by kernel_rfl) (by rfl) (fun W hW => ?_) ?_; rotate_left; (have k1 := hW; obtain ⟨hc1, hf1⟩ := bcell k1; go_simp; refine comes_v ?_; exact k1))
                (try simp only [Act.put, List.setIfInBounds_toArray, List.set_cons_zero, List.set_cons_succ])
                first | refine wpB_skip 8 rfl (by kernel_rfl) (by kernel_rfl) (by kernel_rfl) (by rfl) ?_ | (refine wpB_text 8 (v := ?_) rfl (by kernel_rfl) (by kernel_rfl) (by kernel_rfl) (by rfl) (fun W hW => ?_) ?_; rotate_left; (have k1 := hW; obtain ⟨hc1, hf1⟩ := bcell k1; go_simp; refine comes_v ?_; exact k1))
                (try simp only [Act.put, List.setIfInBounds_toArray, List.set_cons_zero, List.set_cons_succ])
                first | refine wpB_skip 9 rfl (by kernel_rfl) (by kernel_rfl) (by kernel_rfl) (by rfl) ?_ | (refine wpB_text 9 (v := ?_) rfl (by kernel_rfl) (by kernel_rfl) (by kernel_rfl) (by rfl) (fun W hW => ?_) ?_; rotate_left; (have k1 := hW; obtain ⟨hc1, hf1⟩ := bcell k1; go_simp; refine comes_v ?_; exact k1))
                (try simp only [Act.put, List.setIfInBounds_toArray, List.set_cons_zero, List.set_cons_succ])
                first | refine wpB_skip 10 rfl (by kernel_rfl) (by kernel_rfl) (by kernel_rfl) (by rfl) ?_ | (refine wpB_text 10 (v := .bool true) rfl (by kernel_rfl) (by kernel_rfl) (by kernel_rfl) (by rfl) (fun W hW => ?_) ?_; (have k1 := hW; obtain ⟨hc1, hf1⟩ := bcell k1; go_simp; exact comes_c ( KL.out _) (fun wn hbn => bt_keep k1 hbn)))
                (try simp only [Act.put, List.setIfInBounds_toArray, List.set_cons_zero, List.set_cons_succ])
                first | refine wpB_skip 11 rfl (by kernel_rfl) (by kernel_rfl) (by kernel_rfl) (by rfl) ?_ | (refine wpB_text 11 (v := ?_) rfl (by kernel_rfl) (by kernel_rfl) (by kernel_rfl) (by rfl) (fun W hW => ?_) ?_; rotate_left; (have k1 := hW; obtain ⟨hc1, hf1⟩ := bcell k1; go_simp; refine comes_v ?_; exact k1))
                (try simp only [Act.put, List.setIfInBounds_toArray, List.set_cons_zero, List.set_cons_succ])
                refine wpB_done (by kernel_rfl) ?_ _
                intro W hW; have k1 := hW
                go_wp2_with fail
                go_roundg (k - (j + 1))
                case measure => have := HGJ.out; omega
                case rel => exact ⟨j + 1, by omega, rfl, by go_num, hBi.trans (k1.mono hBi.size), hF2⟩
              · have hlf : lxB (q1, q2) (p1, p2) = false := by simpa using hlx
                rw [hlf] at KL
                have hJ : Hid (j = insAt s (p1, p2)) := Lib.hid (insAt_eq s (p1, p2) j hF.out (by rw [HLEN.out]; omega) (Or.inr (by rw [HQ.out]; exact hlf))).symm
                clear hlx hlf
                go_wp2_with fail
                refine wp_region_B (fun W => Below wi.heap.size wi W) (by kernel_rfl) (by repeat (first | exact Below.refl _ _ | apply Below.drew)) ?_
                first | refine wpB_skip 0 rfl (by kernel_rfl) (by kernel_rfl) (by kernel_rfl) (by rfl) ?_ | (refine wpB_text 0 (v := ?_) rfl (by kernel_rfl) (by kernel_rfl) (by kernel_rfl) (by rfl) (fun W hW => ?_) ?_; rotate_left; (have k1 := hW; obtain ⟨hc1, hf1⟩ := bcell k1; go_simp; refine comes_v ?_; exact k1))
                (try simp only [Act.put, List.setIfInBounds_toArray, List.set_cons_zero, List.set_cons_succ])
                first | refine wpB_skip 1 rfl (by kernel_rfl) (by kernel_rfl) (by kernel_rfl) (by rfl) ?_ | (refine wpB_text 1 (v := ?_) rfl (by kernel_rfl) (by kernel_rfl) (by kernel_rfl) (by rfl) (fun W hW => ?_) ?_; rotate_left; (have k1 := hW; obtain ⟨hc1, hf1⟩ := bcell k1; go_simp; refine comes_v ?_; exact k1))
                (try simp only [Act.put, List.setIfInBounds_toArray, List.set_cons_zero, List.set_cons_succ])
                first | refine wpB_skip 2 rfl (by kernel_rfl) (by kernel_rfl) (by kernel_rfl) (by rfl) ?_ | (refine wpB_text 2 (v := ?_) rfl (by kernel_rfl) (by kernel_rfl) (by kernel_rfl) (by rfl) (fun W hW => ?_) ?_; rotate_left; (have k1 := hW; obtain ⟨hc1, hf1⟩ := bcell k1; go_simp; refine comes_v ?_; exact k1))
                (try simp only [Act.put, List.setIfInBounds_toArray, List.set_cons_zero, List.set_cons_succ])
                first | refine wpB_skip 3 rfl (by kernel_rfl) (by kernel_rfl) (by kernel_rfl) (by rfl) ?_ | (refine wpB_text 3 (v := ?_) rfl (by kernel_rfl) (by kernel_rfl) (by kernel_rfl) (by rfl) (fun W hW => ?_) ?_; rotate_left; (have k1 := hW; obtain ⟨hc1, hf1⟩ := bcell k1; go_simp; refine comes_v ?_; exact k1))
                (try simp only [Act.put, List.setIfInBounds_toArray, List.set_cons_zero, List.set_cons_succ])
                first | refine wpB_skip 4 rfl (by kernel_rfl) (by kernel_rfl) (by kernel_rfl) (by rfl) ?_ | (refine wpB_text 4 (v := ?_) rfl (by kernel_rfl) (by kernel_rfl) (by kernel_rfl) (by rfl) (fun W hW => ?_) ?_; rotate_left; (have k1 := hW; obtain ⟨hc1, hf1⟩ := bcell k1; go_simp; refine comes_v ?_; exact k1))
                (try simp only [Act.put, List.setIfInBounds_toArray, List.set_cons_zero, List.set_cons_succ])
                first | refine wpB_skip 5 rfl (by kernel_rfl) (by kernel_rfl) (by kernel_rfl) (by rfl) ?_ | (refine wpB_text 5 (v := ?_) rfl (by kernel_rfl) (by kernel_rfl) (by kernel_rfl) (by rfl) (fun W hW => ?_) ?_; rotate_left; (have k1 := hW; obtain ⟨hc1, hf1⟩ := bcell k1; go_simp; refine comes_v ?_; exact k1))
                (try simp only [Act.put, List.setIfInBounds_toArray, List.set_cons_zero, List.set_cons_succ])
                first | refine wpB_skip 6 rfl (by kernel_rfl) (by kernel_rfl) (by kernel_rfl) (by rfl) ?_ | (refine wpB_text 6 (v := ?_) rfl (by kernel_rfl) (by kernel_rfl) (by kernel_rfl) (by rfl) (fun W hW => ?_) ?_; rotate_left; (have k1 := hW; obtain ⟨hc1, hf1⟩ := bcell k1; go_simp; refine comes_v ?_; exact k1))
                (try simp only [Act.put, List.setIfInBounds_toArray, List.set_cons_zero, List.set_cons_succ])
                first | refine wpB_skip 7 rfl (by kernel_rfl) (by kernel_rfl) (by kernel_rfl) (by rfl) ?_ | (refine wpB_text 7 (v := ?_) rfl (by kernel_rfl) (by kernel_rfl) (by kernel_rfl) (by rfl) (fun W hW => ?_) ?_; rotate_left; (have k1 := hW; obtain ⟨hc1, hf1⟩ := bcell k1; go_simp; refine comes_v ?_; exact k1))
                (try simp only [Act.put, List.setIfInBounds_toArray, List.set_cons_zero, List.set_cons_succ])
                first | refine wpB_skip 8 rfl (by kernel_rfl) (by kernel_rfl) (by kernel_rfl) (by rfl) ?_ | (refine wpB_text 8 (v := ?_) rfl (by kernel_rfl) (by kernel_rfl) (by kernel_rfl) (by rfl) (fun W hW => ?_) ?_; rotate_left; (have k1 := hW; obtain ⟨hc1, hf1⟩ := bcell k1; go_simp; refine comes_v ?_; exact k1))
                (try simp only [Act.put, List.setIfInBounds_toArray, List.set_cons_zero, List.set_cons_succ])
                first | refine wpB_skip 9 rfl (by kernel_rfl) (by kernel_rfl) (by kernel_rfl) (by rfl) ?_ | (refine wpB_text 9 (v := ?_) rfl (by kernel_rfl) (by kernel_rfl) (by kernel_rfl) (by rfl) (fun W hW => ?_) ?_; rotate_left; (have k1 := hW; obtain ⟨hc1, hf1⟩ := bcell k1; go_simp; refine comes_v ?_; exact k1))
                (try simp only [Act.put, List.setIfInBounds_toArray, List.set_cons_zero, List.set_cons_succ])
                first | refine wpB_skip 10 rfl (by kernel_rfl) (by kernel_rfl) (by kernel_rfl) (by rfl) ?_ | (refine wpB_text 10 (v := .bool false) rfl (by kernel_rfl) (by kernel_rfl) (by kernel_rfl) (by rfl) (fun W hW => ?_) ?_; (have k1 := hW; obtain ⟨hc1, hf1⟩ := bcell k1; go_simp; exact comes_c ( KL.out _) (fun wn hbn => bt_keep k1 hbn)))
                (try simp only [Act.put, List.setIfInBounds_toArray, List.set_cons_zero, List.set_cons_succ])
                first | refine wpB_skip 11 rfl (by kernel_rfl) (by kernel_rfl) (by kernel_rfl) (by rfl) ?_ | (refine wpB_text 11 (v := ?_) rfl (by kernel_rfl) (by kernel_rfl) (by kernel_rfl) (by rfl) (fun W hW => ?_) ?_; rotate_left; (have k1 := hW; obtain ⟨hc1, hf1⟩ := bcell k1; go_simp; refine comes_v ?_; exact k1))
                (try simp only [Act.put, List.setIfInBounds_toArray, List.set_cons_zero, List.set_cons_succ])
                refine wpB_done (by kernel_rfl) ?_ _
                intro W hW; have k1 := hW
                go_wp2_with fail
                go_meet
                case rel => exact ⟨j, rfl, hJ, hBi.trans (k1.mono hBi.size)⟩
            · have hjk2 : j = k := by omega
              subst hjk2
              have hJ : Hid (j = insAt s (p1, p2)) := Lib.hid (insAt_eq s (p1, p2) j hF.out (by rw [HLEN.out]; omega) (Or.inl HLEN.out.symm)).symm
              go_wp2_with fail
              refine wp_region_B (fun W => Below wi.heap.size wi W) (by kernel_rfl) (by repeat (first | exact Below.refl _ _ | apply Below.drew)) ?_
              first | refine wpB_skip 0 rfl (by kernel_rfl) (by kernel_rfl) (by kernel_rfl) (by rfl) ?_ | (refine wpB_text 0 (v := ?_) rfl (by kernel_rfl) (by kernel_rfl) (by kernel_rfl) (by rfl) (fun W hW => ?_) ?_; rotate_left; (have k1 := hW; obtain ⟨hc1, hf1⟩ := bcell k1; go_simp; refine comes_v ?_; exact k1))
              (try simp only [Act.put, List.setIfInBounds_toArray, List.set_cons_zero, List.set_cons_succ])
              first | refine wpB_skip 1 rfl (by kernel_rfl) (by kernel_rfl) (by kernel_rfl) (by rfl) ?_ | (refine wpB_text 1 (v := ?_) rfl (by kernel_rfl) (by kernel_rfl) (by kernel_rfl) (by rfl) (fun W hW => ?_) ?_; rotate_left; (have k1 := hW; obtain ⟨hc1, hf1⟩ := bcell k1; go_simp; refine comes_v ?_; exact k1))
              (try simp only [Act.put, List.setIfInBounds_toArray, List.set_cons_zero, List.set_cons_succ])
              first | refine wpB_skip 2 rfl (by kernel_rfl) (by kernel_rfl) (by kernel_rfl) (by rfl) ?_ | (refine wpB_text 2 (v := ?_) rfl (by kernel_rfl) (by kernel_rfl) (by kernel_rfl) (by rfl) (fun W hW => ?_) ?_; rotate_left; (have k1 := hW; obtain ⟨hc1, hf1⟩ := bcell k1; go_simp; refine comes_v ?_; exact k1))
              (try simp only [Act.put, List.setIfInBounds_toArray, List.set_cons_zero, List.set_cons_succ])
              first | refine wpB_skip 3 rfl (by kernel_rfl) (by kernel_rfl) (by kernel_rfl) (by rfl) ?_ | (refine wpB_text 3 (v := ?_) rfl (by kernel_rfl) (by kernel_rfl) (by kernel_rfl) (by rfl) (fun W hW => ?_) ?_; rotate_left; (have k1 := hW; obtain ⟨hc1, hf1⟩ := bcell k1; go_simp; refine comes_v ?_; exact k1))
              (try simp only [Act.put, List.setIfInBounds_toArray, List.set_cons_zero, List.set_cons_succ])
              first | refine wpB_skip 4 rfl (by kernel_rfl) (by kernel_rfl) (by kernel_rfl) (by rfl) ?_ | (refine wpB_text 4 (v := ?_) rfl (by kernel_rfl) (by kernel_rfl) (by kernel_rfl) (by rfl) (fun W hW => ?_) ?_; rotate_left; (have k1 := hW; obtain ⟨hc1, hf1⟩ := bcell k1; go_simp; refine comes_v ?_; exact k1))
              (try simp only [Act.put, List.setIfInBounds_toArray, List.set_cons_zero, List.set_cons_succ])
              first | refine wpB_skip 5 rfl (by kernel_rfl) (by kernel_rfl) (by kernel_rfl) (by rfl) ?_ | (refine wpB_text 5 (v := ?_) rfl (by kernel_rfl) (by kernel_rfl) (by kernel_rfl) (by rfl) (fun W hW => ?_) ?_; rotate_left; (have k1 := hW; obtain ⟨hc1, hf1⟩ := bcell k1; go_simp; refine comes_v ?_; exact k1))
              (try simp only [Act.put, List.setIfInBounds_toArray, List.set_cons_zero, List.set_cons_succ])
              first | refine wpB_skip 6 rfl (by kernel_rfl) (by kernel_rfl) (by kernel_rfl) (by rfl) ?_ | (refine wpB_text 6 (v := ?_) rfl (by kernel_rfl) (by kernel_rfl) (by kernel_rfl) (by rfl) (fun W hW => ?_) ?_; rotate_left; (have k1 := hW; obtain ⟨hc1, hf1⟩ := bcell k1; go_simp; refine comes_v ?_; exact k1))
              (try simp only [Act.put, List.setIfInBounds_toArray, List.set_cons_zero, List.set_cons_succ])
              first | refine wpB_skip 7 rfl (by kernel_rfl) (by kernel_rfl) (by kernel_rfl) (by rfl) ?_ | (refine wpB_text 7 (v := ?_) rfl (by kernel_rfl) (by kernel_rfl) (by kernel_rfl) (by rfl) (fun W hW => ?_) ?_; rotate_left; (have k1 := hW; obtain ⟨hc1, hf1⟩ := bcell k1; go_simp; refine comes_v ?_; exact k1))
              (try simp only [Act.put, List.setIfInBounds_toArray, List.set_cons_zero, List.set_cons_succ])
              first | refine wpB_skip 8 rfl (by kernel_rfl) (by kernel_rfl) (by kernel_rfl) (by rfl) ?_ | (refine wpB_text 8 (v := ?_) rfl (by kernel_rfl) (by kernel_rfl) (by kernel_rfl) (by rfl) (fun W hW => ?_) ?_; rotate_left; (have k1 := hW; obtain ⟨hc1, hf1⟩ := bcell k1; go_simp; refine comes_v ?_; exact k1))
              (try simp only [Act.put, List.setIfInBounds_toArray, List.set_cons_zero, List.set_cons_succ])
              first | refine wpB_skip 9 rfl (by kernel_rfl) (by kernel_rfl) (by kernel_rfl) (by rfl) ?_ | (refine wpB_text 9 (v := ?_) rfl (by kernel_rfl) (by kernel_rfl) (by kernel_rfl) (by rfl) (fun W hW => ?_) ?_; rotate_left; (have k1 := hW; obtain ⟨hc1, hf1⟩ := bcell k1; go_simp; refine comes_v ?_; exact k1))
              (try simp only [Act.put, List.setIfInBounds_toArray, List.set_cons_zero, List.set_cons_succ])
              first | refine wpB_skip 10 rfl (by kernel_rfl) (by kernel_rfl) (by kernel_rfl) (by rfl) ?_ | (refine wpB_text 10 (v := ?_) rfl (by kernel_rfl) (by kernel_rfl) (by kernel_rfl) (by rfl) (fun W hW => ?_) ?_; rotate_left; (have k1 := hW; obtain ⟨hc1, hf1⟩ := bcell k1; go_simp; refine comes_v ?_; exact k1))
              (try simp only [Act.put, List.setIfInBounds_toArray, List.set_cons_zero, List.set_cons_succ])
              first | refine wpB_skip 11 rfl (by kernel_rfl) (by kernel_rfl) (by kernel_rfl) (by rfl) ?_ | (refine wpB_text 11 (v := ?_) rfl (by kernel_rfl) (by kernel_rfl) (by kernel_rfl) (by rfl) (fun W hW => ?_) ?_; rotate_left; (have k1 := hW; obtain ⟨hc1, hf1⟩ := bcell k1; go_simp; refine comes_v ?_; exact k1))
              (try simp only [Act.put, List.setIfInBounds_toArray, List.set_cons_zero, List.set_cons_succ])
              refine wpB_done (by kernel_rfl) ?_ _
              intro W hW; have k1 := hW
              go_wp2_with fail
              go_meet
              case rel => exact ⟨j, rfl, hJ, hBi.trans (k1.mono hBi.size)⟩
        case rest =>
          obtain ⟨j, rfl, hJ, BC⟩ := hcut
          rename World => wy
          have hjk : j ≤ k := by
            have := insAt_le s (p1, p2)
            rw [← hJ.out, HLEN.out] at this
            exact this
          have hp5 : wo.heap.size < wy.heap.size := Nat.lt_of_lt_of_le zWp0 BC.size
          have x0 := ((bcell BC).1 _ 0 zWp0).trans yWp0_0
          have x1 := ((bcell BC).1 _ 1 zWp0).trans yWp0_1
          have BWY := BWp.trans (BC.mono BWp.size)
          have BY := hB.trans (BWY.mono hB.size)
          have hwx := BY.size
          have hzo := BWY.size
          have HV : Hid (∀ W, Below wy.heap.size wy W → ∀ i u, (flat (s.take j))[i]? = some u → W.cell? ((⟨g, 0, none⟩ : Addr).add i) = some u) := Lib.hid (fun W hW => take_own (HS.out W (BWY.trans (hW.mono hzo))) j)
          have HL := HLEN.out
          clear yWp0_0 yWp0_1 fWp0 zWp0 BC BWp hq1 hq2
          go_upto_region 8 with fail
          go_cut [7] (fun q wx => ∃ v, v = q ∧ Hid (wx.ownsRow wy.heap.size 25 2 v (0 + j + 1) ([] ++ flat (s.take j) ++ [.int .i64 p1, .int .i64 p2])) ∧ Below wy.heap.size wy wx)
          case first =>
            refine wp_region_any (by kernel_rfl) ?_
            change wpAny _ _ _ _ _ _ _ (World.drew _)
            have BB : Below wy.heap.size wy wy.drew := (Below.refl _ _).drew
            generalize wy.drew = W0 at BB ⊢
            refine wpAny_take (i := 1) (v := .slice (some ⟨g, 0, none⟩) k cap) rfl (by kernel_rfl) (by kernel_rfl) (by kernel_rfl) (fun _ _ _ h => h) (Or.inl ⟨by rfl, fun W => by first | rfl | (go_simp; try (intro h; omega))⟩) ?_
            (try simp only [List.getElem_toArray, List.getElem_cons_zero, List.getElem_cons_succ, Act.put, List.setIfInBounds_toArray, List.set_cons_zero, List.set_cons_succ])
            refine wpAny_take (i := 2) (v := .int .i64 j) rfl (by kernel_rfl) (by kernel_rfl) (by kernel_rfl) (fun _ _ _ h => h) (Or.inl ⟨by rfl, fun W => by first | rfl | (go_simp; try (intro h; omega))⟩) ?_
            (try simp only [List.getElem_toArray, List.getElem_cons_zero, List.getElem_cons_succ, Act.put, List.setIfInBounds_toArray, List.set_cons_zero, List.set_cons_succ])
            refine wpAny_take (i := 3) (v := .slice (some ⟨g, 0, none⟩) j cap) rfl (by kernel_rfl) (by kernel_rfl) (by kernel_rfl) (fun _ _ _ h => h) (Or.inl ⟨by rfl, fun W => by first | rfl | (go_simp; try (intro h; omega))⟩) ?_
            (try simp only [List.getElem_toArray, List.getElem_cons_zero, List.getElem_cons_succ, Act.put, List.setIfInBounds_toArray, List.set_cons_zero, List.set_cons_succ])
            refine wpAny_all (rs := [0, 5]) (by kernel_rfl) (by simp) (fun i hi => ?_)
            rcases (by simpa using hi : i = 0 ∨ i = 5) with rfl | rfl
            · refine wpOp_val (v := .slice (some ⟨W0.heap.size, 0, none⟩) 0 0) (w' := W0.alloc (.cells #[] 25)) rfl (by rfl) (by go_simp) ?_
              have own28 : (W0.alloc (.cells #[] 25)).ownsRow wy.heap.size 25 2 (.slice (some ⟨W0.heap.size, 0, none⟩) 0 0) 0 [] := World.ownsRow_lit W0 #[] 0 BB.size (by decide) rfl
              have hn28 : wy.heap.size ≤ W0.heap.size := BB.size
              have BB := Below.alloc BB BB.size (.cells #[] 25)
              have zn : W0.heap.size < (W0.alloc (.cells #[] 25)).heap.size := by simp
              (try simp only [List.getElem_toArray, List.getElem_cons_zero, List.getElem_cons_succ, Act.put, List.setIfInBounds_toArray, List.set_cons_zero, List.set_cons_succ])
              generalize W0.alloc (.cells #[] 25) = W1 at *
              generalize W0.heap.size = b28 at own28 hn28 zn ⊢
              refine wpAny_all (rs := [4, 5]) (by kernel_rfl) (by simp) (fun i hi => ?_)
              rcases (by simpa using hi : i = 4 ∨ i = 5) with rfl | rfl
              · refine wpOp_left rfl (by rfl) (wp_append_own _ (.tmp 28) (.tmp 31) 28 rfl wy.heap.size 25 i0 (.agg #[.int .i64 0, .int .i64 0]) 2 16 Try.underlying28 HI.out.1 HI.out.2.1 HI.out.2.2.1 HI.out.2.2.2 rfl (by decide) (.slice (some ⟨b28, 0, none⟩) 0 0) 0 [] rfl own28 ⟨g, 0, none⟩ j cap (flat (s.take j)) rfl (by rw [flat_len, List.length_take]; omega) (HV.out _ BB) (flat_one _) (by unfold maxLen; omega) (by omega) BB.size ?_)
                intro v32 W2 own32 hgr4 _
                have BB := BB.grown hgr4 BB.size (fun g hg => (World.ownsRow.lt own28 g hg).1)
                clear hgr4
                (try simp only [List.getElem_toArray, List.getElem_cons_zero, List.getElem_cons_succ, Act.put, List.setIfInBounds_toArray, List.set_cons_zero, List.set_cons_succ])
                refine wpAny_all (rs := [5]) (by kernel_rfl) (by simp) (fun i hi => ?_)
                obtain rfl : i = 5 := by simpa using hi
                refine wpOp_val (v := .agg #[.int .i64 p1, .int .i64 p2]) (w' := W2) rfl (by rfl) (by first | (have e0 := (bcell BB).1 _ 0 hp5; have e1 := (bcell BB).1 _ 1 hp5; rw [x0] at e0; rw [x1] at e1; go_simp) | go_simp) ?_
                (try simp only [List.getElem_toArray, List.getElem_cons_zero, List.getElem_cons_succ, Act.put, List.setIfInBounds_toArray, List.set_cons_zero, List.set_cons_succ])
                refine wpAny_all (rs := [6]) (by kernel_rfl) (by simp) (fun i hi => ?_)
                obtain rfl : i = 6 := by simpa using hi
                refine wpOp_val (v := .slice (some ⟨W2.heap.size, 0, none⟩) 1 1) (w' := W2.alloc (.cells #[.int .i64 p1, .int .i64 p2] 25)) rfl (by rfl) (by go_simp) ?_
                have cp0 : (W2.alloc (.cells #[.int .i64 p1, .int .i64 p2] 25)).cell? ⟨W2.heap.size, 0, none⟩ = some (.int .i64 p1) := by go_simp
                have cp1 : (W2.alloc (.cells #[.int .i64 p1, .int .i64 p2] 25)).cell? ⟨W2.heap.size, 1, none⟩ = some (.int .i64 p2) := by go_simp
                have zp : W2.heap.size < (W2.alloc (.cells #[.int .i64 p1, .int .i64 p2] 25)).heap.size := by simp
                have own32 := own32.alloc (.cells #[.int .i64 p1, .int .i64 p2] 25)
                have BB := Below.alloc BB BB.size (.cells #[.int .i64 p1, .int .i64 p2] 25)
                (try simp only [List.getElem_toArray, List.getElem_cons_zero, List.getElem_cons_succ, Act.put, List.setIfInBounds_toArray, List.set_cons_zero, List.set_cons_succ])
                generalize W2.alloc (.cells #[.int .i64 p1, .int .i64 p2] 25) = W4 at *
                generalize W2.heap.size = b34 at cp0 cp1 zp ⊢
                refine wpAny_all (rs := [7]) (by kernel_rfl) (by simp) (fun i hi => ?_)
                obtain rfl : i = 7 := by simpa using hi
                refine wpOp_left rfl (by rfl) (wp_append_own _ (.tmp 32) (.tmp 34) 28 rfl wy.heap.size 25 i0 (.agg #[.int .i64 0, .int .i64 0]) 2 16 Try.underlying28 HI.out.1 HI.out.2.1 HI.out.2.2.1 HI.out.2.2.2 rfl (by decide) v32 (0 + j) ([] ++ flat (s.take j)) rfl own32 ⟨b34, 0, none⟩ 1 1 [.int .i64 p1, .int .i64 p2] rfl rfl (two_cells cp0 cp1) (two_one _ _) (by unfold maxLen; omega) (by omega) BB.size ?_)
                intro v35 w8 own35 hgr8 _
                have BE := BB.grown hgr8 BB.size (fun g hg => (World.ownsRow.lt own32 g hg).1)
                (try simp only [List.getElem_toArray, List.getElem_cons_zero, List.getElem_cons_succ, Act.put, List.setIfInBounds_toArray, List.set_cons_zero, List.set_cons_succ])
                refine wpAny_all (rs := [8]) (by kernel_rfl) (by simp) (fun i hi => ?_)
                obtain rfl : i = 8 := by simpa using hi
                refine wpOp_val (v := v35) (w' := w8) rfl (by rfl) (by first | rfl | go_simp) ?_
                (try simp only [List.getElem_toArray, List.getElem_cons_zero, List.getElem_cons_succ, Act.put, List.setIfInBounds_toArray, List.set_cons_zero, List.set_cons_succ])
                refine wpAny_done (by kernel_rfl) ?_ _
                go_wp2_with fail
                go_meet
                case rel => exact ⟨v35, rfl, Lib.hid own35, BE⟩
              · refine wpOp_val (v := .agg #[.int .i64 p1, .int .i64 p2]) (w' := W1) rfl (by rfl) (by first | (have e0 := (bcell BB).1 _ 0 hp5; have e1 := (bcell BB).1 _ 1 hp5; rw [x0] at e0; rw [x1] at e1; go_simp) | go_simp) ?_
                (try simp only [List.getElem_toArray, List.getElem_cons_zero, List.getElem_cons_succ, Act.put, List.setIfInBounds_toArray, List.set_cons_zero, List.set_cons_succ])
                refine wpAny_all (rs := [4, 6]) (by kernel_rfl) (by simp) (fun i hi => ?_)
                rcases (by simpa using hi : i = 4 ∨ i = 6) with rfl | rfl
                · refine wpOp_left rfl (by rfl) (wp_append_own _ (.tmp 28) (.tmp 31) 28 rfl wy.heap.size 25 i0 (.agg #[.int .i64 0, .int .i64 0]) 2 16 Try.underlying28 HI.out.1 HI.out.2.1 HI.out.2.2.1 HI.out.2.2.2 rfl (by decide) (.slice (some ⟨b28, 0, none⟩) 0 0) 0 [] rfl own28 ⟨g, 0, none⟩ j cap (flat (s.take j)) rfl (by rw [flat_len, List.length_take]; omega) (HV.out _ BB) (flat_one _) (by unfold maxLen; omega) (by omega) BB.size ?_)
                  intro v32 W3 own32 hgr4 _
                  have BB := BB.grown hgr4 BB.size (fun g hg => (World.ownsRow.lt own28 g hg).1)
                  clear hgr4
                  (try simp only [List.getElem_toArray, List.getElem_cons_zero, List.getElem_cons_succ, Act.put, List.setIfInBounds_toArray, List.set_cons_zero, List.set_cons_succ])
                  refine wpAny_all (rs := [6]) (by kernel_rfl) (by simp) (fun i hi => ?_)
                  obtain rfl : i = 6 := by simpa using hi
                  refine wpOp_val (v := .slice (some ⟨W3.heap.size, 0, none⟩) 1 1) (w' := W3.alloc (.cells #[.int .i64 p1, .int .i64 p2] 25)) rfl (by rfl) (by go_simp) ?_
                  have cp0 : (W3.alloc (.cells #[.int .i64 p1, .int .i64 p2] 25)).cell? ⟨W3.heap.size, 0, none⟩ = some (.int .i64 p1) := by go_simp
                  have cp1 : (W3.alloc (.cells #[.int .i64 p1, .int .i64 p2] 25)).cell? ⟨W3.heap.size, 1, none⟩ = some (.int .i64 p2) := by go_simp
                  have zp : W3.heap.size < (W3.alloc (.cells #[.int .i64 p1, .int .i64 p2] 25)).heap.size := by simp
                  have own32 := own32.alloc (.cells #[.int .i64 p1, .int .i64 p2] 25)
                  have BB := Below.alloc BB BB.size (.cells #[.int .i64 p1, .int .i64 p2] 25)
                  (try simp only [List.getElem_toArray, List.getElem_cons_zero, List.getElem_cons_succ, Act.put, List.setIfInBounds_toArray, List.set_cons_zero, List.set_cons_succ])
                  generalize W3.alloc (.cells #[.int .i64 p1, .int .i64 p2] 25) = W4 at *
                  generalize W3.heap.size = b34 at cp0 cp1 zp ⊢
                  refine wpAny_all (rs := [7]) (by kernel_rfl) (by simp) (fun i hi => ?_)
                  obtain rfl : i = 7 := by simpa using hi
                  refine wpOp_left rfl (by rfl) (wp_append_own _ (.tmp 32) (.tmp 34) 28 rfl wy.heap.size 25 i0 (.agg #[.int .i64 0, .int .i64 0]) 2 16 Try.underlying28 HI.out.1 HI.out.2.1 HI.out.2.2.1 HI.out.2.2.2 rfl (by decide) v32 (0 + j) ([] ++ flat (s.take j)) rfl own32 ⟨b34, 0, none⟩ 1 1 [.int .i64 p1, .int .i64 p2] rfl rfl (two_cells cp0 cp1) (two_one _ _) (by unfold maxLen; omega) (by omega) BB.size ?_)
                  intro v35 w8 own35 hgr8 _
                  have BE := BB.grown hgr8 BB.size (fun g hg => (World.ownsRow.lt own32 g hg).1)
                  (try simp only [List.getElem_toArray, List.getElem_cons_zero, List.getElem_cons_succ, Act.put, List.setIfInBounds_toArray, List.set_cons_zero, List.set_cons_succ])
                  refine wpAny_all (rs := [8]) (by kernel_rfl) (by simp) (fun i hi => ?_)
                  obtain rfl : i = 8 := by simpa using hi
                  refine wpOp_val (v := v35) (w' := w8) rfl (by rfl) (by first | rfl | go_simp) ?_
                  (try simp only [List.getElem_toArray, List.getElem_cons_zero, List.getElem_cons_succ, Act.put, List.setIfInBounds_toArray, List.set_cons_zero, List.set_cons_succ])
                  refine wpAny_done (by kernel_rfl) ?_ _
                  go_wp2_with fail
                  go_meet
                  case rel => exact ⟨v35, rfl, Lib.hid own35, BE⟩
                · refine wpOp_val (v := .slice (some ⟨W1.heap.size, 0, none⟩) 1 1) (w' := W1.alloc (.cells #[.int .i64 p1, .int .i64 p2] 25)) rfl (by rfl) (by go_simp) ?_
                  have cp0 : (W1.alloc (.cells #[.int .i64 p1, .int .i64 p2] 25)).cell? ⟨W1.heap.size, 0, none⟩ = some (.int .i64 p1) := by go_simp
                  have cp1 : (W1.alloc (.cells #[.int .i64 p1, .int .i64 p2] 25)).cell? ⟨W1.heap.size, 1, none⟩ = some (.int .i64 p2) := by go_simp
                  have zp : W1.heap.size < (W1.alloc (.cells #[.int .i64 p1, .int .i64 p2] 25)).heap.size := by simp
                  have own28 := own28.alloc (.cells #[.int .i64 p1, .int .i64 p2] 25)
                  have hne : W1.heap.size ≠ b28 := Nat.ne_of_gt zn
                  have zn := Nat.lt_trans zn zp
                  have BB := Below.alloc BB BB.size (.cells #[.int .i64 p1, .int .i64 p2] 25)
                  (try simp only [List.getElem_toArray, List.getElem_cons_zero, List.getElem_cons_succ, Act.put, List.setIfInBounds_toArray, List.set_cons_zero, List.set_cons_succ])
                  generalize W1.alloc (.cells #[.int .i64 p1, .int .i64 p2] 25) = W3 at *
                  generalize W1.heap.size = b34 at cp0 cp1 zp hne ⊢
                  refine wpAny_all (rs := [4]) (by kernel_rfl) (by simp) (fun i hi => ?_)
                  obtain rfl : i = 4 := by simpa using hi
                  refine wpOp_left rfl (by rfl) (wp_append_own _ (.tmp 28) (.tmp 31) 28 rfl wy.heap.size 25 i0 (.agg #[.int .i64 0, .int .i64 0]) 2 16 Try.underlying28 HI.out.1 HI.out.2.1 HI.out.2.2.1 HI.out.2.2.2 rfl (by decide) (.slice (some ⟨b28, 0, none⟩) 0 0) 0 [] rfl own28 ⟨g, 0, none⟩ j cap (flat (s.take j)) rfl (by rw [flat_len, List.length_take]; omega) (HV.out _ BB) (flat_one _) (by unfold maxLen; omega) (by omega) BB.size ?_)
                  intro v32 W4 own32 hgr4 _
                  have BB := BB.grown hgr4 BB.size (fun g hg => (World.ownsRow.lt own28 g hg).1)
                  have cp0 := hgr4.cell cp0 (by simp [Value.ownBlock]; exact hne)
                  have cp1 := hgr4.cell cp1 (by simp [Value.ownBlock]; exact hne)
                  have zp := Nat.lt_of_lt_of_le zp hgr4.size
                  clear hgr4
                  (try simp only [List.getElem_toArray, List.getElem_cons_zero, List.getElem_cons_succ, Act.put, List.setIfInBounds_toArray, List.set_cons_zero, List.set_cons_succ])
                  refine wpAny_all (rs := [7]) (by kernel_rfl) (by simp) (fun i hi => ?_)
                  obtain rfl : i = 7 := by simpa using hi
                  refine wpOp_left rfl (by rfl) (wp_append_own _ (.tmp 32) (.tmp 34) 28 rfl wy.heap.size 25 i0 (.agg #[.int .i64 0, .int .i64 0]) 2 16 Try.underlying28 HI.out.1 HI.out.2.1 HI.out.2.2.1 HI.out.2.2.2 rfl (by decide) v32 (0 + j) ([] ++ flat (s.take j)) rfl own32 ⟨b34, 0, none⟩ 1 1 [.int .i64 p1, .int .i64 p2] rfl rfl (two_cells cp0 cp1) (two_one _ _) (by unfold maxLen; omega) (by omega) BB.size ?_)
                  intro v35 w8 own35 hgr8 _
                  have BE := BB.grown hgr8 BB.size (fun g hg => (World.ownsRow.lt own32 g hg).1)
                  (try simp only [List.getElem_toArray, List.getElem_cons_zero, List.getElem_cons_succ, Act.put, List.setIfInBounds_toArray, List.set_cons_zero, List.set_cons_succ])
                  refine wpAny_all (rs := [8]) (by kernel_rfl) (by simp) (fun i hi => ?_)
                  obtain rfl : i = 8 := by simpa using hi
                  refine wpOp_val (v := v35) (w' := w8) rfl (by rfl) (by first | rfl | go_simp) ?_
                  (try simp only [List.getElem_toArray, List.getElem_cons_zero, List.getElem_cons_succ, Act.put, List.setIfInBounds_toArray, List.set_cons_zero, List.set_cons_succ])
                  refine wpAny_done (by kernel_rfl) ?_ _
                  go_wp2_with fail
                  go_meet
                  case rel => exact ⟨v35, rfl, Lib.hid own35, BE⟩
            · refine wpOp_val (v := .agg #[.int .i64 p1, .int .i64 p2]) (w' := W0) rfl (by rfl) (by first | (have e0 := (bcell BB).1 _ 0 hp5; have e1 := (bcell BB).1 _ 1 hp5; rw [x0] at e0; rw [x1] at e1; go_simp) | go_simp) ?_
              (try simp only [List.getElem_toArray, List.getElem_cons_zero, List.getElem_cons_succ, Act.put, List.setIfInBounds_toArray, List.set_cons_zero, List.set_cons_succ])
              refine wpAny_all (rs := [0, 6]) (by kernel_rfl) (by simp) (fun i hi => ?_)
              rcases (by simpa using hi : i = 0 ∨ i = 6) with rfl | rfl
              · refine wpOp_val (v := .slice (some ⟨W0.heap.size, 0, none⟩) 0 0) (w' := W0.alloc (.cells #[] 25)) rfl (by rfl) (by go_simp) ?_
                have own28 : (W0.alloc (.cells #[] 25)).ownsRow wy.heap.size 25 2 (.slice (some ⟨W0.heap.size, 0, none⟩) 0 0) 0 [] := World.ownsRow_lit W0 #[] 0 BB.size (by decide) rfl
                have hn28 : wy.heap.size ≤ W0.heap.size := BB.size
                have BB := Below.alloc BB BB.size (.cells #[] 25)
                have zn : W0.heap.size < (W0.alloc (.cells #[] 25)).heap.size := by simp
                (try simp only [List.getElem_toArray, List.getElem_cons_zero, List.getElem_cons_succ, Act.put, List.setIfInBounds_toArray, List.set_cons_zero, List.set_cons_succ])
                generalize W0.alloc (.cells #[] 25) = W2 at *
                generalize W0.heap.size = b28 at own28 hn28 zn ⊢
                refine wpAny_all (rs := [4, 6]) (by kernel_rfl) (by simp) (fun i hi => ?_)
                rcases (by simpa using hi : i = 4 ∨ i = 6) with rfl | rfl
                · refine wpOp_left rfl (by rfl) (wp_append_own _ (.tmp 28) (.tmp 31) 28 rfl wy.heap.size 25 i0 (.agg #[.int .i64 0, .int .i64 0]) 2 16 Try.underlying28 HI.out.1 HI.out.2.1 HI.out.2.2.1 HI.out.2.2.2 rfl (by decide) (.slice (some ⟨b28, 0, none⟩) 0 0) 0 [] rfl own28 ⟨g, 0, none⟩ j cap (flat (s.take j)) rfl (by rw [flat_len, List.length_take]; omega) (HV.out _ BB) (flat_one _) (by unfold maxLen; omega) (by omega) BB.size ?_)
                  intro v32 W3 own32 hgr4 _
                  have BB := BB.grown hgr4 BB.size (fun g hg => (World.ownsRow.lt own28 g hg).1)
                  clear hgr4
                  (try simp only [List.getElem_toArray, List.getElem_cons_zero, List.getElem_cons_succ, Act.put, List.setIfInBounds_toArray, List.set_cons_zero, List.set_cons_succ])
                  refine wpAny_all (rs := [6]) (by kernel_rfl) (by simp) (fun i hi => ?_)
                  obtain rfl : i = 6 := by simpa using hi
                  refine wpOp_val (v := .slice (some ⟨W3.heap.size, 0, none⟩) 1 1) (w' := W3.alloc (.cells #[.int .i64 p1, .int .i64 p2] 25)) rfl (by rfl) (by go_simp) ?_
                  have cp0 : (W3.alloc (.cells #[.int .i64 p1, .int .i64 p2] 25)).cell? ⟨W3.heap.size, 0, none⟩ = some (.int .i64 p1) := by go_simp
                  have cp1 : (W3.alloc (.cells #[.int .i64 p1, .int .i64 p2] 25)).cell? ⟨W3.heap.size, 1, none⟩ = some (.int .i64 p2) := by go_simp
                  have zp : W3.heap.size < (W3.alloc (.cells #[.int .i64 p1, .int .i64 p2] 25)).heap.size := by simp
                  have own32 := own32.alloc (.cells #[.int .i64 p1, .int .i64 p2] 25)
                  have BB := Below.alloc BB BB.size (.cells #[.int .i64 p1, .int .i64 p2] 25)
                  (try simp only [List.getElem_toArray, List.getElem_cons_zero, List.getElem_cons_succ, Act.put, List.setIfInBounds_toArray, List.set_cons_zero, List.set_cons_succ])
                  generalize W3.alloc (.cells #[.int .i64 p1, .int .i64 p2] 25) = W4 at *
                  generalize W3.heap.size = b34 at cp0 cp1 zp ⊢
                  refine wpAny_all (rs := [7]) (by kernel_rfl) (by simp) (fun i hi => ?_)
                  obtain rfl : i = 7 := by simpa using hi
                  refine wpOp_left rfl (by rfl) (wp_append_own _ (.tmp 32) (.tmp 34) 28 rfl wy.heap.size 25 i0 (.agg #[.int .i64 0, .int .i64 0]) 2 16 Try.underlying28 HI.out.1 HI.out.2.1 HI.out.2.2.1 HI.out.2.2.2 rfl (by decide) v32 (0 + j) ([] ++ flat (s.take j)) rfl own32 ⟨b34, 0, none⟩ 1 1 [.int .i64 p1, .int .i64 p2] rfl rfl (two_cells cp0 cp1) (two_one _ _) (by unfold maxLen; omega) (by omega) BB.size ?_)
                  intro v35 w8 own35 hgr8 _
                  have BE := BB.grown hgr8 BB.size (fun g hg => (World.ownsRow.lt own32 g hg).1)
                  (try simp only [List.getElem_toArray, List.getElem_cons_zero, List.getElem_cons_succ, Act.put, List.setIfInBounds_toArray, List.set_cons_zero, List.set_cons_succ])
                  refine wpAny_all (rs := [8]) (by kernel_rfl) (by simp) (fun i hi => ?_)
                  obtain rfl : i = 8 := by simpa using hi
                  refine wpOp_val (v := v35) (w' := w8) rfl (by rfl) (by first | rfl | go_simp) ?_
                  (try simp only [List.getElem_toArray, List.getElem_cons_zero, List.getElem_cons_succ, Act.put, List.setIfInBounds_toArray, List.set_cons_zero, List.set_cons_succ])
                  refine wpAny_done (by kernel_rfl) ?_ _
                  go_wp2_with fail
                  go_meet
                  case rel => exact ⟨v35, rfl, Lib.hid own35, BE⟩
                · refine wpOp_val (v := .slice (some ⟨W2.heap.size, 0, none⟩) 1 1) (w' := W2.alloc (.cells #[.int .i64 p1, .int .i64 p2] 25)) rfl (by rfl) (by go_simp) ?_
                  have cp0 : (W2.alloc (.cells #[.int .i64 p1, .int .i64 p2] 25)).cell? ⟨W2.heap.size, 0, none⟩ = some (.int .i64 p1) := by go_simp
                  have cp1 : (W2.alloc (.cells #[.int .i64 p1, .int .i64 p2] 25)).cell? ⟨W2.heap.size, 1, none⟩ = some (.int .i64 p2) := by go_simp
                  have zp : W2.heap.size < (W2.alloc (.cells #[.int .i64 p1, .int .i64 p2] 25)).heap.size := by simp
                  have own28 := own28.alloc (.cells #[.int .i64 p1, .int .i64 p2] 25)
                  have hne : W2.heap.size ≠ b28 := Nat.ne_of_gt zn
                  have zn := Nat.lt_trans zn zp
                  have BB := Below.alloc BB BB.size (.cells #[.int .i64 p1, .int .i64 p2] 25)
                  (try simp only [List.getElem_toArray, List.getElem_cons_zero, List.getElem_cons_succ, Act.put, List.setIfInBounds_toArray, List.set_cons_zero, List.set_cons_succ])
                  generalize W2.alloc (.cells #[.int .i64 p1, .int .i64 p2] 25) = W3 at *
                  generalize W2.heap.size = b34 at cp0 cp1 zp hne ⊢
                  refine wpAny_all (rs := [4]) (by kernel_rfl) (by simp) (fun i hi => ?_)
                  obtain rfl : i = 4 := by simpa using hi
                  refine wpOp_left rfl (by rfl) (wp_append_own _ (.tmp 28) (.tmp 31) 28 rfl wy.heap.size 25 i0 (.agg #[.int .i64 0, .int .i64 0]) 2 16 Try.underlying28 HI.out.1 HI.out.2.1 HI.out.2.2.1 HI.out.2.2.2 rfl (by decide) (.slice (some ⟨b28, 0, none⟩) 0 0) 0 [] rfl own28 ⟨g, 0, none⟩ j cap (flat (s.take j)) rfl (by rw [flat_len, List.length_take]; omega) (HV.out _ BB) (flat_one _) (by unfold maxLen; omega) (by omega) BB.size ?_)
                  intro v32 W4 own32 hgr4 _
                  have BB := BB.grown hgr4 BB.size (fun g hg => (World.ownsRow.lt own28 g hg).1)
                  have cp0 := hgr4.cell cp0 (by simp [Value.ownBlock]; exact hne)
                  have cp1 := hgr4.cell cp1 (by simp [Value.ownBlock]; exact hne)
                  have zp := Nat.lt_of_lt_of_le zp hgr4.size
                  clear hgr4
                  (try simp only [List.getElem_toArray, List.getElem_cons_zero, List.getElem_cons_succ, Act.put, List.setIfInBounds_toArray, List.set_cons_zero, List.set_cons_succ])
                  refine wpAny_all (rs := [7]) (by kernel_rfl) (by simp) (fun i hi => ?_)
                  obtain rfl : i = 7 := by simpa using hi
                  refine wpOp_left rfl (by rfl) (wp_append_own _ (.tmp 32) (.tmp 34) 28 rfl wy.heap.size 25 i0 (.agg #[.int .i64 0, .int .i64 0]) 2 16 Try.underlying28 HI.out.1 HI.out.2.1 HI.out.2.2.1 HI.out.2.2.2 rfl (by decide) v32 (0 + j) ([] ++ flat (s.take j)) rfl own32 ⟨b34, 0, none⟩ 1 1 [.int .i64 p1, .int .i64 p2] rfl rfl (two_cells cp0 cp1) (two_one _ _) (by unfold maxLen; omega) (by omega) BB.size ?_)
                  intro v35 w8 own35 hgr8 _
                  have BE := BB.grown hgr8 BB.size (fun g hg => (World.ownsRow.lt own32 g hg).1)
                  (try simp only [List.getElem_toArray, List.getElem_cons_zero, List.getElem_cons_succ, Act.put, List.setIfInBounds_toArray, List.set_cons_zero, List.set_cons_succ])
                  refine wpAny_all (rs := [8]) (by kernel_rfl) (by simp) (fun i hi => ?_)
                  obtain rfl : i = 8 := by simpa using hi
                  refine wpOp_val (v := v35) (w' := w8) rfl (by rfl) (by first | rfl | go_simp) ?_
                  (try simp only [List.getElem_toArray, List.getElem_cons_zero, List.getElem_cons_succ, Act.put, List.setIfInBounds_toArray, List.set_cons_zero, List.set_cons_succ])
                  refine wpAny_done (by kernel_rfl) ?_ _
                  go_wp2_with fail
                  go_meet
                  case rel => exact ⟨v35, rfl, Lib.hid own35, BE⟩
              · refine wpOp_val (v := .slice (some ⟨W0.heap.size, 0, none⟩) 1 1) (w' := W0.alloc (.cells #[.int .i64 p1, .int .i64 p2] 25)) rfl (by rfl) (by go_simp) ?_
                have cp0 : (W0.alloc (.cells #[.int .i64 p1, .int .i64 p2] 25)).cell? ⟨W0.heap.size, 0, none⟩ = some (.int .i64 p1) := by go_simp
                have cp1 : (W0.alloc (.cells #[.int .i64 p1, .int .i64 p2] 25)).cell? ⟨W0.heap.size, 1, none⟩ = some (.int .i64 p2) := by go_simp
                have zp : W0.heap.size < (W0.alloc (.cells #[.int .i64 p1, .int .i64 p2] 25)).heap.size := by simp
                have BB := Below.alloc BB BB.size (.cells #[.int .i64 p1, .int .i64 p2] 25)
                (try simp only [List.getElem_toArray, List.getElem_cons_zero, List.getElem_cons_succ, Act.put, List.setIfInBounds_toArray, List.set_cons_zero, List.set_cons_succ])
                generalize W0.alloc (.cells #[.int .i64 p1, .int .i64 p2] 25) = W2 at *
                generalize W0.heap.size = b34 at cp0 cp1 zp ⊢
                refine wpAny_all (rs := [0]) (by kernel_rfl) (by simp) (fun i hi => ?_)
                obtain rfl : i = 0 := by simpa using hi
                refine wpOp_val (v := .slice (some ⟨W2.heap.size, 0, none⟩) 0 0) (w' := W2.alloc (.cells #[] 25)) rfl (by rfl) (by go_simp) ?_
                have own28 : (W2.alloc (.cells #[] 25)).ownsRow wy.heap.size 25 2 (.slice (some ⟨W2.heap.size, 0, none⟩) 0 0) 0 [] := World.ownsRow_lit W2 #[] 0 BB.size (by decide) rfl
                have hn28 : wy.heap.size ≤ W2.heap.size := BB.size
                have cp0 := (World.cell?_alloc_lt W2 (.cells #[] 25) ⟨b34, 0, none⟩ zp).trans cp0
                have cp1 := (World.cell?_alloc_lt W2 (.cells #[] 25) ⟨b34, 1, none⟩ zp).trans cp1
                have hne : b34 ≠ W2.heap.size := Nat.ne_of_lt zp
                have BB := Below.alloc BB BB.size (.cells #[] 25)
                have zn : W2.heap.size < (W2.alloc (.cells #[] 25)).heap.size := by simp
                have zp := Nat.lt_trans zp zn
                (try simp only [List.getElem_toArray, List.getElem_cons_zero, List.getElem_cons_succ, Act.put, List.setIfInBounds_toArray, List.set_cons_zero, List.set_cons_succ])
                generalize W2.alloc (.cells #[] 25) = W3 at *
                generalize W2.heap.size = b28 at own28 hn28 zn hne ⊢
                refine wpAny_all (rs := [4]) (by kernel_rfl) (by simp) (fun i hi => ?_)
                obtain rfl : i = 4 := by simpa using hi
                refine wpOp_left rfl (by rfl) (wp_append_own _ (.tmp 28) (.tmp 31) 28 rfl wy.heap.size 25 i0 (.agg #[.int .i64 0, .int .i64 0]) 2 16 Try.underlying28 HI.out.1 HI.out.2.1 HI.out.2.2.1 HI.out.2.2.2 rfl (by decide) (.slice (some ⟨b28, 0, none⟩) 0 0) 0 [] rfl own28 ⟨g, 0, none⟩ j cap (flat (s.take j)) rfl (by rw [flat_len, List.length_take]; omega) (HV.out _ BB) (flat_one _) (by unfold maxLen; omega) (by omega) BB.size ?_)
                intro v32 W4 own32 hgr4 _
                have BB := BB.grown hgr4 BB.size (fun g hg => (World.ownsRow.lt own28 g hg).1)
                have cp0 := hgr4.cell cp0 (by simp [Value.ownBlock]; exact hne)
                have cp1 := hgr4.cell cp1 (by simp [Value.ownBlock]; exact hne)
                have zp := Nat.lt_of_lt_of_le zp hgr4.size
                clear hgr4
                (try simp only [List.getElem_toArray, List.getElem_cons_zero, List.getElem_cons_succ, Act.put, List.setIfInBounds_toArray, List.set_cons_zero, List.set_cons_succ])
                refine wpAny_all (rs := [7]) (by kernel_rfl) (by simp) (fun i hi => ?_)
                obtain rfl : i = 7 := by simpa using hi
                refine wpOp_left rfl (by rfl) (wp_append_own _ (.tmp 32) (.tmp 34) 28 rfl wy.heap.size 25 i0 (.agg #[.int .i64 0, .int .i64 0]) 2 16 Try.underlying28 HI.out.1 HI.out.2.1 HI.out.2.2.1 HI.out.2.2.2 rfl (by decide) v32 (0 + j) ([] ++ flat (s.take j)) rfl own32 ⟨b34, 0, none⟩ 1 1 [.int .i64 p1, .int .i64 p2] rfl rfl (two_cells cp0 cp1) (two_one _ _) (by unfold maxLen; omega) (by omega) BB.size ?_)
                intro v35 w8 own35 hgr8 _
                have BE := BB.grown hgr8 BB.size (fun g hg => (World.ownsRow.lt own32 g hg).1)
                (try simp only [List.getElem_toArray, List.getElem_cons_zero, List.getElem_cons_succ, Act.put, List.setIfInBounds_toArray, List.set_cons_zero, List.set_cons_succ])
                refine wpAny_all (rs := [8]) (by kernel_rfl) (by simp) (fun i hi => ?_)
                obtain rfl : i = 8 := by simpa using hi
                refine wpOp_val (v := v35) (w' := w8) rfl (by rfl) (by first | rfl | go_simp) ?_
                (try simp only [List.getElem_toArray, List.getElem_cons_zero, List.getElem_cons_succ, Act.put, List.setIfInBounds_toArray, List.set_cons_zero, List.set_cons_succ])
                refine wpAny_done (by kernel_rfl) ?_ _
                go_wp2_with fail
                go_meet
                case rel => exact ⟨v35, rfl, Lib.hid own35, BE⟩

          case rest =>
            obtain ⟨v7, rfl, hO7, BE⟩ := hcut
            rename World => wz
            have HD := Lib.hid (drop_own (HS.out wz (BWY.trans (BE.mono hzo))) j (by omega))
            have HO := Lib.hid (own_base hO7.out hwx)
            have B9 := BY.trans (BE.mono hwx)
            have hz9 := B9.size
            clear hO7 BE BY hO HV
            have HE : Hid (∀ (W : World) (v : Value), W.ownsRow w.heap.size 25 2 v (0 + j + 1 + (k - j)) (([] ++ flat (s.take j) ++ [.int .i64 p1, .int .i64 p2]) ++ flat (s.drop j)) → W.ownsRow w.heap.size 25 2 v (k + 1) (flat (srt (l.take (k + 1))))) := Lib.hid (fun W v hh => by
              rw [HSTEP.out, ins_flat hJ.out, show k + 1 = 0 + j + 1 + (k - j) by omega]
              exact hh)
            have hn7 : 0 + j + 1 ≤ k + 1 := by omega
            have hyl : (flat (s.drop j)).length = (k - j) * 2 := by rw [flat_len, List.length_drop]; omega
            have hy1 : ∀ u ∈ flat (s.drop j), u.oneCell' = true := flat_one _
            have hy0 : j = k → flat (s.drop j) = [] := fun e => by rw [List.drop_of_length_le (by omega)]; rfl
            generalize [] ++ flat (s.take j) ++ [Value.int .i64 p1, .int .i64 p2] = xs at *
            generalize flat (s.drop j) = ys at *
            generalize 0 + j + 1 = n7 at *
            rcases Nat.lt_or_ge j k with hj | hj
            · have e1 : ¬ (cap : Int) = (j : Int) := by omega
              have e2 : ¬ cap = j := by omega
              go_wp2_with (at_builtin; refine wpList_append_own _ rfl (.tmp 36) (.tmp 39) 28 rfl w.heap.size 25 i0 (.agg #[.int .i64 0, .int .i64 0]) 2 16 Try.underlying28 HI.out.1 HI.out.2.1 HI.out.2.2.1 HI.out.2.2.2 rfl (by decide) v7 n7 xs rfl HO.out ⟨g, j * 2, none⟩ (k - j) (cap - j) ys rfl hyl HD.out hy1 (by unfold maxLen; omega) (by omega) hz9 ?_)
              intro v9 w9 own9 hgr9 _
              have HF9 := Lib.hid (HE.out _ _ own9)
              have BZ := B9.grown hgr9 hz9 (fun g hg => (World.ownsRow.lt HO.out g hg).1)
              clear own9 hgr9
              go_wp2_with fail
              go_roundg (n - (k + 1))
              case measure => have := HGK.out; omega
              case rel => exact ⟨k + 1, v9, rfl, by omega, rfl, by go_num, BZ, HF9⟩
            · have hjk2 : j = k := by omega
              subst hjk2
              have hdn := hy0 rfl
              subst hdn
              rw [Nat.sub_self] at HE
              by_cases hcj : cap = j
              · have e1 : (cap : Int) = (j : Int) := by omega
                go_wp2_with (at_builtin; refine wpList_append_own _ rfl (.tmp 36) (.tmp 39) 28 rfl w.heap.size 25 i0 (.agg #[.int .i64 0, .int .i64 0]) 2 16 Try.underlying28 HI.out.1 HI.out.2.1 HI.out.2.2.1 HI.out.2.2.2 rfl (by decide) v7 n7 xs rfl HO.out ⟨g, 0, none⟩ 0 _ [] rfl (by simp) (by intro i u hi; simp at hi) (by intro u hu; simp at hu) (by unfold maxLen; omega) (by omega) hz9 ?_)
                intro v9 w9 own9 hgr9 _
                have HF9 := Lib.hid (HE.out w9 v9 (by first | exact own9 | simpa using own9))
                have BZ := B9.grown hgr9 hz9 (fun g hg => (World.ownsRow.lt HO.out g hg).1)
                clear own9 hgr9
                go_wp2_with fail
                go_roundg (n - (j + 1))
                case measure => have := HGK.out; omega
                case rel => exact ⟨j + 1, v9, rfl, by omega, rfl, by go_num, BZ, HF9⟩
              · have e1 : ¬ (cap : Int) = (j : Int) := by omega
                go_wp2_with (at_builtin; refine wpList_append_own _ rfl (.tmp 36) (.tmp 39) 28 rfl w.heap.size 25 i0 (.agg #[.int .i64 0, .int .i64 0]) 2 16 Try.underlying28 HI.out.1 HI.out.2.1 HI.out.2.2.1 HI.out.2.2.2 rfl (by decide) v7 n7 xs rfl HO.out ⟨g, j * 2, none⟩ 0 _ [] rfl (by simp) (by intro i u hi; simp at hi) (by intro u hu; simp at hu) (by unfold maxLen; omega) (by omega) hz9 ?_)
                intro v9 w9 own9 hgr9 _
                have HF9 := Lib.hid (HE.out w9 v9 (by first | exact own9 | simpa using own9))
                have BZ := B9.grown hgr9 hz9 (fun g hg => (World.ownsRow.lt HO.out g hg).1)
                clear own9 hgr9
                go_wp2_with fail
                go_roundg (n - (j + 1))
                case measure => have := HGK.out; omega
                case rel => exact ⟨j + 1, v9, rfl, by omega, rfl, by go_num, BZ, HF9⟩
    · have hkn : n = k := by omega
      subst hkn
      have HL : Hid (l.take n = l) := Lib.hid (List.take_of_length_le (by have := HN.out; omega))
      go_wp2_with fail
      go_ret
      exact ⟨⟨_, rfl, by have := hO.out; rw [HL.out] at this; exact this⟩, hB⟩
end Go.Proofs.Ytakccbbdfcnjeaa
