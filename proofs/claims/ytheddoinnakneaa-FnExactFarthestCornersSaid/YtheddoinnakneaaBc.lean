/- contract: different pegs, the program's side -/
import Derived.Test.YtheddoinnakneaaBb
import Derived.Test.YtheddoinnakneaaSax
namespace Go.Proofs.Ytheddoinnakneaa
open Go.ChangeShapes Go.WideShapes Go.ChangeAt Go.RowKit Go.Joins
set_option linter.unusedVariables false
set_option linter.unusedSimpArgs false
set_option maxRecDepth 4000
theorem rd_take {w : World} {B : Nat} {A : Option Addr} {l : List (Int × Int)} (k : Nat) (h : Rd w B A l) : Rd w B A (l.take k) := by
  intro h0
  obtain ⟨b, off, e, hb, hc⟩ := h (by rw [List.length_take] at h0; omega)
  refine ⟨b, off, e, hb, fun i p hp => hc i p ?_⟩
  rw [List.getElem?_take] at hp
  split at hp
  · exact hp
  · simp at hp
theorem in_take {l : List (Int × Int)} {k : Nat} {p : Int × Int} (hk : k ≤ l.length) : p ∈ l.take k ↔ ∃ i, i < k ∧ vx l i = p := by
  rw [in_iff]
  have hv : ∀ i, i < k → vx (l.take k) i = vx l i := fun i hi => by
    have e1 := vx_get (l := l.take k) (i := i) (by rw [List.length_take]; omega)
    have e2 := vx_get (l := l) (i := i) (by omega)
    rw [List.getElem?_take, if_pos hi, e2] at e1
    injection e1 with e1
    exact e1.symm
  constructor
  · rintro ⟨i, hi, e⟩
    rw [List.length_take] at hi
    exact ⟨i, by omega, by rw [← hv i (by omega)]; exact e⟩
  · rintro ⟨i, hi, e⟩
    exact ⟨i, by rw [List.length_take]; omega, by rw [hv i hi]; exact e⟩
set_option maxHeartbeats 4000000 in
theorem upTo30_any (A : Option Addr) (c : Nat) (l : List (Int × Int)) (w : World) (h1 : 1 ≤ l.length) (hn : l.length ≤ 1048576) (hcap : l.length ≤ c) (hc2 : c ≤ 9223372036854775807) (hR : Rd w w.heap.size A l) :
    Calls Try.prog 140 #[.int .i64 30, .slice A l.length c] w fun e w' => e = .returned (.bool (difB l)) ∧ Below w.heap.size w w' := by
  have KA := Lib.hid (fun W hb => arePegs_any A c l W hn (rd_more (rd_below hR hb (Nat.le_refl _)) hb.size))
  by_cases hhi : 30 < l.length
  · have hng : Hid (difB l = false) := Lib.hid (difB_false (fun h => by have := h.few; omega))
    have d2 : ((30 : Int) < (l.length : Int)) := by omega
    clear hR
    go_enter Try.func140, Try.ntmps140
    go_wp2_with fail
    go_ret
    exact ⟨ret_bool hng.out.symm, Below.refl _ _⟩
  · have d1 : ¬ ((l.length : Int) < 1) := by omega
    have d2 : ¬ ((30 : Int) < (l.length : Int)) := by omega
    by_cases hpg : pegsB l = true
    · have K1 := Lib.hid (KA.out w (Below.refl _ _))
      rw [hpg] at K1
      have HPE := Lib.hid ((pegsB_iff l).1 hpg)
      have HT := Lib.hid (fun h => difB_true (l := l) ⟨by omega, h⟩)
      have HG := Lib.hid (fun h => difB_false (l := l) h)
      have KC := Lib.hid (fun k (hk : k ≤ l.length) W (hb : Below w.heap.size w W) => contains_any A c k (l.take k) (vx l k) W (by rw [List.length_take]; omega) (by omega) (rd_take k (rd_more (rd_below hR hb (Nat.le_refl _)) hb.size)))
      have HIN := Lib.hid (fun k (hk : k ≤ l.length) => in_take (l := l) (p := vx l k) hk)
      have hrd : ∀ i, i < l.length → ∃ b off, A = some ⟨b, off, none⟩ ∧ b < w.heap.size ∧ ∀ i, i < l.length → w.cell? ⟨b, off + i * 2, none⟩ = some (.int .i64 (vx l i).1) ∧ w.cell? ⟨b, off + i * 2 + 1, none⟩ = some (.int .i64 (vx l i).2) := fun i hi => by
        obtain ⟨b, off, e, hb, hc⟩ := hR (by omega)
        exact ⟨b, off, e, hb, fun i hi => hc i _ (vx_get hi)⟩
      obtain ⟨b, off, rfl, hb, hcell⟩ := hrd 0 (by omega)
      have HC := Lib.hid hcell
      clear hrd hcell hR hpg KA
      generalize hN : l.length = n at *
      have HN := Lib.hid hN
      clear hN h1 hhi
      go_enter Try.func140, Try.ntmps140
      go_wp2_with fail
      refine K1.out.mono ?_; rintro e w1 ⟨rfl, hb1⟩
      clear K1
      go_wp2_with fail
      go_loopg [18] n (fun g i wr => ∃ k : Nat, k ≤ n ∧ g = n - k ∧ i = .int .i64 k ∧ Below w.heap.size w wr ∧ Hid (∀ i, i < k → ∀ j, j < i → vx l i ≠ vx l j))
      case atStart => exact ⟨0, Nat.zero_le _, rfl, rfl, hb1, Lib.hid (fun i h => absurd h (Nat.not_lt_zero _))⟩
      case round =>
        obtain ⟨k, hk, hg, rfl, hB, hF⟩ := hrel
        rename World => wo
        have HGK := Lib.hid hg
        clear hg hb1
        by_cases hlt : k < n
        · have hq1 : wo.cell? ⟨b, off + k * 2, none⟩ = some (.int .i64 (vx l k).1) := (hB.cell (p := ⟨b, off + k * 2, none⟩) hb).trans (HC.out k hlt).1
          have hq2 : wo.cell? ⟨b, off + k * 2 + 1, none⟩ = some (.int .i64 (vx l k).2) := (hB.cell (p := ⟨b, off + k * 2 + 1, none⟩) hb).trans (HC.out k hlt).2
          have KK := Lib.hid (KC.out k hk)
          have hkc : k ≤ c := by omega
          by_cases hin : vx l k ∈ l.take k
          · have hng : Hid (difB l = false) := Lib.hid (HG.out (fun h => by
              obtain ⟨i, hi, e⟩ := (HIN.out k hk).1 hin
              exact (h.fine k (by have := HN.out; omega)).2 i hi e.symm))
            rw [show decide (vx l k ∈ l.take k) = true by simp [hin]] at KK
            clear hF KC HIN HG HT HC HPE hin
            go_wp2_with fail
            obtain ⟨Wp, hWp⟩ : ∃ Wp, Wp = (wo.alloc (.cells #[.int .i64 ((vx l k).1), .int .i64 ((vx l k).2)] 56)) := ⟨_, rfl⟩
            rw [← hWp]
            have yWp0_0 : Wp.cell? ⟨wo.heap.size, 0, none⟩ = some (.int .i64 ((vx l k).1)) := by rw [hWp]; go_simp
            have yWp0_1 : Wp.cell? ⟨wo.heap.size, 1, none⟩ = some (.int .i64 ((vx l k).2)) := by rw [hWp]; go_simp
            have fWp0 : ∀ o, Wp.frozen? ⟨wo.heap.size, o, none⟩ = false := by intro o; rw [hWp]; (repeat rw [frozen?_alloc_cells]); simp [World.frozen?]
            have zWp0 : wo.heap.size < Wp.heap.size := by rw [hWp]; simp <;> omega
            have BWp : Below wo.heap.size wo Wp := by rw [hWp]; exact (Below.alloc (Below.refl _ _) (by simp <;> omega) _)
            have eWp : Hid (Wp.heap.size = wo.heap.size + 1) := Lib.hid (by rw [hWp]; simp)
            clear hWp
            have BP := hB.trans (BWp.mono hB.size)
            clear hq1 hq2
            refine wp_region_B (fun W => Below Wp.heap.size Wp W) (by kernel_rfl) (by repeat (first | exact Below.refl _ _ | apply Below.drew)) ?_
            first | refine wpB_skip 0 rfl (by kernel_rfl) (by kernel_rfl) (by kernel_rfl) (by rfl) ?_ | (refine wpB_text 0 (v := ?_) rfl (by kernel_rfl) (by kernel_rfl) (by kernel_rfl) (by rfl) (fun W hW => ?_) ?_; rotate_left; (have k1 := hW; obtain ⟨hc1, hf1⟩ := bcell k1; go_simp; refine comes_v ?_; exact k1))
            (try simp only [Act.put, List.setIfInBounds_toArray, List.set_cons_zero, List.set_cons_succ])
            first | refine wpB_skip 1 rfl (by kernel_rfl) (by kernel_rfl) (by kernel_rfl) (by rfl) ?_ | (refine wpB_text 1 (v := ?_) rfl (by kernel_rfl) (by kernel_rfl) (by kernel_rfl) (by rfl) (fun W hW => ?_) ?_; rotate_left; (have k1 := hW; obtain ⟨hc1, hf1⟩ := bcell k1; go_simp; refine comes_v ?_; exact k1))
            (try simp only [Act.put, List.setIfInBounds_toArray, List.set_cons_zero, List.set_cons_succ])
            first | refine wpB_skip 2 rfl (by kernel_rfl) (by kernel_rfl) (by kernel_rfl) (by rfl) ?_ | (refine wpB_text 2 (v := ?_) rfl (by kernel_rfl) (by kernel_rfl) (by kernel_rfl) (by rfl) (fun W hW => ?_) ?_; rotate_left; (have k1 := hW; obtain ⟨hc1, hf1⟩ := bcell k1; go_simp; refine comes_v ?_; exact k1))
            (try simp only [Act.put, List.setIfInBounds_toArray, List.set_cons_zero, List.set_cons_succ])
            first | refine wpB_skip 3 rfl (by kernel_rfl) (by kernel_rfl) (by kernel_rfl) (by rfl) ?_ | (refine wpB_text 3 (v := ?_) rfl (by kernel_rfl) (by kernel_rfl) (by kernel_rfl) (by rfl) (fun W hW => ?_) ?_; rotate_left; (have k1 := hW; obtain ⟨hc1, hf1⟩ := bcell k1; go_simp; refine comes_v ?_; exact k1))
            (try simp only [Act.put, List.setIfInBounds_toArray, List.set_cons_zero, List.set_cons_succ])
            first | refine wpB_skip 4 rfl (by kernel_rfl) (by kernel_rfl) (by kernel_rfl) (by rfl) ?_ | (refine wpB_text 4 (v := .bool true) rfl (by kernel_rfl) (by kernel_rfl) (by kernel_rfl) (by rfl) (fun W hW => ?_) ?_; (have k1 := hW; obtain ⟨hc1, hf1⟩ := bcell k1; go_simp; exact comes_c ( KK.out _ (BP.trans (k1.mono BP.size))) (fun wn hbn => bt_keep k1 hbn)))
            (try simp only [Act.put, List.setIfInBounds_toArray, List.set_cons_zero, List.set_cons_succ])
            refine wpB_done (by kernel_rfl) ?_ _
            intro W hW; have k1 := hW
            go_wp2_with fail
            go_ret
            exact ⟨ret_bool hng.out.symm, BP.trans (k1.mono BP.size)⟩
          · have hF2 : Hid (∀ i, i < k + 1 → ∀ j, j < i → vx l i ≠ vx l j) := Lib.hid (fun i hi j hj => by
              by_cases hik : i = k
              · subst hik; exact fun e => hin ((HIN.out i hk).2 ⟨j, hj, e.symm⟩)
              · exact hF.out i (by omega) j hj)
            rw [show decide (vx l k ∈ l.take k) = false by simp [hin]] at KK
            clear hF KC HIN HG HT HC HPE hin
            go_wp2_with fail
            obtain ⟨Wp, hWp⟩ : ∃ Wp, Wp = (wo.alloc (.cells #[.int .i64 ((vx l k).1), .int .i64 ((vx l k).2)] 56)) := ⟨_, rfl⟩
            rw [← hWp]
            have yWp0_0 : Wp.cell? ⟨wo.heap.size, 0, none⟩ = some (.int .i64 ((vx l k).1)) := by rw [hWp]; go_simp
            have yWp0_1 : Wp.cell? ⟨wo.heap.size, 1, none⟩ = some (.int .i64 ((vx l k).2)) := by rw [hWp]; go_simp
            have fWp0 : ∀ o, Wp.frozen? ⟨wo.heap.size, o, none⟩ = false := by intro o; rw [hWp]; (repeat rw [frozen?_alloc_cells]); simp [World.frozen?]
            have zWp0 : wo.heap.size < Wp.heap.size := by rw [hWp]; simp <;> omega
            have BWp : Below wo.heap.size wo Wp := by rw [hWp]; exact (Below.alloc (Below.refl _ _) (by simp <;> omega) _)
            have eWp : Hid (Wp.heap.size = wo.heap.size + 1) := Lib.hid (by rw [hWp]; simp)
            clear hWp
            have BP := hB.trans (BWp.mono hB.size)
            clear hq1 hq2
            refine wp_region_B (fun W => Below Wp.heap.size Wp W) (by kernel_rfl) (by repeat (first | exact Below.refl _ _ | apply Below.drew)) ?_
            first | refine wpB_skip 0 rfl (by kernel_rfl) (by kernel_rfl) (by kernel_rfl) (by rfl) ?_ | (refine wpB_text 0 (v := ?_) rfl (by kernel_rfl) (by kernel_rfl) (by kernel_rfl) (by rfl) (fun W hW => ?_) ?_; rotate_left; (have k1 := hW; obtain ⟨hc1, hf1⟩ := bcell k1; go_simp; refine comes_v ?_; exact k1))
            (try simp only [Act.put, List.setIfInBounds_toArray, List.set_cons_zero, List.set_cons_succ])
            first | refine wpB_skip 1 rfl (by kernel_rfl) (by kernel_rfl) (by kernel_rfl) (by rfl) ?_ | (refine wpB_text 1 (v := ?_) rfl (by kernel_rfl) (by kernel_rfl) (by kernel_rfl) (by rfl) (fun W hW => ?_) ?_; rotate_left; (have k1 := hW; obtain ⟨hc1, hf1⟩ := bcell k1; go_simp; refine comes_v ?_; exact k1))
            (try simp only [Act.put, List.setIfInBounds_toArray, List.set_cons_zero, List.set_cons_succ])
            first | refine wpB_skip 2 rfl (by kernel_rfl) (by kernel_rfl) (by kernel_rfl) (by rfl) ?_ | (refine wpB_text 2 (v := ?_) rfl (by kernel_rfl) (by kernel_rfl) (by kernel_rfl) (by rfl) (fun W hW => ?_) ?_; rotate_left; (have k1 := hW; obtain ⟨hc1, hf1⟩ := bcell k1; go_simp; refine comes_v ?_; exact k1))
            (try simp only [Act.put, List.setIfInBounds_toArray, List.set_cons_zero, List.set_cons_succ])
            first | refine wpB_skip 3 rfl (by kernel_rfl) (by kernel_rfl) (by kernel_rfl) (by rfl) ?_ | (refine wpB_text 3 (v := ?_) rfl (by kernel_rfl) (by kernel_rfl) (by kernel_rfl) (by rfl) (fun W hW => ?_) ?_; rotate_left; (have k1 := hW; obtain ⟨hc1, hf1⟩ := bcell k1; go_simp; refine comes_v ?_; exact k1))
            (try simp only [Act.put, List.setIfInBounds_toArray, List.set_cons_zero, List.set_cons_succ])
            first | refine wpB_skip 4 rfl (by kernel_rfl) (by kernel_rfl) (by kernel_rfl) (by rfl) ?_ | (refine wpB_text 4 (v := .bool false) rfl (by kernel_rfl) (by kernel_rfl) (by kernel_rfl) (by rfl) (fun W hW => ?_) ?_; (have k1 := hW; obtain ⟨hc1, hf1⟩ := bcell k1; go_simp; exact comes_c ( KK.out _ (BP.trans (k1.mono BP.size))) (fun wn hbn => bt_keep k1 hbn)))
            (try simp only [Act.put, List.setIfInBounds_toArray, List.set_cons_zero, List.set_cons_succ])
            refine wpB_done (by kernel_rfl) ?_ _
            intro W hW; have k1 := hW
            go_wp2_with fail
            go_roundg (n - (k + 1))
            case measure => have := HGK.out; omega
            case rel => exact ⟨k + 1, by omega, rfl, by go_num, BP.trans (k1.mono BP.size), hF2⟩
        · have hkn : n = k := by omega
          subst hkn
          have hy : Hid (difB l = true) := Lib.hid (HT.out (fun i hi => ⟨HPE.out i (by have := HN.out; omega), hF.out i (by have := HN.out; omega)⟩))
          clear hF KC HIN HG HT HC HPE
          go_wp2_with fail
          go_ret
          exact ⟨ret_bool hy.out.symm, hB⟩
    · have hpf : pegsB l = false := by simpa using hpg
      have K1 := Lib.hid (KA.out w (Below.refl _ _))
      rw [hpf] at K1
      have hng : Hid (difB l = false) := Lib.hid (difB_false (fun h => hpg ((pegsB_iff l).2 fun i hi => (h.fine i hi).1)))
      clear hR hpg hpf KA
      go_enter Try.func140, Try.ntmps140
      go_wp2_with fail
      refine K1.out.mono ?_; rintro e w1 ⟨rfl, hb1⟩
      go_wp2_with fail
      go_ret
      exact ⟨ret_bool hng.out.symm, hb1⟩
theorem implAreDifferent_any (A : Option Addr) (c : Nat) (l : List (Int × Int)) (w : World) (hn : l.length ≤ 1048576) (hcap : l.length ≤ c) (hc2 : c ≤ 9223372036854775807) (hR : Rd w w.heap.size A l) :
    Calls Try.prog 120 #[.slice A l.length c] w fun e w' => e = .returned (.bool (difB l)) ∧ Below w.heap.size w w' := by
  by_cases hlo : l.length < 1
  · have hng : Hid (difB l = false) := Lib.hid (difB_false (fun h => by have := h.few; omega))
    have d1 : ¬ ((0 : Int) < (l.length : Int)) := by omega
    clear hR
    go_enter Try.func120, Try.ntmps120
    go_wp2_with fail
    go_ret
    exact ⟨ret_bool hng.out.symm, Below.refl _ _⟩
  · have K := Lib.hid (upTo30_any A c l w (by omega) hn hcap hc2 hR)
    have d1 : (0 : Int) < (l.length : Int) := by omega
    clear hR hlo
    generalize difB l = d at *
    generalize l.length = n at *
    go_enter Try.func120, Try.ntmps120
    go_wp2_with fail
    refine K.out.mono ?_; rintro e w1 ⟨rfl, hb1⟩
    go_wp2_with fail
    go_ret
    exact ⟨rfl, hb1⟩
end Go.Proofs.Ytheddoinnakneaa
