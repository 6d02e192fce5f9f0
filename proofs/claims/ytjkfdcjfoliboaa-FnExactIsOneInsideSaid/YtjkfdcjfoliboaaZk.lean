/- contracts: IsConvex, on both sides -/
import Derived.Test.YtjkfdcjfoliboaaZj
import Derived.Test.YtjkfdcjfoliboaaX
namespace Go.Proofs.Ytjkfdcjfoliboaa
open Go.ChangeShapes Go.WideShapes Go.ChangeAt Go.RowKit Go.Joins
set_option linter.unusedVariables false
set_option linter.unusedSimpArgs false
set_option maxRecDepth 4000
def bsl (b : Bool) (x : Bool) : Bool := if b = true then x else false
theorem bsl_true (x : Bool) : bsl true x = x := rfl
theorem bsl_false (x : Bool) : bsl false x = false := rfl
theorem ret_bb {a b c d : Bool} (h : a = b) (h2 : c = d) : Ending.returned (.tuple #[.bool a, .bool c]) = .returned (.tuple #[.bool b, .bool d]) := by rw [h, h2]
theorem specIsConvex_any (A : Option Addr) (c : Nat) (l : List (Int × Int)) (w : World) (hn : l.length ≤ 1048576) (hcap : l.length ≤ c) (hc2 : c ≤ 9223372036854775807) (hR : Rd w w.heap.size A l) :
    Calls Try.prog 12 #[.slice A l.length c] w fun e w' => e = .returned (.tuple #[.bool (bsl (goodB l) (convB l)), .bool (goodB l)]) ∧ Below w.heap.size w w' := by
  have K := Lib.hid (pgGood_any A c l w hn hcap hc2 hR)
  by_cases hg : Good l
  · have hgt := goodB_true hg
    rw [hgt] at K ⊢
    have K2 := Lib.hid (fun W (hb : Below w.heap.size w W) => pgConvex_any A c l W hg (rd_more (rd_below hR hb (Nat.le_refl _)) hb.size))
    rw [bsl_true]
    generalize convB l = v at *
    clear hgt hg hR
    go_enter Try.func12, Try.ntmps12
    go_wp2_with fail
    refine K.out.mono ?_; rintro e w1 ⟨rfl, hb1⟩
    go_wp2_with fail
    refine (K2.out w1 hb1).mono ?_; rintro e w2 ⟨rfl, hb2⟩
    have B2 := hb1.trans (hb2.mono hb1.size)
    go_wp2_with fail
    go_ret2
    exact ⟨rfl, B2⟩
  · have hgf := goodB_false hg
    rw [hgf] at K ⊢
    rw [bsl_false]
    clear hgf hg hR
    go_enter Try.func12, Try.ntmps12
    go_wp2_with fail
    refine K.out.mono ?_; rintro e w1 ⟨rfl, hb1⟩
    go_wp2_with fail
    go_ret2
    exact ⟨rfl, hb1⟩
theorem box6_keep {w wo W W' : World} {v0 v1 v2 v3 v4 v5 : Int} (h : Below w.heap.size w W ∧ wo.heap.size < W.heap.size ∧ W.cell? ⟨wo.heap.size, 0, none⟩ = some (.int .i64 v0) ∧ W.cell? ⟨wo.heap.size, 1, none⟩ = some (.int .i64 v1) ∧ W.cell? ⟨wo.heap.size, 2, none⟩ = some (.int .i64 v2) ∧ W.cell? ⟨wo.heap.size, 3, none⟩ = some (.int .i64 v3) ∧ W.cell? ⟨wo.heap.size, 4, none⟩ = some (.int .i64 v4) ∧ W.cell? ⟨wo.heap.size, 5, none⟩ = some (.int .i64 v5)) (hb : Below W.heap.size W W') :
    Below w.heap.size w W' ∧ wo.heap.size < W'.heap.size ∧ W'.cell? ⟨wo.heap.size, 0, none⟩ = some (.int .i64 v0) ∧ W'.cell? ⟨wo.heap.size, 1, none⟩ = some (.int .i64 v1) ∧ W'.cell? ⟨wo.heap.size, 2, none⟩ = some (.int .i64 v2) ∧ W'.cell? ⟨wo.heap.size, 3, none⟩ = some (.int .i64 v3) ∧ W'.cell? ⟨wo.heap.size, 4, none⟩ = some (.int .i64 v4) ∧ W'.cell? ⟨wo.heap.size, 5, none⟩ = some (.int .i64 v5) := by
  obtain ⟨h1, h2, h3, h4, h5, h6, h7, h8⟩ := h
  have hc := (bcell hb).1
  have hz := hb.size
  exact ⟨h1.trans (hb.mono h1.size), by omega, by rw [hc _ _ h2, h3], by rw [hc _ _ h2, h4], by rw [hc _ _ h2, h5], by rw [hc _ _ h2, h6], by rw [hc _ _ h2, h7], by rw [hc _ _ h2, h8]⟩
set_option maxHeartbeats 2000000 in
theorem implIsConvex_any (A : Option Addr) (c : Nat) (l : List (Int × Int)) (w : World) (hn : l.length ≤ 1048576) (hR : Rd w w.heap.size A l) :
    Calls Try.prog 14 #[.slice A l.length c] w fun e w' => e = .returned (.tuple #[.bool (bsl (goodB l) (convB l)), .bool (goodB l)]) ∧ Below w.heap.size w w' := by
  have K := Lib.hid (implIsPolygon_any A c l w hn hR)
  by_cases hg : Good l
  · have hgt := goodB_true hg
    rw [hgt] at K ⊢
    rw [bsl_true]
    have h3 := hg.few.1
    have h10 := hg.few.2
    have KC := Lib.hid (fun W (hb : Below w.heap.size w W) => cornersAround_any A c l W (by omega) (by omega) (rd_more (rd_below hR hb (Nat.le_refl _)) hb.size))
    have ZP := Lib.hid (fun i => pgs_sz hg.pegs i (by omega))
    have HY : Hid ((∀ i, i < l.length → (0 < tB l i ↔ 0 < tB l 0)) → convB l = true) := Lib.hid (fun h => convB_true (cvx_same hg h))
    have HF : Hid (∀ i, ¬ (0 < tB l i ↔ 0 < tB l 0) → convB l = false) := Lib.hid (fun i h => convB_false (fun hc => h (same_cvx hg hc i)))
    clear hgt hg hR
    generalize hN : l.length = n at *
    have HN := Lib.hid hN
    clear hN
    go_enter Try.func14, Try.ntmps14
    go_wp2_with fail
    refine K.out.mono ?_; rintro e w1 ⟨rfl, hb1⟩
    go_wp2_with fail
    refine (KC.out w1 hb1).mono ?_; rintro e w2 ⟨rfl, hb2, hSC⟩
    have B2 : Below w.heap.size w w2 := hb1.trans (hb2.mono hb1.size)
    have hw1 := hb1.size
    obtain ⟨g, hg⟩ : ∃ g, g = w1.heap.size := ⟨_, rfl⟩
    rw [← hg] at hSC ⊢
    have hgs : g < w2.heap.size := hSC.1
    have CE : Hid (∀ W, Below w2.heap.size w2 W → ∀ i, i < n → (W.cell? ⟨g, i * 6, none⟩ = some (.int .i64 (vx l i).1) ∧ W.cell? ⟨g, i * 6 + 1, none⟩ = some (.int .i64 (vx l i).2) ∧ W.cell? ⟨g, i * 6 + 2, none⟩ = some (.int .i64 (vx l (i + n - 1)).1) ∧ W.cell? ⟨g, i * 6 + 3, none⟩ = some (.int .i64 (vx l (i + n - 1)).2) ∧ W.cell? ⟨g, i * 6 + 4, none⟩ = some (.int .i64 (vx l (i + 1)).1) ∧ W.cell? ⟨g, i * 6 + 5, none⟩ = some (.int .i64 (vx l (i + 1)).2))) := Lib.hid (fun W hW i hi => by
      obtain ⟨c0, c1, c2, c3, c4, c5⟩ := hSC.2.2 i hi
      have hc := (bcell hW).1
      exact ⟨(hc _ _ hgs).trans c0, (hc _ _ hgs).trans c1, (hc _ _ hgs).trans c2, (hc _ _ hgs).trans c3, (hc _ _ hgs).trans c4, (hc _ _ hgs).trans c5⟩)
    have C0 : Hid (∀ W, Below w2.heap.size w2 W → (W.cell? ⟨g, 0, none⟩ = some (.int .i64 (vx l 0).1) ∧ W.cell? ⟨g, 1, none⟩ = some (.int .i64 (vx l 0).2) ∧ W.cell? ⟨g, 2, none⟩ = some (.int .i64 (vx l (n - 1)).1) ∧ W.cell? ⟨g, 3, none⟩ = some (.int .i64 (vx l (n - 1)).2) ∧ W.cell? ⟨g, 4, none⟩ = some (.int .i64 (vx l 1).1) ∧ W.cell? ⟨g, 5, none⟩ = some (.int .i64 (vx l 1).2))) := Lib.hid (fun W hW => by
      have := CE.out W hW 0 (by omega)
      simp only [Nat.zero_mul, Nat.zero_add] at this
      exact this)
    have TR : Hid (∀ W, Below w2.heap.size w2 W → Below w.heap.size w W) := Lib.hid (fun W hW => B2.trans (hW.mono B2.size))
    have T0 := Lib.hid (fun W => (show Calls Try.prog 40 #[.agg #[.int .i64 (vx l 0).1, .int .i64 (vx l 0).2, .int .i64 (vx l (n - 1)).1, .int .i64 (vx l (n - 1)).2, .int .i64 (vx l 1).1, .int .i64 (vx l 1).2]] W fun e w' => e = .returned (.int .i64 (tB l 0)) ∧ Below W.heap.size W w' from by
      unfold tB; rw [HN.out, Nat.zero_add]; exact turn_any _ _ _ _ _ _ W (ZP.out _) (ZP.out _) (ZP.out _)))
    clear K KC hb1 hb2 hSC B2 hw1 hg
    go_wp2_with fail
    go_loopg [14] n (fun gg i wr => ∃ k : Nat, k ≤ n ∧ gg = n - k ∧ i = .int .i64 k ∧ Below w2.heap.size w2 wr ∧ Hid (∀ i, i < k → (0 < tB l i ↔ 0 < tB l 0)))
    case atStart => exact ⟨0, Nat.zero_le _, rfl, rfl, Below.refl _ _, Lib.hid (fun i h => absurd h (Nat.not_lt_zero _))⟩
    case round =>
      obtain ⟨k, hk, hgg, rfl, hB, hF⟩ := hrel
      rename World => wo
      have HGK := Lib.hid hgg
      clear hgg
      by_cases hlt : k < n
      · obtain ⟨x0, x1, x2, x3, x4, x5⟩ := CE.out wo hB k hlt
        have hzB := hB.size
        have hgo : g < wo.heap.size := by omega
        have T := Lib.hid (fun W => (show Calls Try.prog 40 #[.agg #[.int .i64 (vx l k).1, .int .i64 (vx l k).2, .int .i64 (vx l (k + n - 1)).1, .int .i64 (vx l (k + n - 1)).2, .int .i64 (vx l (k + 1)).1, .int .i64 (vx l (k + 1)).2]] W fun e w' => e = .returned (.int .i64 (tB l k)) ∧ Below W.heap.size W w' from by
          unfold tB; rw [HN.out]; exact turn_any _ _ _ _ _ _ W (ZP.out _) (ZP.out _) (ZP.out _)))
        have HN1 := Lib.hid (HF.out k)
        have HN2 : Hid ((0 < tB l k ↔ 0 < tB l 0) → ∀ i, i < k + 1 → (0 < tB l i ↔ 0 < tB l 0)) := Lib.hid (fun h i hi => by
          by_cases e : i = k
          · subst e; exact h
          · exact hF.out i (by omega))
        clear hF
        have bx : (Below w2.heap.size w2 (wo.alloc (.cells #[.int .i64 (vx l k).1, .int .i64 (vx l k).2, .int .i64 (vx l (k + n - 1)).1, .int .i64 (vx l (k + n - 1)).2, .int .i64 (vx l (k + 1)).1, .int .i64 (vx l (k + 1)).2] 49)) ∧ wo.heap.size < (wo.alloc (.cells #[.int .i64 (vx l k).1, .int .i64 (vx l k).2, .int .i64 (vx l (k + n - 1)).1, .int .i64 (vx l (k + n - 1)).2, .int .i64 (vx l (k + 1)).1, .int .i64 (vx l (k + 1)).2] 49)).heap.size ∧ _ ∧ _ ∧ _ ∧ _ ∧ _ ∧ _) :=
          ⟨Below.alloc hB hzB (.cells #[.int .i64 (vx l k).1, .int .i64 (vx l k).2, .int .i64 (vx l (k + n - 1)).1, .int .i64 (vx l (k + n - 1)).2, .int .i64 (vx l (k + 1)).1, .int .i64 (vx l (k + 1)).2] 49), by simp, (show (wo.alloc (.cells #[.int .i64 (vx l k).1, .int .i64 (vx l k).2, .int .i64 (vx l (k + n - 1)).1, .int .i64 (vx l (k + n - 1)).2, .int .i64 (vx l (k + 1)).1, .int .i64 (vx l (k + 1)).2] 49)).cell? ⟨wo.heap.size, 0, none⟩ = some (.int .i64 (vx l k).1) by go_simp), (show (wo.alloc (.cells #[.int .i64 (vx l k).1, .int .i64 (vx l k).2, .int .i64 (vx l (k + n - 1)).1, .int .i64 (vx l (k + n - 1)).2, .int .i64 (vx l (k + 1)).1, .int .i64 (vx l (k + 1)).2] 49)).cell? ⟨wo.heap.size, 1, none⟩ = some (.int .i64 (vx l k).2) by go_simp), (show (wo.alloc (.cells #[.int .i64 (vx l k).1, .int .i64 (vx l k).2, .int .i64 (vx l (k + n - 1)).1, .int .i64 (vx l (k + n - 1)).2, .int .i64 (vx l (k + 1)).1, .int .i64 (vx l (k + 1)).2] 49)).cell? ⟨wo.heap.size, 2, none⟩ = some (.int .i64 (vx l (k + n - 1)).1) by go_simp), (show (wo.alloc (.cells #[.int .i64 (vx l k).1, .int .i64 (vx l k).2, .int .i64 (vx l (k + n - 1)).1, .int .i64 (vx l (k + n - 1)).2, .int .i64 (vx l (k + 1)).1, .int .i64 (vx l (k + 1)).2] 49)).cell? ⟨wo.heap.size, 3, none⟩ = some (.int .i64 (vx l (k + n - 1)).2) by go_simp), (show (wo.alloc (.cells #[.int .i64 (vx l k).1, .int .i64 (vx l k).2, .int .i64 (vx l (k + n - 1)).1, .int .i64 (vx l (k + n - 1)).2, .int .i64 (vx l (k + 1)).1, .int .i64 (vx l (k + 1)).2] 49)).cell? ⟨wo.heap.size, 4, none⟩ = some (.int .i64 (vx l (k + 1)).1) by go_simp), (show (wo.alloc (.cells #[.int .i64 (vx l k).1, .int .i64 (vx l k).2, .int .i64 (vx l (k + n - 1)).1, .int .i64 (vx l (k + n - 1)).2, .int .i64 (vx l (k + 1)).1, .int .i64 (vx l (k + 1)).2] 49)).cell? ⟨wo.heap.size, 5, none⟩ = some (.int .i64 (vx l (k + 1)).2) by go_simp)⟩
        have BX := Lib.hid (box6_keep bx ((Below.refl _ _).drew))
        clear bx
        generalize tB l 0 = s at *
        generalize tB l k = t at *
        go_wp2_with fail
        clear x0 x1 x2 x3 x4 x5
        by_cases hs : (0 < t ↔ 0 < s)
        · have hd : ((decide (0 < t)) == (decide (0 < s))) = true := by simp [hs]
          have hh2 := Lib.hid (HN2.out hs)
          clear HN1 HN2
          refine wp_region_B (fun W => Below w2.heap.size w2 W ∧ wo.heap.size < W.heap.size ∧ W.cell? ⟨wo.heap.size, 0, none⟩ = some (.int .i64 (vx l k).1) ∧ W.cell? ⟨wo.heap.size, 1, none⟩ = some (.int .i64 (vx l k).2) ∧ W.cell? ⟨wo.heap.size, 2, none⟩ = some (.int .i64 (vx l (k + n - 1)).1) ∧ W.cell? ⟨wo.heap.size, 3, none⟩ = some (.int .i64 (vx l (k + n - 1)).2) ∧ W.cell? ⟨wo.heap.size, 4, none⟩ = some (.int .i64 (vx l (k + 1)).1) ∧ W.cell? ⟨wo.heap.size, 5, none⟩ = some (.int .i64 (vx l (k + 1)).2)) (by kernel_rfl) BX.out ?_
          clear hB hzB
          first | refine wpB_skip 0 rfl (by kernel_rfl) (by kernel_rfl) (by kernel_rfl) (by rfl) ?_ | (refine wpB_text 0 (v := ?_) rfl (by kernel_rfl) (by kernel_rfl) (by kernel_rfl) (by rfl) (fun W hW => ?_) ?_; rotate_left; (obtain ⟨k1, k2, k3, k4, k5, k6, k7, k8⟩ := hW; have c0 := C0.out W k1; have hn0 : 0 < n := (by omega); go_simp; refine comes_v ?_; exact ⟨k1, k2, k3, k4, k5, k6, k7, k8⟩))
          (try simp only [Act.put, List.setIfInBounds_toArray, List.set_cons_zero, List.set_cons_succ])
          first | refine wpB_skip 1 rfl (by kernel_rfl) (by kernel_rfl) (by kernel_rfl) (by rfl) ?_ | (refine wpB_text 1 (v := .int .i64 t) rfl (by kernel_rfl) (by kernel_rfl) (by kernel_rfl) (by rfl) (fun W hW => ?_) ?_; (obtain ⟨k1, k2, k3, k4, k5, k6, k7, k8⟩ := hW; have c0 := C0.out W k1; have hn0 : 0 < n := (by omega); go_simp; exact comes_c ( T.out _) (fun wn hbn => box6_keep ⟨k1, k2, k3, k4, k5, k6, k7, k8⟩ hbn)))
          (try simp only [Act.put, List.setIfInBounds_toArray, List.set_cons_zero, List.set_cons_succ])
          first | refine wpB_skip 2 rfl (by kernel_rfl) (by kernel_rfl) (by kernel_rfl) (by rfl) ?_ | (refine wpB_text 2 (v := ?_) rfl (by kernel_rfl) (by kernel_rfl) (by kernel_rfl) (by rfl) (fun W hW => ?_) ?_; rotate_left; (obtain ⟨k1, k2, k3, k4, k5, k6, k7, k8⟩ := hW; have c0 := C0.out W k1; have hn0 : 0 < n := (by omega); go_simp; refine comes_v ?_; exact ⟨k1, k2, k3, k4, k5, k6, k7, k8⟩))
          (try simp only [Act.put, List.setIfInBounds_toArray, List.set_cons_zero, List.set_cons_succ])
          first | refine wpB_skip 3 rfl (by kernel_rfl) (by kernel_rfl) (by kernel_rfl) (by rfl) ?_ | (refine wpB_text 3 (v := ?_) rfl (by kernel_rfl) (by kernel_rfl) (by kernel_rfl) (by rfl) (fun W hW => ?_) ?_; rotate_left; (obtain ⟨k1, k2, k3, k4, k5, k6, k7, k8⟩ := hW; have c0 := C0.out W k1; have hn0 : 0 < n := (by omega); go_simp; refine comes_v ?_; exact ⟨k1, k2, k3, k4, k5, k6, k7, k8⟩))
          (try simp only [Act.put, List.setIfInBounds_toArray, List.set_cons_zero, List.set_cons_succ])
          first | refine wpB_skip 4 rfl (by kernel_rfl) (by kernel_rfl) (by kernel_rfl) (by rfl) ?_ | (refine wpB_text 4 (v := ?_) rfl (by kernel_rfl) (by kernel_rfl) (by kernel_rfl) (by rfl) (fun W hW => ?_) ?_; rotate_left; (obtain ⟨k1, k2, k3, k4, k5, k6, k7, k8⟩ := hW; have c0 := C0.out W k1; have hn0 : 0 < n := (by omega); go_simp; refine comes_v ?_; exact ⟨k1, k2, k3, k4, k5, k6, k7, k8⟩))
          (try simp only [Act.put, List.setIfInBounds_toArray, List.set_cons_zero, List.set_cons_succ])
          first | refine wpB_skip 5 rfl (by kernel_rfl) (by kernel_rfl) (by kernel_rfl) (by rfl) ?_ | (refine wpB_text 5 (v := ?_) rfl (by kernel_rfl) (by kernel_rfl) (by kernel_rfl) (by rfl) (fun W hW => ?_) ?_; rotate_left; (obtain ⟨k1, k2, k3, k4, k5, k6, k7, k8⟩ := hW; have c0 := C0.out W k1; have hn0 : 0 < n := (by omega); go_simp; refine comes_v ?_; exact ⟨k1, k2, k3, k4, k5, k6, k7, k8⟩))
          (try simp only [Act.put, List.setIfInBounds_toArray, List.set_cons_zero, List.set_cons_succ])
          first | refine wpB_skip 6 rfl (by kernel_rfl) (by kernel_rfl) (by kernel_rfl) (by rfl) ?_ | (refine wpB_text 6 (v := .int .i64 s) rfl (by kernel_rfl) (by kernel_rfl) (by kernel_rfl) (by rfl) (fun W hW => ?_) ?_; (obtain ⟨k1, k2, k3, k4, k5, k6, k7, k8⟩ := hW; have c0 := C0.out W k1; have hn0 : 0 < n := (by omega); go_simp; exact comes_c ( T0.out _) (fun wn hbn => box6_keep ⟨k1, k2, k3, k4, k5, k6, k7, k8⟩ hbn)))
          (try simp only [Act.put, List.setIfInBounds_toArray, List.set_cons_zero, List.set_cons_succ])
          first | refine wpB_skip 7 rfl (by kernel_rfl) (by kernel_rfl) (by kernel_rfl) (by rfl) ?_ | (refine wpB_text 7 (v := ?_) rfl (by kernel_rfl) (by kernel_rfl) (by kernel_rfl) (by rfl) (fun W hW => ?_) ?_; rotate_left; (obtain ⟨k1, k2, k3, k4, k5, k6, k7, k8⟩ := hW; have c0 := C0.out W k1; have hn0 : 0 < n := (by omega); go_simp; refine comes_v ?_; exact ⟨k1, k2, k3, k4, k5, k6, k7, k8⟩))
          (try simp only [Act.put, List.setIfInBounds_toArray, List.set_cons_zero, List.set_cons_succ])
          first | refine wpB_skip 8 rfl (by kernel_rfl) (by kernel_rfl) (by kernel_rfl) (by rfl) ?_ | (refine wpB_text 8 (v := ?_) rfl (by kernel_rfl) (by kernel_rfl) (by kernel_rfl) (by rfl) (fun W hW => ?_) ?_; rotate_left; (obtain ⟨k1, k2, k3, k4, k5, k6, k7, k8⟩ := hW; have c0 := C0.out W k1; have hn0 : 0 < n := (by omega); go_simp; refine comes_v ?_; exact ⟨k1, k2, k3, k4, k5, k6, k7, k8⟩))
          (try simp only [Act.put, List.setIfInBounds_toArray, List.set_cons_zero, List.set_cons_succ])
          refine wpB_done (by kernel_rfl) ?_ _
          intro W hW; obtain ⟨k1, k2, k3, k4, k5, k6, k7, k8⟩ := hW
          go_wp2_with fail
          go_roundg (n - (k + 1))
          case measure => have := HGK.out; omega
          case rel => exact ⟨k + 1, by omega, rfl, by go_num, k1, hh2⟩
        · have hd : ((decide (0 < t)) == (decide (0 < s))) = false := by simp [hs]
          have hfl := Lib.hid (HN1.out hs)
          clear HN1 HN2
          refine wp_region_B (fun W => Below w2.heap.size w2 W ∧ wo.heap.size < W.heap.size ∧ W.cell? ⟨wo.heap.size, 0, none⟩ = some (.int .i64 (vx l k).1) ∧ W.cell? ⟨wo.heap.size, 1, none⟩ = some (.int .i64 (vx l k).2) ∧ W.cell? ⟨wo.heap.size, 2, none⟩ = some (.int .i64 (vx l (k + n - 1)).1) ∧ W.cell? ⟨wo.heap.size, 3, none⟩ = some (.int .i64 (vx l (k + n - 1)).2) ∧ W.cell? ⟨wo.heap.size, 4, none⟩ = some (.int .i64 (vx l (k + 1)).1) ∧ W.cell? ⟨wo.heap.size, 5, none⟩ = some (.int .i64 (vx l (k + 1)).2)) (by kernel_rfl) BX.out ?_
          clear hB hzB
          first | refine wpB_skip 0 rfl (by kernel_rfl) (by kernel_rfl) (by kernel_rfl) (by rfl) ?_ | (refine wpB_text 0 (v := ?_) rfl (by kernel_rfl) (by kernel_rfl) (by kernel_rfl) (by rfl) (fun W hW => ?_) ?_; rotate_left; (obtain ⟨k1, k2, k3, k4, k5, k6, k7, k8⟩ := hW; have c0 := C0.out W k1; have hn0 : 0 < n := (by omega); go_simp; refine comes_v ?_; exact ⟨k1, k2, k3, k4, k5, k6, k7, k8⟩))
          (try simp only [Act.put, List.setIfInBounds_toArray, List.set_cons_zero, List.set_cons_succ])
          first | refine wpB_skip 1 rfl (by kernel_rfl) (by kernel_rfl) (by kernel_rfl) (by rfl) ?_ | (refine wpB_text 1 (v := .int .i64 t) rfl (by kernel_rfl) (by kernel_rfl) (by kernel_rfl) (by rfl) (fun W hW => ?_) ?_; (obtain ⟨k1, k2, k3, k4, k5, k6, k7, k8⟩ := hW; have c0 := C0.out W k1; have hn0 : 0 < n := (by omega); go_simp; exact comes_c ( T.out _) (fun wn hbn => box6_keep ⟨k1, k2, k3, k4, k5, k6, k7, k8⟩ hbn)))
          (try simp only [Act.put, List.setIfInBounds_toArray, List.set_cons_zero, List.set_cons_succ])
          first | refine wpB_skip 2 rfl (by kernel_rfl) (by kernel_rfl) (by kernel_rfl) (by rfl) ?_ | (refine wpB_text 2 (v := ?_) rfl (by kernel_rfl) (by kernel_rfl) (by kernel_rfl) (by rfl) (fun W hW => ?_) ?_; rotate_left; (obtain ⟨k1, k2, k3, k4, k5, k6, k7, k8⟩ := hW; have c0 := C0.out W k1; have hn0 : 0 < n := (by omega); go_simp; refine comes_v ?_; exact ⟨k1, k2, k3, k4, k5, k6, k7, k8⟩))
          (try simp only [Act.put, List.setIfInBounds_toArray, List.set_cons_zero, List.set_cons_succ])
          first | refine wpB_skip 3 rfl (by kernel_rfl) (by kernel_rfl) (by kernel_rfl) (by rfl) ?_ | (refine wpB_text 3 (v := ?_) rfl (by kernel_rfl) (by kernel_rfl) (by kernel_rfl) (by rfl) (fun W hW => ?_) ?_; rotate_left; (obtain ⟨k1, k2, k3, k4, k5, k6, k7, k8⟩ := hW; have c0 := C0.out W k1; have hn0 : 0 < n := (by omega); go_simp; refine comes_v ?_; exact ⟨k1, k2, k3, k4, k5, k6, k7, k8⟩))
          (try simp only [Act.put, List.setIfInBounds_toArray, List.set_cons_zero, List.set_cons_succ])
          first | refine wpB_skip 4 rfl (by kernel_rfl) (by kernel_rfl) (by kernel_rfl) (by rfl) ?_ | (refine wpB_text 4 (v := ?_) rfl (by kernel_rfl) (by kernel_rfl) (by kernel_rfl) (by rfl) (fun W hW => ?_) ?_; rotate_left; (obtain ⟨k1, k2, k3, k4, k5, k6, k7, k8⟩ := hW; have c0 := C0.out W k1; have hn0 : 0 < n := (by omega); go_simp; refine comes_v ?_; exact ⟨k1, k2, k3, k4, k5, k6, k7, k8⟩))
          (try simp only [Act.put, List.setIfInBounds_toArray, List.set_cons_zero, List.set_cons_succ])
          first | refine wpB_skip 5 rfl (by kernel_rfl) (by kernel_rfl) (by kernel_rfl) (by rfl) ?_ | (refine wpB_text 5 (v := ?_) rfl (by kernel_rfl) (by kernel_rfl) (by kernel_rfl) (by rfl) (fun W hW => ?_) ?_; rotate_left; (obtain ⟨k1, k2, k3, k4, k5, k6, k7, k8⟩ := hW; have c0 := C0.out W k1; have hn0 : 0 < n := (by omega); go_simp; refine comes_v ?_; exact ⟨k1, k2, k3, k4, k5, k6, k7, k8⟩))
          (try simp only [Act.put, List.setIfInBounds_toArray, List.set_cons_zero, List.set_cons_succ])
          first | refine wpB_skip 6 rfl (by kernel_rfl) (by kernel_rfl) (by kernel_rfl) (by rfl) ?_ | (refine wpB_text 6 (v := .int .i64 s) rfl (by kernel_rfl) (by kernel_rfl) (by kernel_rfl) (by rfl) (fun W hW => ?_) ?_; (obtain ⟨k1, k2, k3, k4, k5, k6, k7, k8⟩ := hW; have c0 := C0.out W k1; have hn0 : 0 < n := (by omega); go_simp; exact comes_c ( T0.out _) (fun wn hbn => box6_keep ⟨k1, k2, k3, k4, k5, k6, k7, k8⟩ hbn)))
          (try simp only [Act.put, List.setIfInBounds_toArray, List.set_cons_zero, List.set_cons_succ])
          first | refine wpB_skip 7 rfl (by kernel_rfl) (by kernel_rfl) (by kernel_rfl) (by rfl) ?_ | (refine wpB_text 7 (v := ?_) rfl (by kernel_rfl) (by kernel_rfl) (by kernel_rfl) (by rfl) (fun W hW => ?_) ?_; rotate_left; (obtain ⟨k1, k2, k3, k4, k5, k6, k7, k8⟩ := hW; have c0 := C0.out W k1; have hn0 : 0 < n := (by omega); go_simp; refine comes_v ?_; exact ⟨k1, k2, k3, k4, k5, k6, k7, k8⟩))
          (try simp only [Act.put, List.setIfInBounds_toArray, List.set_cons_zero, List.set_cons_succ])
          first | refine wpB_skip 8 rfl (by kernel_rfl) (by kernel_rfl) (by kernel_rfl) (by rfl) ?_ | (refine wpB_text 8 (v := ?_) rfl (by kernel_rfl) (by kernel_rfl) (by kernel_rfl) (by rfl) (fun W hW => ?_) ?_; rotate_left; (obtain ⟨k1, k2, k3, k4, k5, k6, k7, k8⟩ := hW; have c0 := C0.out W k1; have hn0 : 0 < n := (by omega); go_simp; refine comes_v ?_; exact ⟨k1, k2, k3, k4, k5, k6, k7, k8⟩))
          (try simp only [Act.put, List.setIfInBounds_toArray, List.set_cons_zero, List.set_cons_succ])
          refine wpB_done (by kernel_rfl) ?_ _
          intro W hW; obtain ⟨k1, k2, k3, k4, k5, k6, k7, k8⟩ := hW
          go_wp2_with fail
          go_ret2
          exact ⟨ret_bb hfl.out.symm rfl, TR.out _ k1⟩
      · have hkn : n = k := by omega
        subst hkn
        have hy := Lib.hid (HY.out (fun i hi => hF.out i hi))
        have BB := Lib.hid (TR.out _ hB)
        go_wp2_with fail
        go_ret2
        exact ⟨ret_bb hy.out.symm rfl, BB.out⟩
  · have hgf := goodB_false hg
    rw [hgf] at K ⊢
    rw [bsl_false]
    clear hgf hg hR
    go_enter Try.func14, Try.ntmps14
    go_wp2_with fail
    refine K.out.mono ?_; rintro e w1 ⟨rfl, hb1⟩
    go_wp2_with fail
    go_ret2
    exact ⟨rfl, hb1⟩
end Go.Proofs.Ytjkfdcjfoliboaa
