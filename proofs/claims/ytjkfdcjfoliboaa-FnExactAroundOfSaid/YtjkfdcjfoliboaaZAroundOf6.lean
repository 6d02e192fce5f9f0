/- joined: Zk Zm Zn Sd Sj Sg Sca Sda Si Zt Lb Sei Nd Zy Km Lx Kh Lw Z -/
import Derived.Test.YtjkfdcjfoliboaaZAroundOf5
import Derived.Laws.MakeOwn
import Derived.StillTailTactics
import Derived.LoopTactic
import Derived.Deep.Slices
import Derived.Deep.Fields
/- contracts: IsConvex, on both sides -/
namespace Go.Proofs.Ytjkfdcjfoliboaa
open Go.ChangeShapes Go.WideShapes Go.ChangeAt Go.RowKit Go.Joins
set_option linter.unusedVariables false
set_option linter.unusedSimpArgs false
set_option maxRecDepth 4000
def bsl (b : Bool) (x : Bool) : Bool := if b = true then x else false
theorem bsl_true (x : Bool) : bsl true x = x := rfl
theorem bsl_false (x : Bool) : bsl false x = false := rfl
theorem ret_bb {a b c d : Bool} (h : a = b) (h2 : c = d) : Ending.returned (.tuple #[.bool a, .bool c]) = .returned (.tuple #[.bool b, .bool d]) := by rw [h, h2]
theorem specIsConvex_any (A : Option Addr) (c : Nat) (l : List (Int × Int)) (w : World) (hn : l.length ≤ 1048576) (hcap : l.length ≤ c) (hc2 : c ≤ 9223372036854775807) (hR : Rd w w.heap.size A l) :
    Calls Try.prog 12 #[.slice A l.length c] w fun e w' => e = .returned (.tuple #[.bool (bsl (goodB l) (convB l)), .bool (goodB l)]) ∧ Below w.heap.size w w' := by
  have K := Lib.hid (pgGood_any A c l w hn hcap hc2 hR)
  by_cases hg : Good l
  · have hgt := goodB_true hg
    rw [hgt] at K ⊢
    have K2 := Lib.hid (fun W (hb : Below w.heap.size w W) => pgConvex_any A c l W hg (rd_more (rd_below hR hb (Nat.le_refl _)) hb.size))
    rw [bsl_true]
    generalize convB l = v at *
    clear hgt hg hR
    go_enter Try.func12, Try.ntmps12
    go_wp2_with fail
    refine K.out.mono ?_; rintro e w1 ⟨rfl, hb1⟩
    go_wp2_with fail
    refine (K2.out w1 hb1).mono ?_; rintro e w2 ⟨rfl, hb2⟩
    have B2 := hb1.trans (hb2.mono hb1.size)
    go_wp2_with fail
    go_ret2
    exact ⟨rfl, B2⟩
  · have hgf := goodB_false hg
    rw [hgf] at K ⊢
    rw [bsl_false]
    clear hgf hg hR
    go_enter Try.func12, Try.ntmps12
    go_wp2_with fail
    refine K.out.mono ?_; rintro e w1 ⟨rfl, hb1⟩
    go_wp2_with fail
    go_ret2
    exact ⟨rfl, hb1⟩
theorem box6_keep {w wo W W' : World} {v0 v1 v2 v3 v4 v5 : Int} (h : Below w.heap.size w W ∧ wo.heap.size < W.heap.size ∧ W.cell? ⟨wo.heap.size, 0, none⟩ = some (.int .i64 v0) ∧ W.cell? ⟨wo.heap.size, 1, none⟩ = some (.int .i64 v1) ∧ W.cell? ⟨wo.heap.size, 2, none⟩ = some (.int .i64 v2) ∧ W.cell? ⟨wo.heap.size, 3, none⟩ = some (.int .i64 v3) ∧ W.cell? ⟨wo.heap.size, 4, none⟩ = some (.int .i64 v4) ∧ W.cell? ⟨wo.heap.size, 5, none⟩ = some (.int .i64 v5)) (hb : Below W.heap.size W W') :
    Below w.heap.size w W' ∧ wo.heap.size < W'.heap.size ∧ W'.cell? ⟨wo.heap.size, 0, none⟩ = some (.int .i64 v0) ∧ W'.cell? ⟨wo.heap.size, 1, none⟩ = some (.int .i64 v1) ∧ W'.cell? ⟨wo.heap.size, 2, none⟩ = some (.int .i64 v2) ∧ W'.cell? ⟨wo.heap.size, 3, none⟩ = some (.int .i64 v3) ∧ W'.cell? ⟨wo.heap.size, 4, none⟩ = some (.int .i64 v4) ∧ W'.cell? ⟨wo.heap.size, 5, none⟩ = some (.int .i64 v5) := by
  obtain ⟨h1, h2, h3, h4, h5, h6, h7, h8⟩ := h
  have hc := (bcell hb).1
  have hz := hb.size
  exact ⟨h1.trans (hb.mono h1.size), by omega, by rw [hc _ _ h2, h3], by rw [hc _ _ h2, h4], by rw [hc _ _ h2, h5], by rw [hc _ _ h2, h6], by rw [hc _ _ h2, h7], by rw [hc _ _ h2, h8]⟩
set_option maxHeartbeats 2000000 in
theorem implIsConvex_any (A : Option Addr) (c : Nat) (l : List (Int × Int)) (w : World) (hn : l.length ≤ 1048576) (hR : Rd w w.heap.size A l) :
    Calls Try.prog 14 #[.slice A l.length c] w fun e w' => e = .returned (.tuple #[.bool (bsl (goodB l) (convB l)), .bool (goodB l)]) ∧ Below w.heap.size w w' := by
  have K := Lib.hid (implIsPolygon_any A c l w hn hR)
  by_cases hg : Good l
  · have hgt := goodB_true hg
    rw [hgt] at K ⊢
    rw [bsl_true]
    have h3 := hg.few.1
    have h10 := hg.few.2
    have KC := Lib.hid (fun W (hb : Below w.heap.size w W) => cornersAround_any A c l W (by omega) (by omega) (rd_more (rd_below hR hb (Nat.le_refl _)) hb.size))
    have ZP := Lib.hid (fun i => pgs_sz hg.pegs i (by omega))
    have HY : Hid ((∀ i, i < l.length → (0 < tB l i ↔ 0 < tB l 0)) → convB l = true) := Lib.hid (fun h => convB_true (cvx_same hg h))
    have HF : Hid (∀ i, ¬ (0 < tB l i ↔ 0 < tB l 0) → convB l = false) := Lib.hid (fun i h => convB_false (fun hc => h (same_cvx hg hc i)))
    clear hgt hg hR
    generalize hN : l.length = n at *
    have HN := Lib.hid hN
    clear hN
    go_enter Try.func14, Try.ntmps14
    go_wp2_with fail
    refine K.out.mono ?_; rintro e w1 ⟨rfl, hb1⟩
    go_wp2_with fail
    refine (KC.out w1 hb1).mono ?_; rintro e w2 ⟨rfl, hb2, hSC⟩
    have B2 : Below w.heap.size w w2 := hb1.trans (hb2.mono hb1.size)
    have hw1 := hb1.size
    obtain ⟨g, hg⟩ : ∃ g, g = w1.heap.size := ⟨_, rfl⟩
    rw [← hg] at hSC ⊢
    have hgs : g < w2.heap.size := hSC.1
    have CE : Hid (∀ W, Below w2.heap.size w2 W → ∀ i, i < n → (W.cell? ⟨g, i * 6, none⟩ = some (.int .i64 (vx l i).1) ∧ W.cell? ⟨g, i * 6 + 1, none⟩ = some (.int .i64 (vx l i).2) ∧ W.cell? ⟨g, i * 6 + 2, none⟩ = some (.int .i64 (vx l (i + n - 1)).1) ∧ W.cell? ⟨g, i * 6 + 3, none⟩ = some (.int .i64 (vx l (i + n - 1)).2) ∧ W.cell? ⟨g, i * 6 + 4, none⟩ = some (.int .i64 (vx l (i + 1)).1) ∧ W.cell? ⟨g, i * 6 + 5, none⟩ = some (.int .i64 (vx l (i + 1)).2))) := Lib.hid (fun W hW i hi => by
      obtain ⟨c0, c1, c2, c3, c4, c5⟩ := hSC.2.2 i hi
      have hc := (bcell hW).1
      exact ⟨(hc _ _ hgs).trans c0, (hc _ _ hgs).trans c1, (hc _ _ hgs).trans c2, (hc _ _ hgs).trans c3, (hc _ _ hgs).trans c4, (hc _ _ hgs).trans c5⟩)
    have C0 : Hid (∀ W, Below w2.heap.size w2 W → (W.cell? ⟨g, 0, none⟩ = some (.int .i64 (vx l 0).1) ∧ W.cell? ⟨g, 1, none⟩ = some (.int .i64 (vx l 0).2) ∧ W.cell? ⟨g, 2, none⟩ = some (.int .i64 (vx l (n - 1)).1) ∧ W.cell? ⟨g, 3, none⟩ = some (.int .i64 (vx l (n - 1)).2) ∧ W.cell? ⟨g, 4, none⟩ = some (.int .i64 (vx l 1).1) ∧ W.cell? ⟨g, 5, none⟩ = some (.int .i64 (vx l 1).2))) := Lib.hid (fun W hW => by
      have := CE.out W hW 0 (by omega)
      simp only [Nat.zero_mul, Nat.zero_add] at this
      exact this)
    have TR : Hid (∀ W, Below w2.heap.size w2 W → Below w.heap.size w W) := Lib.hid (fun W hW => B2.trans (hW.mono B2.size))
    have T0 := Lib.hid (fun W => (show Calls Try.prog 40 #[.agg #[.int .i64 (vx l 0).1, .int .i64 (vx l 0).2, .int .i64 (vx l (n - 1)).1, .int .i64 (vx l (n - 1)).2, .int .i64 (vx l 1).1, .int .i64 (vx l 1).2]] W fun e w' => e = .returned (.int .i64 (tB l 0)) ∧ Below W.heap.size W w' from by
      unfold tB; rw [HN.out, Nat.zero_add]; exact turn_any _ _ _ _ _ _ W (ZP.out _) (ZP.out _) (ZP.out _)))
    clear K KC hb1 hb2 hSC B2 hw1 hg
    go_wp2_with fail
    go_loopg [14] n (fun gg i wr => ∃ k : Nat, k ≤ n ∧ gg = n - k ∧ i = .int .i64 k ∧ Below w2.heap.size w2 wr ∧ Hid (∀ i, i < k → (0 < tB l i ↔ 0 < tB l 0)))
    case atStart => exact ⟨0, Nat.zero_le _, rfl, rfl, Below.refl _ _, Lib.hid (fun i h => absurd h (Nat.not_lt_zero _))⟩
    case round =>
      obtain ⟨k, hk, hgg, rfl, hB, hF⟩ := hrel
      rename World => wo
      have HGK := Lib.hid hgg
      clear hgg
      by_cases hlt : k < n
      · obtain ⟨x0, x1, x2, x3, x4, x5⟩ := CE.out wo hB k hlt
        have hzB := hB.size
        have hgo : g < wo.heap.size := by omega
        have T := Lib.hid (fun W => (show Calls Try.prog 40 #[.agg #[.int .i64 (vx l k).1, .int .i64 (vx l k).2, .int .i64 (vx l (k + n - 1)).1, .int .i64 (vx l (k + n - 1)).2, .int .i64 (vx l (k + 1)).1, .int .i64 (vx l (k + 1)).2]] W fun e w' => e = .returned (.int .i64 (tB l k)) ∧ Below W.heap.size W w' from by
          unfold tB; rw [HN.out]; exact turn_any _ _ _ _ _ _ W (ZP.out _) (ZP.out _) (ZP.out _)))
        have HN1 := Lib.hid (HF.out k)
        have HN2 : Hid ((0 < tB l k ↔ 0 < tB l 0) → ∀ i, i < k + 1 → (0 < tB l i ↔ 0 < tB l 0)) := Lib.hid (fun h i hi => by
          by_cases e : i = k
          · subst e; exact h
          · exact hF.out i (by omega))
        clear hF
        have bx : (Below w2.heap.size w2 (wo.alloc (.cells #[.int .i64 (vx l k).1, .int .i64 (vx l k).2, .int .i64 (vx l (k + n - 1)).1, .int .i64 (vx l (k + n - 1)).2, .int .i64 (vx l (k + 1)).1, .int .i64 (vx l (k + 1)).2] 49)) ∧ wo.heap.size < (wo.alloc (.cells #[.int .i64 (vx l k).1, .int .i64 (vx l k).2, .int .i64 (vx l (k + n - 1)).1, .int .i64 (vx l (k + n - 1)).2, .int .i64 (vx l (k + 1)).1, .int .i64 (vx l (k + 1)).2] 49)).heap.size ∧ _ ∧ _ ∧ _ ∧ _ ∧ _ ∧ _) :=
          ⟨Below.alloc hB hzB (.cells #[.int .i64 (vx l k).1, .int .i64 (vx l k).2, .int .i64 (vx l (k + n - 1)).1, .int .i64 (vx l (k + n - 1)).2, .int .i64 (vx l (k + 1)).1, .int .i64 (vx l (k + 1)).2] 49), by simp, (show (wo.alloc (.cells #[.int .i64 (vx l k).1, .int .i64 (vx l k).2, .int .i64 (vx l (k + n - 1)).1, .int .i64 (vx l (k + n - 1)).2, .int .i64 (vx l (k + 1)).1, .int .i64 (vx l (k + 1)).2] 49)).cell? ⟨wo.heap.size, 0, none⟩ = some (.int .i64 (vx l k).1) by go_simp), (show (wo.alloc (.cells #[.int .i64 (vx l k).1, .int .i64 (vx l k).2, .int .i64 (vx l (k + n - 1)).1, .int .i64 (vx l (k + n - 1)).2, .int .i64 (vx l (k + 1)).1, .int .i64 (vx l (k + 1)).2] 49)).cell? ⟨wo.heap.size, 1, none⟩ = some (.int .i64 (vx l k).2) by go_simp), (show (wo.alloc (.cells #[.int .i64 (vx l k).1, .int .i64 (vx l k).2, .int .i64 (vx l (k + n - 1)).1, .int .i64 (vx l (k + n - 1)).2, .int .i64 (vx l (k + 1)).1, .int .i64 (vx l (k + 1)).2] 49)).cell? ⟨wo.heap.size, 2, none⟩ = some (.int .i64 (vx l (k + n - 1)).1) by go_simp), (show (wo.alloc (.cells #[.int .i64 (vx l k).1, .int .i64 (vx l k).2, .int .i64 (vx l (k + n - 1)).1, .int .i64 (vx l (k + n - 1)).2, .int .i64 (vx l (k + 1)).1, .int .i64 (vx l (k + 1)).2] 49)).cell? ⟨wo.heap.size, 3, none⟩ = some (.int .i64 (vx l (k + n - 1)).2) by go_simp), (show (wo.alloc (.cells #[.int .i64 (vx l k).1, .int .i64 (vx l k).2, .int .i64 (vx l (k + n - 1)).1, .int .i64 (vx l (k + n - 1)).2, .int .i64 (vx l (k + 1)).1, .int .i64 (vx l (k + 1)).2] 49)).cell? ⟨wo.heap.size, 4, none⟩ = some (.int .i64 (vx l (k + 1)).1) by go_simp), (show (wo.alloc (.cells #[.int .i64 (vx l k).1, .int .i64 (vx l k).2, .int .i64 (vx l (k + n - 1)).1, .int .i64 (vx l (k + n - 1)).2, .int .i64 (vx l (k + 1)).1, .int .i64 (vx l (k + 1)).2] 49)).cell? ⟨wo.heap.size, 5, none⟩ = some (.int .i64 (vx l (k + 1)).2) by go_simp)⟩
        have BX := Lib.hid (box6_keep bx ((Below.refl _ _).drew))
        clear bx
        generalize tB l 0 = s at *
        generalize tB l k = t at *
        go_wp2_with fail
        clear x0 x1 x2 x3 x4 x5
        by_cases hs : (0 < t ↔ 0 < s)
        · have hd : ((decide (0 < t)) == (decide (0 < s))) = true := by simp [hs]
          have hh2 := Lib.hid (HN2.out hs)
          clear HN1 HN2
          refine wp_region_B (fun W => Below w2.heap.size w2 W ∧ wo.heap.size < W.heap.size ∧ W.cell? ⟨wo.heap.size, 0, none⟩ = some (.int .i64 (vx l k).1) ∧ W.cell? ⟨wo.heap.size, 1, none⟩ = some (.int .i64 (vx l k).2) ∧ W.cell? ⟨wo.heap.size, 2, none⟩ = some (.int .i64 (vx l (k + n - 1)).1) ∧ W.cell? ⟨wo.heap.size, 3, none⟩ = some (.int .i64 (vx l (k + n - 1)).2) ∧ W.cell? ⟨wo.heap.size, 4, none⟩ = some (.int .i64 (vx l (k + 1)).1) ∧ W.cell? ⟨wo.heap.size, 5, none⟩ = some (.int .i64 (vx l (k + 1)).2)) (by kernel_rfl) BX.out ?_
          clear hB hzB
          first | refine wpB_skip 0 rfl (by kernel_rfl) (by kernel_rfl) (by kernel_rfl) (by rfl) ?_ | (refine wpB_text 0 (v := ?_) rfl (by kernel_rfl) (by kernel_rfl) (by kernel_rfl) (by rfl) (fun W hW => ?_) ?_; rotate_left; (obtain ⟨k1, k2, k3, k4, k5, k6, k7, k8⟩ := hW; have c0 := C0.out W k1; have hn0 : 0 < n := (by omega); go_simp; refine comes_v ?_; exact ⟨k1, k2, k3, k4, k5, k6, k7, k8⟩))
          (try simp only [Act.put, List.setIfInBounds_toArray, List.set_cons_zero, List.set_cons_succ])
          first | refine wpB_skip 1 rfl (by kernel_rfl) (by kernel_rfl) (by kernel_rfl) (by rfl) ?_ | (refine wpB_text 1 (v := .int .i64 t) rfl (by kernel_rfl) (by kernel_rfl) (by kernel_rfl) (by rfl) (fun W hW => ?_) ?_; (obtain ⟨k1, k2, k3, k4, k5, k6, k7, k8⟩ := hW; have c0 := C0.out W k1; have hn0 : 0 < n := (by omega); go_simp; exact comes_c ( T.out _) (fun wn hbn => box6_keep ⟨k1, k2, k3, k4, k5, k6, k7, k8⟩ hbn)))
          (try simp only [Act.put, List.setIfInBounds_toArray, List.set_cons_zero, List.set_cons_succ])
          first | refine wpB_skip 2 rfl (by kernel_rfl) (by kernel_rfl) (by kernel_rfl) (by rfl) ?_ | (refine wpB_text 2 (v := ?_) rfl (by kernel_rfl) (by kernel_rfl) (by kernel_rfl) (by rfl) (fun W hW => ?_) ?_; rotate_left; (obtain ⟨k1, k2, k3, k4, k5, k6, k7, k8⟩ := hW; have c0 := C0.out W k1; have hn0 : 0 < n := (by omega); go_simp; refine comes_v ?_; exact ⟨k1, k2, k3, k4, k5, k6, k7, k8⟩))
          (try simp only [Act.put, List.setIfInBounds_toArray, List.set_cons_zero, List.set_cons_succ])
          first | refine wpB_skip 3 rfl (by kernel_rfl) (by kernel_rfl) (by kernel_rfl) (by rfl) ?_ | (refine wpB_text 3 (v := ?_) rfl (by kernel_rfl) (by kernel_rfl) (by kernel_rfl) (by rfl) (fun W hW => ?_) ?_; rotate_left; (obtain ⟨k1, k2, k3, k4, k5, k6, k7, k8⟩ := hW; have c0 := C0.out W k1; have hn0 : 0 < n := (by omega); go_simp; refine comes_v ?_; exact ⟨k1, k2, k3, k4, k5, k6, k7, k8⟩))
          (try simp only [Act.put, List.setIfInBounds_toArray, List.set_cons_zero, List.set_cons_succ])
          first | refine wpB_skip 4 rfl (by kernel_rfl) (by kernel_rfl) (by kernel_rfl) (by rfl) ?_ | (refine wpB_text 4 (v := ?_) rfl (by kernel_rfl) (by kernel_rfl) (by kernel_rfl) (by rfl) (fun W hW => ?_) ?_; rotate_left; (obtain ⟨k1, k2, k3, k4, k5, k6, k7, k8⟩ := hW; have c0 := C0.out W k1; have hn0 : 0 < n := (by omega); go_simp; refine comes_v ?_; exact ⟨k1, k2, k3, k4, k5, k6, k7, k8⟩))
          (try simp only [Act.put, List.setIfInBounds_toArray, List.set_cons_zero, List.set_cons_succ])
          first | refine wpB_skip 5 rfl (by kernel_rfl) (by kernel_rfl) (by kernel_rfl) (by rfl) ?_ | (refine wpB_text 5 (v := ?_) rfl (by kernel_rfl) (by kernel_rfl) (by kernel_rfl) (by rfl) (fun W hW => ?_) ?_; rotate_left; (obtain ⟨k1, k2, k3, k4, k5, k6, k7, k8⟩ := hW; have c0 := C0.out W k1; have hn0 : 0 < n := (by omega); go_simp; refine comes_v ?_; exact ⟨k1, k2, k3, k4, k5, k6, k7, k8⟩))
          (try simp only [Act.put, List.setIfInBounds_toArray, List.set_cons_zero, List.set_cons_succ])
          first | refine wpB_skip 6 rfl (by kernel_rfl) (by kernel_rfl) (by kernel_rfl) (by rfl) ?_ | (refine wpB_text 6 (v := .int .i64 s) rfl (by kernel_rfl) (by kernel_rfl) (by kernel_rfl) (by rfl) (fun W hW => ?_) ?_; (obtain ⟨k1, k2, k3, k4, k5, k6, k7, k8⟩ := hW; have c0 := C0.out W k1; have hn0 : 0 < n := (by omega); go_simp; exact comes_c ( T0.out _) (fun wn hbn => box6_keep ⟨k1, k2, k3, k4, k5, k6, k7, k8⟩ hbn)))
          (try simp only [Act.put, List.setIfInBounds_toArray, List.set_cons_zero, List.set_cons_succ])
          first | refine wpB_skip 7 rfl (by kernel_rfl) (by kernel_rfl) (by kernel_rfl) (by rfl) ?_ | (refine wpB_text 7 (v := ?_) rfl (by kernel_rfl) (by kernel_rfl) (by kernel_rfl) (by rfl) (fun W hW => ?_) ?_; rotate_left; (obtain ⟨k1, k2, k3, k4, k5, k6, k7, k8⟩ := hW; have c0 := C0.out W k1; have hn0 : 0 < n := (by omega); go_simp; refine comes_v ?_; exact ⟨k1, k2, k3, k4, k5, k6, k7, k8⟩))
          (try simp only [Act.put, List.setIfInBounds_toArray, List.set_cons_zero, List.set_cons_succ])
          first | refine wpB_skip 8 rfl (by kernel_rfl) (by kernel_rfl) (by kernel_rfl) (by rfl) ?_ | (refine wpB_text 8 (v := ?_) rfl (by kernel_rfl) (by kernel_rfl) (by kernel_rfl) (by rfl) (fun W hW => ?_) ?_; rotate_left; (obtain ⟨k1, k2, k3, k4, k5, k6, k7, k8⟩ := hW; have c0 := C0.out W k1; have hn0 : 0 < n := (by omega); go_simp; refine comes_v ?_; exact ⟨k1, k2, k3, k4, k5, k6, k7, k8⟩))
          (try simp only [Act.put, List.setIfInBounds_toArray, List.set_cons_zero, List.set_cons_succ])
          refine wpB_done (by kernel_rfl) ?_ _
          intro W hW; obtain ⟨k1, k2, k3, k4, k5, k6, k7, k8⟩ := hW
          go_wp2_with fail
          go_roundg (n - (k + 1))
          case measure => have := HGK.out; omega
          case rel => exact ⟨k + 1, by omega, rfl, by go_num, k1, hh2⟩
        · have hd : ((decide (0 < t)) == (decide (0 < s))) = false := by simp [hs]
          have hfl := Lib.hid (HN1.out hs)
          clear HN1 HN2
          refine wp_region_B (fun W => Below w2.heap.size w2 W ∧ wo.heap.size < W.heap.size ∧ W.cell? ⟨wo.heap.size, 0, none⟩ = some (.int .i64 (vx l k).1) ∧ W.cell? ⟨wo.heap.size, 1, none⟩ = some (.int .i64 (vx l k).2) ∧ W.cell? ⟨wo.heap.size, 2, none⟩ = some (.int .i64 (vx l (k + n - 1)).1) ∧ W.cell? ⟨wo.heap.size, 3, none⟩ = some (.int .i64 (vx l (k + n - 1)).2) ∧ W.cell? ⟨wo.heap.size, 4, none⟩ = some (.int .i64 (vx l (k + 1)).1) ∧ W.cell? ⟨wo.heap.size, 5, none⟩ = some (.int .i64 (vx l (k + 1)).2)) (by kernel_rfl) BX.out ?_
          clear hB hzB
          first | refine wpB_skip 0 rfl (by kernel_rfl) (by kernel_rfl) (by kernel_rfl) (by rfl) ?_ | (refine wpB_text 0 (v := ?_) rfl (by kernel_rfl) (by kernel_rfl) (by kernel_rfl) (by rfl) (fun W hW => ?_) ?_; rotate_left; (obtain ⟨k1, k2, k3, k4, k5, k6, k7, k8⟩ := hW; have c0 := C0.out W k1; have hn0 : 0 < n := (by omega); go_simp; refine comes_v ?_; exact ⟨k1, k2, k3, k4, k5, k6, k7, k8⟩))
          (try simp only [Act.put, List.setIfInBounds_toArray, List.set_cons_zero, List.set_cons_succ])
          first | refine wpB_skip 1 rfl (by kernel_rfl) (by kernel_rfl) (by kernel_rfl) (by rfl) ?_ | (refine wpB_text 1 (v := .int .i64 t) rfl (by kernel_rfl) (by kernel_rfl) (by kernel_rfl) (by rfl) (fun W hW => ?_) ?_; (obtain ⟨k1, k2, k3, k4, k5, k6, k7, k8⟩ := hW; have c0 := C0.out W k1; have hn0 : 0 < n := (by omega); go_simp; exact comes_c ( T.out _) (fun wn hbn => box6_keep ⟨k1, k2, k3, k4, k5, k6, k7, k8⟩ hbn)))
          (try simp only [Act.put, List.setIfInBounds_toArray, List.set_cons_zero, List.set_cons_succ])
          first | refine wpB_skip 2 rfl (by kernel_rfl) (by kernel_rfl) (by kernel_rfl) (by rfl) ?_ | (refine wpB_text 2 (v := ?_) rfl (by kernel_rfl) (by kernel_rfl) (by kernel_rfl) (by rfl) (fun W hW => ?_) ?_; rotate_left; (obtain ⟨k1, k2, k3, k4, k5, k6, k7, k8⟩ := hW; have c0 := C0.out W k1; have hn0 : 0 < n := (by omega); go_simp; refine comes_v ?_; exact ⟨k1, k2, k3, k4, k5, k6, k7, k8⟩))
          (try simp only [Act.put, List.setIfInBounds_toArray, List.set_cons_zero, List.set_cons_succ])
          first | refine wpB_skip 3 rfl (by kernel_rfl) (by kernel_rfl) (by kernel_rfl) (by rfl) ?_ | (refine wpB_text 3 (v := ?_) rfl (by kernel_rfl) (by kernel_rfl) (by kernel_rfl) (by rfl) (fun W hW => ?_) ?_; rotate_left; (obtain ⟨k1, k2, k3, k4, k5, k6, k7, k8⟩ := hW; have c0 := C0.out W k1; have hn0 : 0 < n := (by omega); go_simp; refine comes_v ?_; exact ⟨k1, k2, k3, k4, k5, k6, k7, k8⟩))
          (try simp only [Act.put, List.setIfInBounds_toArray, List.set_cons_zero, List.set_cons_succ])
          first | refine wpB_skip 4 rfl (by kernel_rfl) (by kernel_rfl) (by kernel_rfl) (by rfl) ?_ | (refine wpB_text 4 (v := ?_) rfl (by kernel_rfl) (by kernel_rfl) (by kernel_rfl) (by rfl) (fun W hW => ?_) ?_; rotate_left; (obtain ⟨k1, k2, k3, k4, k5, k6, k7, k8⟩ := hW; have c0 := C0.out W k1; have hn0 : 0 < n := (by omega); go_simp; refine comes_v ?_; exact ⟨k1, k2, k3, k4, k5, k6, k7, k8⟩))
          (try simp only [Act.put, List.setIfInBounds_toArray, List.set_cons_zero, List.set_cons_succ])
          first | refine wpB_skip 5 rfl (by kernel_rfl) (by kernel_rfl) (by kernel_rfl) (by rfl) ?_ | (refine wpB_text 5 (v := ?_) rfl (by kernel_rfl) (by kernel_rfl) (by kernel_rfl) (by rfl) (fun W hW => ?_) ?_; rotate_left; (obtain ⟨k1, k2, k3, k4, k5, k6, k7, k8⟩ := hW; have c0 := C0.out W k1; have hn0 : 0 < n := (by omega); go_simp; refine comes_v ?_; exact ⟨k1, k2, k3, k4, k5, k6, k7, k8⟩))
          (try simp only [Act.put, List.setIfInBounds_toArray, List.set_cons_zero, List.set_cons_succ])
          first | refine wpB_skip 6 rfl (by kernel_rfl) (by kernel_rfl) (by kernel_rfl) (by rfl) ?_ | (refine wpB_text 6 (v := .int .i64 s) rfl (by kernel_rfl) (by kernel_rfl) (by kernel_rfl) (by rfl) (fun W hW => ?_) ?_; (obtain ⟨k1, k2, k3, k4, k5, k6, k7, k8⟩ := hW; have c0 := C0.out W k1; have hn0 : 0 < n := (by omega); go_simp; exact comes_c ( T0.out _) (fun wn hbn => box6_keep ⟨k1, k2, k3, k4, k5, k6, k7, k8⟩ hbn)))
          (try simp only [Act.put, List.setIfInBounds_toArray, List.set_cons_zero, List.set_cons_succ])
          first | refine wpB_skip 7 rfl (by kernel_rfl) (by kernel_rfl) (by kernel_rfl) (by rfl) ?_ | (refine wpB_text 7 (v := ?_) rfl (by kernel_rfl) (by kernel_rfl) (by kernel_rfl) (by rfl) (fun W hW => ?_) ?_; rotate_left; (obtain ⟨k1, k2, k3, k4, k5, k6, k7, k8⟩ := hW; have c0 := C0.out W k1; have hn0 : 0 < n := (by omega); go_simp; refine comes_v ?_; exact ⟨k1, k2, k3, k4, k5, k6, k7, k8⟩))
          (try simp only [Act.put, List.setIfInBounds_toArray, List.set_cons_zero, List.set_cons_succ])
          first | refine wpB_skip 8 rfl (by kernel_rfl) (by kernel_rfl) (by kernel_rfl) (by rfl) ?_ | (refine wpB_text 8 (v := ?_) rfl (by kernel_rfl) (by kernel_rfl) (by kernel_rfl) (by rfl) (fun W hW => ?_) ?_; rotate_left; (obtain ⟨k1, k2, k3, k4, k5, k6, k7, k8⟩ := hW; have c0 := C0.out W k1; have hn0 : 0 < n := (by omega); go_simp; refine comes_v ?_; exact ⟨k1, k2, k3, k4, k5, k6, k7, k8⟩))
          (try simp only [Act.put, List.setIfInBounds_toArray, List.set_cons_zero, List.set_cons_succ])
          refine wpB_done (by kernel_rfl) ?_ _
          intro W hW; obtain ⟨k1, k2, k3, k4, k5, k6, k7, k8⟩ := hW
          go_wp2_with fail
          go_ret2
          exact ⟨ret_bb hfl.out.symm rfl, TR.out _ k1⟩
      · have hkn : n = k := by omega
        subst hkn
        have hy := Lib.hid (HY.out (fun i hi => hF.out i hi))
        have BB := Lib.hid (TR.out _ hB)
        go_wp2_with fail
        go_ret2
        exact ⟨ret_bb hy.out.symm rfl, BB.out⟩
  · have hgf := goodB_false hg
    rw [hgf] at K ⊢
    rw [bsl_false]
    clear hgf hg hR
    go_enter Try.func14, Try.ntmps14
    go_wp2_with fail
    refine K.out.mono ?_; rintro e w1 ⟨rfl, hb1⟩
    go_wp2_with fail
    go_ret2
    exact ⟨rfl, hb1⟩
end Go.Proofs.Ytjkfdcjfoliboaa
/- contract: where a point is, the model -/
namespace Go.Proofs.Ytjkfdcjfoliboaa
open Go.ChangeShapes Go.WideShapes Go.ChangeAt Go.RowKit Go.Joins
set_option linter.unusedVariables false
set_option linter.unusedSimpArgs false
set_option maxRecDepth 4000
theorem frozen_drew (W : World) (a : Addr) : (W.drew).frozen? a = W.frozen? a := rfl
set_option maxHeartbeats 4000000 in
theorem pgWhere_any (A : Option Addr) (c : Nat) (l : List (Int × Int)) (p1 p2 : Int) (w : World) (hg : Good l) (hp : Sz p1 p2) (hR : Rd w w.heap.size A l) :
    Calls Try.prog 43 #[.slice A l.length c, .agg #[.int .i64 p1, .int .i64 p2]] w fun e w' => e = .returned (.int .i64 (whN l (p1, p2))) ∧ Below w.heap.size w w' := by
  have h3 := hg.few.1
  have hn := hg.few.2
  obtain ⟨b, off, rfl, hb, HC⟩ := pts_of (by omega) hR
  have ZP := Lib.hid (fun i => pgs_sz hg.pegs i (by omega))
  have HON : Hid (∀ k, onE l (p1, p2) k = true → whN l (p1, p2) = 0) := Lib.hid (fun k h => whN_on (onE_bd h))
  have HX : Hid ((∀ k, k < l.length → onE l (p1, p2) k = false) → whN l (p1, p2) = if xsN l (p1, p2) l.length % 2 = 1 then 1 else -1) := Lib.hid (whN_xs hg)
  have HZ : Hid (decide (xsN l (p1, p2) 0 % 2 = 1) = false) := Lib.hid rfl
  clear hg hR
  generalize whN l (p1, p2) = r at *
  generalize hN : l.length = n at *
  have HN := Lib.hid hN
  clear hN
  go_enter Try.func43, Try.ntmps43
  go_wp2_with fail
  obtain ⟨Wa, hWa⟩ : ∃ Wa, Wa = (w.alloc (.cells #[.int .i64 p1, .int .i64 p2] 34)) := ⟨_, rfl⟩
  rw [← hWa]
  have yWa0_0 : Wa.cell? ⟨w.heap.size, 0, none⟩ = some (.int .i64 p1) := by rw [hWa]; go_simp
  have yWa0_1 : Wa.cell? ⟨w.heap.size, 1, none⟩ = some (.int .i64 p2) := by rw [hWa]; go_simp
  have fWa0 : ∀ o, Wa.frozen? ⟨w.heap.size, o, none⟩ = false := by intro o; rw [hWa]; (repeat rw [frozen?_alloc_cells]); simp [World.frozen?]
  have zWa0 : w.heap.size < Wa.heap.size := by rw [hWa]; simp <;> omega
  have BWa : Below w.heap.size w Wa := by rw [hWa]; exact (Below.alloc (Below.refl _ _) (by simp <;> omega) _)
  have eWa : Hid (Wa.heap.size = w.heap.size + 1) := Lib.hid (by rw [hWa]; simp)
  clear hWa
  clear fWa0 eWa
  go_loopg [5, 13] n (fun gg s i wr => ∃ k : Nat, k ≤ n ∧ gg = n - k ∧ i = .int .i64 k ∧ s = .bool (decide (xsN l (p1, p2) k % 2 = 1)) ∧ (Below w.heap.size w wr ∧ w.heap.size < wr.heap.size ∧ wr.cell? ⟨w.heap.size, 0, none⟩ = some (.int .i64 p1) ∧ wr.cell? ⟨w.heap.size, 1, none⟩ = some (.int .i64 p2)) ∧ Hid (∀ j, j < k → onE l (p1, p2) j = false))
  case atStart => exact ⟨0, Nat.zero_le _, rfl, rfl, by rw [HZ.out], ⟨BWa, zWa0, yWa0_0, yWa0_1⟩, Lib.hid (fun j h => absurd h (Nat.not_lt_zero _))⟩
  case round =>
    clear BWa zWa0 yWa0_0 yWa0_1
    obtain ⟨k, hk, hgg, rfl, rfl, ⟨BO, zo, x0, x1⟩, hF⟩ := hrel
    rename World => wo
    have HGK := Lib.hid hgg
    clear hgg
    by_cases hlt : k < n
    · have m1 : (k + 1) % n < n := Nat.mod_lt _ (by omega)
      obtain ⟨a1, a2, ha⟩ : ∃ a1 a2, vx l k = (a1, a2) := ⟨_, _, rfl⟩
      obtain ⟨b1, b2, hbb⟩ : ∃ b1 b2, vx l (k + 1) = (b1, b2) := ⟨_, _, rfl⟩
      have c0 : wo.cell? ⟨b, off + k * 2, none⟩ = some (.int .i64 a1) := by have := (HC.out wo BO k hlt).1; rw [ha] at this; exact this
      have c1 : wo.cell? ⟨b, off + k * 2 + 1, none⟩ = some (.int .i64 a2) := by have := (HC.out wo BO k hlt).2; rw [ha] at this; exact this
      have em : vx l ((k + 1) % n) = (b1, b2) := by rw [← HN.out, vx_per, hbb]
      have c2 : wo.cell? ⟨b, off + (k + 1) % n * 2, none⟩ = some (.int .i64 b1) := by have := (HC.out wo BO _ m1).1; rw [em] at this; exact this
      have c3 : wo.cell? ⟨b, off + (k + 1) % n * 2 + 1, none⟩ = some (.int .i64 b2) := by have := (HC.out wo BO _ m1).2; rw [em] at this; exact this
      have za : Sz a1 a2 := by have := ZP.out k; rw [ha] at this; exact this
      have zb : Sz b1 b2 := by have := ZP.out (k + 1); rw [hbb] at this; exact this
      have KO := Lib.hid (fun W => pgOn_any a1 a2 b1 b2 p1 p2 W za zb hp)
      have TA := Lib.hid (fun W => pgTurn_any a1 a2 b1 b2 p1 p2 W za zb hp)
      have TB := Lib.hid (fun W => pgTurn_any b1 b2 a1 a2 p1 p2 W zb za hp)
      have eon : onE l (p1, p2) k = onB a1 a2 b1 b2 p1 p2 := by unfold onE; rw [ha, hbb]
      have HON2 : Hid (onB a1 a2 b1 b2 p1 p2 = true → r = 0) := Lib.hid (fun h => HON.out k (eon.trans h))
      have HF2 : Hid (onB a1 a2 b1 b2 p1 p2 = false → ∀ j, j < k + 1 → onE l (p1, p2) j = false) := Lib.hid (fun h j hj => by
        by_cases e : j = k
        · subst e; exact eon.trans h
        · exact hF.out j (by omega))
      have ecr : crN l (p1, p2) k = MJ.cr (a1, a2) (b1, b2) (p1, p2) := by unfold crN; rw [ha, hbb]
      have XA1 : Hid (a2 ≤ b2 → (a2 ≤ p2 ∧ p2 < b2 ∧ 0 < twI a1 a2 b1 b2 p1 p2) → decide (xsN l (p1, p2) (k + 1) % 2 = 1) = !decide (xsN l (p1, p2) k % 2 = 1)) := Lib.hid (fun h h' => xs_step1 (.inl (ecr.trans ((cr_low (a := (a1, a2)) (b := (b1, b2)) (p := (p1, p2)) h).1.2 h'))))
      have XA0 : Hid (a2 ≤ b2 → ¬ (a2 ≤ p2 ∧ p2 < b2 ∧ 0 < twI a1 a2 b1 b2 p1 p2) → decide (xsN l (p1, p2) (k + 1) % 2 = 1) = decide (xsN l (p1, p2) k % 2 = 1)) := Lib.hid (fun h h' => xs_step0 (ecr.trans ((cr_low (a := (a1, a2)) (b := (b1, b2)) (p := (p1, p2)) h).2 h')))
      have XB1 : Hid (b2 < a2 → (b2 ≤ p2 ∧ p2 < a2 ∧ 0 < twI b1 b2 a1 a2 p1 p2) → decide (xsN l (p1, p2) (k + 1) % 2 = 1) = !decide (xsN l (p1, p2) k % 2 = 1)) := Lib.hid (fun h h' => xs_step1 (.inr (ecr.trans ((cr_high (a := (a1, a2)) (b := (b1, b2)) (p := (p1, p2)) h).1.2 h'))))
      have XB0 : Hid (b2 < a2 → ¬ (b2 ≤ p2 ∧ p2 < a2 ∧ 0 < twI b1 b2 a1 a2 p1 p2) → decide (xsN l (p1, p2) (k + 1) % 2 = 1) = decide (xsN l (p1, p2) k % 2 = 1)) := Lib.hid (fun h h' => xs_step0 (ecr.trans ((cr_high (a := (a1, a2)) (b := (b1, b2)) (p := (p1, p2)) h).2 h')))
      clear ha hbb em za zb eon ecr hF
      generalize onB a1 a2 b1 b2 p1 p2 = ob at *
      generalize decide (xsN l (p1, p2) k % 2 = 1) = bk at *
      have i1 : IntKind.i64.wrap ((k : Int) + 1) = (k : Int) + 1 := IntWalk.i64_in _ (by omega)
      have i2 : ¬ n = 0 := by omega
      have i3 : (0 : Int) ≤ ((k : Int) + 1) % (n : Int) := Int.emod_nonneg _ (by omega)
      have i4 : ((k : Int) + 1) % (n : Int) < (n : Int) := Int.emod_lt_of_pos _ (by omega)
      have i5 : ((k : Int) + 1).tmod (n : Int) = ((k : Int) + 1) % (n : Int) := Int.tmod_eq_emod_of_nonneg (by omega)
      have i6 : (((k : Int) + 1) % (n : Int)).toNat = (k + 1) % n := by rw [show ((k : Int) + 1) % (n : Int) = (((k + 1) % n : Nat) : Int) by simp]; exact Int.toNat_natCast _
      have hzB := BO.size
      have hbo : b < wo.heap.size := by omega
      have hne : ¬ b = wo.heap.size := by omega
      go_wp2_with fail
      obtain ⟨Wb, hWb⟩ : ∃ Wb, Wb = ((wo.alloc (.cells #[.int .i64 a1, .int .i64 a2] 34)).alloc (.cells #[.int .i64 b1, .int .i64 b2] 34)) := ⟨_, rfl⟩
      rw [← hWb]
      have yWb0_0 : Wb.cell? ⟨wo.heap.size, 0, none⟩ = some (.int .i64 a1) := by rw [hWb]; go_simp
      have yWb0_1 : Wb.cell? ⟨wo.heap.size, 1, none⟩ = some (.int .i64 a2) := by rw [hWb]; go_simp
      have fWb0 : ∀ o, Wb.frozen? ⟨wo.heap.size, o, none⟩ = false := by intro o; rw [hWb]; (repeat rw [frozen?_alloc_cells]); simp [World.frozen?]
      have zWb0 : wo.heap.size < Wb.heap.size := by rw [hWb]; simp <;> omega
      have yWb1_0 : Wb.cell? ⟨wo.heap.size + 1, 0, none⟩ = some (.int .i64 b1) := by rw [hWb]; go_simp
      have yWb1_1 : Wb.cell? ⟨wo.heap.size + 1, 1, none⟩ = some (.int .i64 b2) := by rw [hWb]; go_simp
      have fWb1 : ∀ o, Wb.frozen? ⟨wo.heap.size + 1, o, none⟩ = false := by intro o; rw [hWb]; (repeat rw [frozen?_alloc_cells]); simp [World.frozen?]
      have zWb1 : wo.heap.size + 1 < Wb.heap.size := by rw [hWb]; simp <;> omega
      have BWb : Below wo.heap.size wo Wb := by rw [hWb]; exact (Below.alloc (Below.alloc (Below.refl _ _) (by simp <;> omega) _) (by simp <;> omega) _)
      have eWb : Hid (Wb.heap.size = wo.heap.size + 2) := Lib.hid (by rw [hWb]; simp)
      clear hWb
      have yb0 : Wb.cell? ⟨w.heap.size, 0, none⟩ = some (.int .i64 p1) := ((bcell BWb).1 _ _ zo).trans x0
      have yb1 : Wb.cell? ⟨w.heap.size, 1, none⟩ = some (.int .i64 p2) := ((bcell BWb).1 _ _ zo).trans x1
      have zpb : w.heap.size < Wb.heap.size := by have := BWb.size; omega
      have BB : Below w.heap.size w Wb := BO.trans (BWb.mono BO.size)
      clear c0 c1 c2 c3 i1 i3 i4 i5 i6 x0 x1 BO BWb fWb0 fWb1 eWb hne hbo
      refine (KO.out Wb).mono ?_; rintro e w2 ⟨rfl, hb2⟩
      have v0 := ((bcell hb2).1 _ _ zWb0).trans yWb0_0
      have v1 := ((bcell hb2).1 _ _ zWb0).trans yWb0_1
      have v2 := ((bcell hb2).1 _ _ zWb1).trans yWb1_0
      have v3 := ((bcell hb2).1 _ _ zWb1).trans yWb1_1
      have z2 := hb2.size
      have za2 : wo.heap.size < w2.heap.size := by omega
      have zb2 : wo.heap.size + 1 < w2.heap.size := by omega
      have u0 := ((bcell hb2).1 _ _ zpb).trans yb0
      have u1 := ((bcell hb2).1 _ _ zpb).trans yb1
      have BB2 := BB.trans (hb2.mono BB.size)
      clear hb2 BB yb0 yb1 yWb0_0 yWb0_1 yWb1_0 yWb1_1 KO
      cases ob
      · have HF3 := Lib.hid (HF2.out rfl)
        clear HF2 HON2
        have HF2 := HF3
        clear HF3
        go_upto_region 8 with fail
        go_cut [9, 10] from 30 to 31 (fun q r wx => ∃ g h : Nat, q = .pointer (some ⟨g, 0, none⟩) ∧ r = .pointer (some ⟨h, 0, none⟩) ∧ Below w2.heap.size w2 wx ∧ w2.heap.size ≤ g ∧ w2.heap.size ≤ h ∧ g ≠ h ∧ g < wx.heap.size ∧ h < wx.heap.size ∧ wx.cell? ⟨g, 0, none⟩ = some (.int .i64 a1) ∧ wx.cell? ⟨g, 1, none⟩ = some (.int .i64 a2) ∧ wx.cell? ⟨h, 0, none⟩ = some (.int .i64 b1) ∧ wx.cell? ⟨h, 1, none⟩ = some (.int .i64 b2) ∧ (∀ o, wx.frozen? ⟨g, o, none⟩ = false) ∧ ∀ o, wx.frozen? ⟨h, o, none⟩ = false)
        case first =>
          clear XA1 XA0 XB1 XB0 TA TB
          go_region
          all_goals
            go_wp2_with fail
            go_meet
            case rel =>
              refine ⟨_, _, rfl, rfl, ?_, by simp <;> omega, by simp <;> omega, by simp <;> omega, by simp <;> omega, by simp <;> omega, by go_simp, by go_simp, by go_simp, by go_simp, ?_, ?_⟩
              · repeat (first | with_reducible assumption | with_reducible exact Below.refl _ _ | with_reducible apply Below.drew | ((with_reducible refine Below.setCell ?_ ?_ _); rotate_left; (first | exact Nat.le_refl _ | omega | (simp <;> omega))) | ((with_reducible refine Below.alloc ?_ ?_ _); rotate_left; (first | omega | (simp <;> omega))))
              · intro o; (try simp only [World.frozen?_setCell]); (try rw [frozen_drew]); (repeat rw [frozen?_alloc_cells]); simp [World.frozen?]
              · intro o; (try simp only [World.frozen?_setCell]); (try rw [frozen_drew]); (repeat rw [frozen?_alloc_cells]); simp [World.frozen?]
        case rest =>
        obtain ⟨g, h, rfl, rfl, q1, g1, g2, gh, g3, g4, q2, q3, q4, q5, f1, f2⟩ := hcut
        rename World => wc
        have va0 := ((bcell q1).1 _ _ za2).trans v0
        have va1 := ((bcell q1).1 _ _ za2).trans v1
        have vb0 := ((bcell q1).1 _ _ zb2).trans v2
        have vb1 := ((bcell q1).1 _ _ zb2).trans v3
        have zc := q1.size
        have zac : wo.heap.size < wc.heap.size := by omega
        have zbc : wo.heap.size + 1 < wc.heap.size := by omega
        clear v0 v1 v2 v3
        have e0 := f1 0
        have e1 := f1 1
        have e2 := f2 0
        have e3 := f2 1
        clear f1 f2
        have hp2 : w.heap.size < w2.heap.size := by omega
        by_cases hsw : b2 < a2
        · have HX1 := Lib.hid (XB1.out hsw)
          have HX0 := Lib.hid (XB0.out hsw)
          have T := TB
          clear XA1 XA0 XB1 XB0 TA TB
          generalize twI b1 b2 a1 a2 p1 p2 = t at *
          go_upto_region 12 with fail
          obtain ⟨w4, hw4, r1, r0, r2, r3, r4, r5, q6⟩ := two_set (a1 := a1) (a2 := a2) (b1 := b1) (b2 := b2) gh g1 g2 q1 q2 q3 q4 q5
          rw [← hw4]
          clear hw4 q1 q2 q3 q4 q5 e0 e1 e2 e3 va0 va1 vb0 vb1
          have q1 := r1
          have q2 := r2
          have q3 := r3
          have q4 := r4
          have q5 := r5
          clear r1 r2 r3 r4 r5
          have y0 : w4.cell? ⟨w.heap.size, 0, none⟩ = some (.int .i64 p1) := (q6 _ _ hp2).trans u0
          have y1 : w4.cell? ⟨w.heap.size, 1, none⟩ = some (.int .i64 p2) := (q6 _ _ hp2).trans u1
          have zg : g < w4.heap.size := by omega
          have zh : h < w4.heap.size := by omega
          have zp : w.heap.size < w4.heap.size := by omega
          have B4 : Below w.heap.size w w4 := BB2.trans (q1.mono (by omega))
          clear q6 q1 u0 u1 BB2
          by_cases d1 : b2 ≤ p2
          · by_cases d2 : p2 < a2
            · have TT := Lib.hid (fun W => T.out W)
              by_cases d3 : 0 < t
              · have hst := Lib.hid (HX1.out ⟨d1, d2, d3⟩)
                clear HX1 HX0
                go_wp2_with fail
                refine (TT.out w4).mono ?_; rintro e w5 ⟨rfl, hb5⟩
                have B5 := B4.trans (hb5.mono B4.size)
                have z5 := hb5.size
                have v0 := ((bcell hb5).1 _ _ zp).trans y0
                have v1 := ((bcell hb5).1 _ _ zp).trans y1
                clear hb5 y0 y1 B4 q2 q3 q4 q5
                go_wp2_with fail
                go_roundg (n - (k + 1))
                case measure => have := HGK.out; omega
                case rel => exact ⟨k + 1, by omega, rfl, by go_num, by rw [hst.out], ⟨B5, by omega, v0, v1⟩, HF2⟩
              · have hst := Lib.hid (HX0.out (fun h => d3 h.2.2))
                clear HX1 HX0
                go_wp2_with fail
                refine (TT.out w4).mono ?_; rintro e w5 ⟨rfl, hb5⟩
                have B5 := B4.trans (hb5.mono B4.size)
                have z5 := hb5.size
                have v0 := ((bcell hb5).1 _ _ zp).trans y0
                have v1 := ((bcell hb5).1 _ _ zp).trans y1
                clear hb5 y0 y1 B4 q2 q3 q4 q5
                go_wp2_with fail
                go_roundg (n - (k + 1))
                case measure => have := HGK.out; omega
                case rel => exact ⟨k + 1, by omega, rfl, by go_num, by rw [hst.out], ⟨B5, by omega, v0, v1⟩, HF2⟩
            · have hst := Lib.hid (HX0.out (fun h => d2 h.2.1))
              clear HX1 HX0
              go_wp2_with fail
              go_roundg (n - (k + 1))
              case measure => have := HGK.out; omega
              case rel => exact ⟨k + 1, by omega, rfl, by go_num, by rw [hst.out], ⟨B4, by omega, y0, y1⟩, HF2⟩
          · have hst := Lib.hid (HX0.out (fun h => d1 h.1))
            clear HX1 HX0
            go_wp2_with fail
            go_roundg (n - (k + 1))
            case measure => have := HGK.out; omega
            case rel => exact ⟨k + 1, by omega, rfl, by go_num, by rw [hst.out], ⟨B4, by omega, y0, y1⟩, HF2⟩
        · have hns : a2 ≤ b2 := by omega
          have HX1 := Lib.hid (XA1.out hns)
          have HX0 := Lib.hid (XA0.out hns)
          have T := TA
          clear XA1 XA0 XB1 XB0 TA TB
          generalize twI a1 a2 b1 b2 p1 p2 = t at *
          go_upto_region 12 with fail
          have q6 : ∀ x o, x < w2.heap.size → wc.cell? ⟨x, o, none⟩ = w2.cell? ⟨x, o, none⟩ := fun x o hx => (bcell q1).1 x o hx
          rename World => w4
          clear e0 e1 e2 e3 va0 va1 vb0 vb1
          have y0 : w4.cell? ⟨w.heap.size, 0, none⟩ = some (.int .i64 p1) := (q6 _ _ hp2).trans u0
          have y1 : w4.cell? ⟨w.heap.size, 1, none⟩ = some (.int .i64 p2) := (q6 _ _ hp2).trans u1
          have zg : g < w4.heap.size := by omega
          have zh : h < w4.heap.size := by omega
          have zp : w.heap.size < w4.heap.size := by omega
          have B4 : Below w.heap.size w w4 := BB2.trans (q1.mono (by omega))
          clear q6 q1 u0 u1 BB2
          by_cases d1 : a2 ≤ p2
          · by_cases d2 : p2 < b2
            · have TT := Lib.hid (fun W => T.out W)
              by_cases d3 : 0 < t
              · have hst := Lib.hid (HX1.out ⟨d1, d2, d3⟩)
                clear HX1 HX0
                go_wp2_with fail
                refine (TT.out w4).mono ?_; rintro e w5 ⟨rfl, hb5⟩
                have B5 := B4.trans (hb5.mono B4.size)
                have z5 := hb5.size
                have v0 := ((bcell hb5).1 _ _ zp).trans y0
                have v1 := ((bcell hb5).1 _ _ zp).trans y1
                clear hb5 y0 y1 B4 q2 q3 q4 q5
                go_wp2_with fail
                go_roundg (n - (k + 1))
                case measure => have := HGK.out; omega
                case rel => exact ⟨k + 1, by omega, rfl, by go_num, by rw [hst.out], ⟨B5, by omega, v0, v1⟩, HF2⟩
              · have hst := Lib.hid (HX0.out (fun h => d3 h.2.2))
                clear HX1 HX0
                go_wp2_with fail
                refine (TT.out w4).mono ?_; rintro e w5 ⟨rfl, hb5⟩
                have B5 := B4.trans (hb5.mono B4.size)
                have z5 := hb5.size
                have v0 := ((bcell hb5).1 _ _ zp).trans y0
                have v1 := ((bcell hb5).1 _ _ zp).trans y1
                clear hb5 y0 y1 B4 q2 q3 q4 q5
                go_wp2_with fail
                go_roundg (n - (k + 1))
                case measure => have := HGK.out; omega
                case rel => exact ⟨k + 1, by omega, rfl, by go_num, by rw [hst.out], ⟨B5, by omega, v0, v1⟩, HF2⟩
            · have hst := Lib.hid (HX0.out (fun h => d2 h.2.1))
              clear HX1 HX0
              go_wp2_with fail
              go_roundg (n - (k + 1))
              case measure => have := HGK.out; omega
              case rel => exact ⟨k + 1, by omega, rfl, by go_num, by rw [hst.out], ⟨B4, by omega, y0, y1⟩, HF2⟩
          · have hst := Lib.hid (HX0.out (fun h => d1 h.1))
            clear HX1 HX0
            go_wp2_with fail
            go_roundg (n - (k + 1))
            case measure => have := HGK.out; omega
            case rel => exact ⟨k + 1, by omega, rfl, by go_num, by rw [hst.out], ⟨B4, by omega, y0, y1⟩, HF2⟩
      · have hr := Lib.hid (HON2.out rfl)
        go_wp2_with fail
        go_ret
        exact ⟨ret_int hr.out.symm, BB2⟩
    · have hkn : n = k := by omega
      subst hkn
      have hy := Lib.hid (HX.out (fun j hj => hF.out j hj))
      by_cases hx : xsN l (p1, p2) n % 2 = 1
      · have hd := decide_eq_true hx
        rw [if_pos hx] at hy
        rw [hd]
        clear hx hd
        go_wp2_with fail
        go_ret
        exact ⟨ret_int hy.out.symm, BO⟩
      · have hd := decide_eq_false hx
        rw [if_neg hx] at hy
        rw [hd]
        clear hx hd
        go_wp2_with fail
        go_ret
        exact ⟨ret_int hy.out.symm, BO⟩
end Go.Proofs.Ytjkfdcjfoliboaa
/- contract: where a point is, the program -/
namespace Go.Proofs.Ytjkfdcjfoliboaa
open Go.ChangeShapes Go.WideShapes Go.ChangeAt Go.RowKit Go.Joins
set_option linter.unusedVariables false
set_option linter.unusedSimpArgs false
set_option maxRecDepth 4000
theorem cr_one {a b p : Int × Int} (h : a.2 ≤ p.2 ∧ p.2 < b.2 ∧ 0 < twP a b p) : MJ.cr a b p = 1 := by
  unfold MJ.cr; rw [tw_is, if_pos h]
theorem cr_neg {a b p : Int × Int} (h : b.2 ≤ p.2 ∧ p.2 < a.2 ∧ twP a b p < 0) : MJ.cr a b p = -1 := by
  unfold MJ.cr; rw [tw_is, if_neg (by omega), if_pos h]
theorem cr_nil {a b p : Int × Int} (h : ¬ (a.2 ≤ p.2 ∧ p.2 < b.2 ∧ 0 < twP a b p)) (h' : ¬ (b.2 ≤ p.2 ∧ p.2 < a.2 ∧ twP a b p < 0)) : MJ.cr a b p = 0 := by
  unfold MJ.cr; rw [tw_is, if_neg h, if_neg h']
theorem wn_bd (l : List (Int × Int)) (p : Int × Int) (k : Nat) : -(k : Int) ≤ wnN l p k ∧ wnN l p k ≤ k := by
  induction k with
  | zero => exact ⟨by simp [wnN, MJ.sm], by simp [wnN, MJ.sm]⟩
  | succ k ih =>
    have e : wnN l p (k + 1) = wnN l p k + crN l p k := rfl
    have : crN l p k = 0 ∨ crN l p k = 1 ∨ crN l p k = -1 := by
      unfold crN MJ.cr; (repeat' split) <;> simp
    omega
set_option maxHeartbeats 4000000 in
theorem placeIn_any (A : Option Addr) (c : Nat) (l : List (Int × Int)) (p1 p2 : Int) (w : World) (hg : Good l) (hp : Sz p1 p2) (hR : Rd w w.heap.size A l) :
    Calls Try.prog 45 #[.slice A l.length c, .agg #[.int .i64 p1, .int .i64 p2]] w fun e w' => e = .returned (.int .i64 (whN l (p1, p2))) ∧ Below w.heap.size w w' := by
  have h3 := hg.few.1
  have h10 := hg.few.2
  have KC := Lib.hid (fun W (hb : Below w.heap.size w W) => cornersAround_any A c l W (by omega) (by omega) (rd_more (rd_below hR hb (Nat.le_refl _)) hb.size))
  have ZP := Lib.hid (fun i => pgs_sz hg.pegs i (by omega))
  have HON : Hid (∀ k, onE l (p1, p2) k = true → whN l (p1, p2) = 0) := Lib.hid (fun k h => whN_on (onE_bd h))
  have HX : Hid ((∀ k, k < l.length → onE l (p1, p2) k = false) → whN l (p1, p2) = if wnN l (p1, p2) l.length = 0 then -1 else 1) := Lib.hid (fun h => whN_wn (by omega) h)
  have HBD := Lib.hid (fun k => wn_bd l (p1, p2) k)
  have HZ : Hid (wnN l (p1, p2) 0 = 0) := Lib.hid rfl
  clear hg hR
  generalize whN l (p1, p2) = r at *
  generalize hN : l.length = n at *
  have HN := Lib.hid hN
  clear hN
  go_enter Try.func45, Try.ntmps45
  go_wp2_with fail
  obtain ⟨Wa, hWa⟩ : ∃ Wa, Wa = (w.alloc (.cells #[.int .i64 p1, .int .i64 p2] 34)) := ⟨_, rfl⟩
  rw [← hWa]
  have yWa0_0 : Wa.cell? ⟨w.heap.size, 0, none⟩ = some (.int .i64 p1) := by rw [hWa]; go_simp
  have yWa0_1 : Wa.cell? ⟨w.heap.size, 1, none⟩ = some (.int .i64 p2) := by rw [hWa]; go_simp
  have fWa0 : ∀ o, Wa.frozen? ⟨w.heap.size, o, none⟩ = false := by intro o; rw [hWa]; (repeat rw [frozen?_alloc_cells]); simp [World.frozen?]
  have zWa0 : w.heap.size < Wa.heap.size := by rw [hWa]; simp <;> omega
  have BWa : Below w.heap.size w Wa := by rw [hWa]; exact (Below.alloc (Below.refl _ _) (by simp <;> omega) _)
  have eWa : Hid (Wa.heap.size = w.heap.size + 1) := Lib.hid (by rw [hWa]; simp)
  clear hWa
  clear fWa0 eWa
  refine (KC.out Wa BWa).mono ?_; rintro e w2 ⟨rfl, hb2, hSC⟩
  have B2 : Below w.heap.size w w2 := BWa.trans (hb2.mono BWa.size)
  obtain ⟨g, hg⟩ : ∃ g, g = Wa.heap.size := ⟨_, rfl⟩
  rw [← hg] at hSC ⊢
  have hgs : g < w2.heap.size := hSC.1
  have CE : Hid (∀ W, Below w2.heap.size w2 W → ∀ i, i < n → (W.cell? ⟨g, i * 6, none⟩ = some (.int .i64 (vx l i).1) ∧ W.cell? ⟨g, i * 6 + 1, none⟩ = some (.int .i64 (vx l i).2) ∧ W.cell? ⟨g, i * 6 + 2, none⟩ = some (.int .i64 (vx l (i + n - 1)).1) ∧ W.cell? ⟨g, i * 6 + 3, none⟩ = some (.int .i64 (vx l (i + n - 1)).2) ∧ W.cell? ⟨g, i * 6 + 4, none⟩ = some (.int .i64 (vx l (i + 1)).1) ∧ W.cell? ⟨g, i * 6 + 5, none⟩ = some (.int .i64 (vx l (i + 1)).2))) := Lib.hid (fun W hW i hi => by
    obtain ⟨c0, c1, c2, c3, c4, c5⟩ := hSC.2.2 i hi
    have hc := (bcell hW).1
    exact ⟨(hc _ _ hgs).trans c0, (hc _ _ hgs).trans c1, (hc _ _ hgs).trans c2, (hc _ _ hgs).trans c3, (hc _ _ hgs).trans c4, (hc _ _ hgs).trans c5⟩)
  have TR : Hid (∀ W, Below w2.heap.size w2 W → Below w.heap.size w W) := Lib.hid (fun W hW => B2.trans (hW.mono B2.size))
  have P0 : Hid (∀ W, Below w2.heap.size w2 W → W.cell? ⟨w.heap.size, 0, none⟩ = some (.int .i64 p1) ∧ W.cell? ⟨w.heap.size, 1, none⟩ = some (.int .i64 p2)) := Lib.hid (fun W hW => by
    have z : w.heap.size < w2.heap.size := Nat.lt_of_lt_of_le zWa0 hb2.size
    exact ⟨((bcell hW).1 _ _ z).trans (((bcell hb2).1 _ _ zWa0).trans yWa0_0), ((bcell hW).1 _ _ z).trans (((bcell hb2).1 _ _ zWa0).trans yWa0_1)⟩)
  have zp2 : w.heap.size < w2.heap.size := Nat.lt_of_lt_of_le zWa0 hb2.size
  clear KC hb2 hSC B2 hg BWa zWa0 yWa0_0 yWa0_1
  go_wp2_with fail
  go_loopg [5, 12] n (fun gg s i wr => ∃ k : Nat, k ≤ n ∧ gg = n - k ∧ i = .int .i64 k ∧ s = .int .i64 (wnN l (p1, p2) k) ∧ Below w2.heap.size w2 wr ∧ Hid (∀ j, j < k → onE l (p1, p2) j = false))
  case atStart => exact ⟨0, Nat.zero_le _, rfl, rfl, by rw [HZ.out], Below.refl _ _, Lib.hid (fun j h => absurd h (Nat.not_lt_zero _))⟩
  case round =>
    obtain ⟨k, hk, hgg, rfl, rfl, hB, hF⟩ := hrel
    rename World => wo
    have HGK := Lib.hid hgg
    clear hgg
    by_cases hlt : k < n
    · obtain ⟨a1, a2, ha⟩ : ∃ a1 a2, vx l k = (a1, a2) := ⟨_, _, rfl⟩
      obtain ⟨b1, b2, hbb⟩ : ∃ b1 b2, vx l (k + 1) = (b1, b2) := ⟨_, _, rfl⟩
      obtain ⟨f1, f2, hff⟩ : ∃ f1 f2, vx l (k + n - 1) = (f1, f2) := ⟨_, _, rfl⟩
      obtain ⟨x0, x1, x2, x3, x4, x5⟩ := CE.out wo hB k hlt
      rw [ha] at x0 x1
      rw [hff] at x2 x3
      rw [hbb] at x4 x5
      simp only [] at x0 x1 x2 x3 x4 x5
      have za : Sz a1 a2 := by have := ZP.out k; rw [ha] at this; exact this
      have zb : Sz b1 b2 := by have := ZP.out (k + 1); rw [hbb] at this; exact this
      have KO := Lib.hid (fun W => isBetween_any p1 p2 a1 a2 b1 b2 W hp za zb)
      have KT := Lib.hid (fun W => twiceThree_any a1 a2 b1 b2 p1 p2 W za zb hp)
      have eon : onE l (p1, p2) k = onB a1 a2 b1 b2 p1 p2 := by unfold onE; rw [ha, hbb]
      have HON2 : Hid (onB a1 a2 b1 b2 p1 p2 = true → r = 0) := Lib.hid (fun h => HON.out k (eon.trans h))
      have HF2 : Hid (onB a1 a2 b1 b2 p1 p2 = false → ∀ j, j < k + 1 → onE l (p1, p2) j = false) := Lib.hid (fun h j hj => by
        by_cases e : j = k
        · subst e; exact eon.trans h
        · exact hF.out j (by omega))
      have ecr : wnN l (p1, p2) (k + 1) = wnN l (p1, p2) k + MJ.cr (a1, a2) (b1, b2) (p1, p2) := by have e : wnN l (p1, p2) (k + 1) = wnN l (p1, p2) k + crN l (p1, p2) k := rfl; rw [e]; unfold crN; rw [ha, hbb]
      have H1 : Hid ((a2 ≤ p2 ∧ p2 < b2 ∧ 0 < twI a1 a2 b1 b2 p1 p2) → wnN l (p1, p2) (k + 1) = wnN l (p1, p2) k + 1) := Lib.hid (fun h => by rw [ecr, cr_one (a := (a1, a2)) (b := (b1, b2)) (p := (p1, p2)) h])
      have HM : Hid ((b2 ≤ p2 ∧ p2 < a2 ∧ twI a1 a2 b1 b2 p1 p2 < 0) → wnN l (p1, p2) (k + 1) = wnN l (p1, p2) k - 1) := Lib.hid (fun h => by rw [ecr, cr_neg (a := (a1, a2)) (b := (b1, b2)) (p := (p1, p2)) h]; omega)
      have H0 : Hid (¬ (a2 ≤ p2 ∧ p2 < b2 ∧ 0 < twI a1 a2 b1 b2 p1 p2) → ¬ (b2 ≤ p2 ∧ p2 < a2 ∧ twI a1 a2 b1 b2 p1 p2 < 0) → wnN l (p1, p2) (k + 1) = wnN l (p1, p2) k) := Lib.hid (fun h h' => by rw [ecr, cr_nil (a := (a1, a2)) (b := (b1, b2)) (p := (p1, p2)) h h', Int.add_zero])
      have hbd := HBD.out k
      clear ha hbb hff za zb eon ecr hF
      generalize onB a1 a2 b1 b2 p1 p2 = ob at *
      generalize twI a1 a2 b1 b2 p1 p2 = t at *
      generalize wnN l (p1, p2) k = q at *
      obtain ⟨qb1, qb2⟩ := hbd
      obtain ⟨y0, y1⟩ := P0.out wo hB
      have hzB := hB.size
      have hgo : g < wo.heap.size := by omega
      have zpo : w.heap.size < wo.heap.size := by omega
      go_wp2_with fail
      obtain ⟨Wb, hWb⟩ : ∃ Wb, Wb = (wo.alloc (.cells #[.int .i64 a1, .int .i64 a2, .int .i64 f1, .int .i64 f2, .int .i64 b1, .int .i64 b2] 49)) := ⟨_, rfl⟩
      rw [← hWb]
      have yWb0_0 : Wb.cell? ⟨wo.heap.size, 0, none⟩ = some (.int .i64 a1) := by rw [hWb]; go_simp
      have yWb0_1 : Wb.cell? ⟨wo.heap.size, 1, none⟩ = some (.int .i64 a2) := by rw [hWb]; go_simp
      have yWb0_2 : Wb.cell? ⟨wo.heap.size, 2, none⟩ = some (.int .i64 f1) := by rw [hWb]; go_simp
      have yWb0_3 : Wb.cell? ⟨wo.heap.size, 3, none⟩ = some (.int .i64 f2) := by rw [hWb]; go_simp
      have yWb0_4 : Wb.cell? ⟨wo.heap.size, 4, none⟩ = some (.int .i64 b1) := by rw [hWb]; go_simp
      have yWb0_5 : Wb.cell? ⟨wo.heap.size, 5, none⟩ = some (.int .i64 b2) := by rw [hWb]; go_simp
      have fWb0 : ∀ o, Wb.frozen? ⟨wo.heap.size, o, none⟩ = false := by intro o; rw [hWb]; (repeat rw [frozen?_alloc_cells]); simp [World.frozen?]
      have zWb0 : wo.heap.size < Wb.heap.size := by rw [hWb]; simp <;> omega
      have BWb : Below wo.heap.size wo Wb := by rw [hWb]; exact (Below.alloc (Below.refl _ _) (by simp <;> omega) _)
      have eWb : Hid (Wb.heap.size = wo.heap.size + 1) := Lib.hid (by rw [hWb]; simp)
      clear hWb
      have BB : Below w2.heap.size w2 Wb := hB.trans (BWb.mono hzB)
      have zpb : w.heap.size < Wb.heap.size := by have := BWb.size; omega
      have hzW := BB.size
      clear x0 x1 x2 x3 x4 x5 y0 y1 fWb0 eWb hB BWb yWb0_2 yWb0_3
      refine (KO.out Wb).mono ?_; rintro e w3 ⟨rfl, hb3⟩
      have B3 := BB.trans (hb3.mono hzW)
      have v0 := ((bcell hb3).1 _ _ zWb0).trans yWb0_0
      have v1 := ((bcell hb3).1 _ _ zWb0).trans yWb0_1
      have v4 := ((bcell hb3).1 _ _ zWb0).trans yWb0_4
      have v5 := ((bcell hb3).1 _ _ zWb0).trans yWb0_5
      obtain ⟨y0, y1⟩ := P0.out w3 B3
      have z3 := hb3.size
      have zb3 : wo.heap.size < w3.heap.size := by omega
      have zp3 : w.heap.size < w3.heap.size := by omega
      clear hb3 BB yWb0_0 yWb0_1 yWb0_4 yWb0_5 KO zWb0 zpb
      cases ob
      · have HF3 := Lib.hid (HF2.out rfl)
        clear HF2 HON2
        have hz3 := B3.size
        go_wp2_with fail
        refine (KT.out w3).mono ?_; rintro e w4 ⟨rfl, hb4⟩
        have B4 := B3.trans (hb4.mono hz3)
        have u1 := ((bcell hb4).1 _ _ zb3).trans v1
        have u5 := ((bcell hb4).1 _ _ zb3).trans v5
        clear y0 y1
        obtain ⟨y0, y1⟩ := P0.out w4 B4
        have z4 := hb4.size
        have zb4 : wo.heap.size < w4.heap.size := by omega
        have zp4 : w.heap.size < w4.heap.size := by omega
        clear hb4 v0 v1 v4 v5 B3
        by_cases d1 : a2 ≤ p2
        · by_cases d2 : p2 < b2
          · have d4 : ¬ b2 ≤ p2 := by omega
            by_cases d3 : 0 < t
            · have e1 : IntKind.i64.wrap (q + 1) = q + 1 := IntWalk.i64_in _ (by omega)
              have hst := Lib.hid (H1.out ⟨d1, d2, d3⟩)
              clear H1 H0 HM TR P0
              go_wp2_with fail
              go_roundg (n - (k + 1))
              case measure => have := HGK.out; omega
              case rel => exact ⟨k + 1, by omega, rfl, by go_num, by rw [hst.out], B4, HF3⟩
            · have hst := Lib.hid (H0.out (fun h => d3 h.2.2) (fun h => d4 h.1))
              clear H1 H0 HM TR P0
              go_wp2_with fail
              go_roundg (n - (k + 1))
              case measure => have := HGK.out; omega
              case rel => exact ⟨k + 1, by omega, rfl, by go_num, by rw [hst.out], B4, HF3⟩
          · have d4 : b2 ≤ p2 := by omega
            have d5 : ¬ p2 < a2 := by omega
            have hst := Lib.hid (H0.out (fun h => d2 h.2.1) (fun h => d5 h.2.1))
            clear H1 H0 HM TR P0
            go_wp2_with fail
            go_roundg (n - (k + 1))
            case measure => have := HGK.out; omega
            case rel => exact ⟨k + 1, by omega, rfl, by go_num, by rw [hst.out], B4, HF3⟩
        · have d5 : p2 < a2 := by omega
          by_cases d4 : b2 ≤ p2
          · by_cases d3 : t < 0
            · have e1 : IntKind.i64.wrap (q - 1) = q - 1 := IntWalk.i64_in _ (by omega)
              have hst := Lib.hid (HM.out ⟨d4, d5, d3⟩)
              clear H1 H0 HM TR P0
              go_wp2_with fail
              go_roundg (n - (k + 1))
              case measure => have := HGK.out; omega
              case rel => exact ⟨k + 1, by omega, rfl, by go_num, by rw [hst.out], B4, HF3⟩
            · have hst := Lib.hid (H0.out (fun h => d1 h.1) (fun h => d3 h.2.2))
              clear H1 H0 HM TR P0
              go_wp2_with fail
              go_roundg (n - (k + 1))
              case measure => have := HGK.out; omega
              case rel => exact ⟨k + 1, by omega, rfl, by go_num, by rw [hst.out], B4, HF3⟩
          · have hst := Lib.hid (H0.out (fun h => d1 h.1) (fun h => d4 h.1))
            clear H1 H0 HM TR P0
            go_wp2_with fail
            go_roundg (n - (k + 1))
            case measure => have := HGK.out; omega
            case rel => exact ⟨k + 1, by omega, rfl, by go_num, by rw [hst.out], B4, HF3⟩
      · have hr := Lib.hid (HON2.out rfl)
        have BE := Lib.hid (TR.out w3 B3)
        go_wp2_with fail
        go_ret
        exact ⟨ret_int hr.out.symm, BE.out⟩
    · have hkn : n = k := by omega
      subst hkn
      have hy := Lib.hid (HX.out (fun j hj => hF.out j hj))
      have BE := Lib.hid (TR.out wo hB)
      by_cases hx : wnN l (p1, p2) n = 0
      · rw [if_pos hx] at hy
        rw [hx]
        clear hx
        go_wp2_with fail
        go_ret
        exact ⟨ret_int hy.out.symm, BE.out⟩
      · rw [if_neg hx] at hy
        have hxb : (wnN l (p1, p2) n == 0) = false := by simpa using hx
        generalize wnN l (p1, p2) n = q at *
        go_wp2_with fail
        go_ret
        exact ⟨ret_int hy.out.symm, BE.out⟩
end Go.Proofs.Ytjkfdcjfoliboaa
/- contracts: TwiceArea, PegsOn and PegsInside, on both sides -/
namespace Go.Proofs.Ytjkfdcjfoliboaa
open Go.ChangeShapes Go.WideShapes Go.ChangeAt Go.RowKit Go.Joins
set_option linter.unusedVariables false
set_option linter.unusedSimpArgs false
set_option maxRecDepth 4000
def gi (b : Bool) (x : Int) : Int := if b = true then x else 0
theorem ret_tup {a b : Int} {c : Bool} (h : a = b) : Ending.returned (.tuple #[.int .i64 a, .bool c]) = .returned (.tuple #[.int .i64 b, .bool c]) := by rw [h]
theorem gi_true (x : Int) : gi true x = x := rfl
theorem gi_false (x : Int) : gi false x = 0 := rfl
theorem sumPegsOn_any (A : Option Addr) (c : Nat) (l : List (Int × Int)) (w : World) (hg : Good l) (hR : Rd w w.heap.size A l) :
    Calls Try.prog 72 #[.slice A l.length c, .func (.func 74) #[] #[]] w fun e w' => e = .returned (.int .i64 (onN l)) ∧ Below w.heap.size w w' :=
  sumAround_any A c l w 74 (fun i => stepN (vx l i).1 (vx l i).2 (vx l (i + 1)).1 (vx l (i + 1)).2) (good_pos hg) hg.few.2 hR Try.call74
    (fun i _ => by have := stepN_bd (a1 := (vx l i).1) (a2 := (vx l i).2) (b1 := (vx l (i + 1)).1) (b2 := (vx l (i + 1)).2) (vx_pg hg.pegs (good_pos hg) i) (vx_pg hg.pegs (good_pos hg) (i + 1)); omega)
    (fun i _ W => steps_any _ _ _ _ W (vx_pg hg.pegs (good_pos hg) i) (vx_pg hg.pegs (good_pos hg) (i + 1)))
end Go.Proofs.Ytjkfdcjfoliboaa
/- contracts: bounds of both sums -/
namespace Go.Proofs.Ytjkfdcjfoliboaa
open Go.ChangeShapes Go.WideShapes Go.ChangeAt Go.RowKit Go.Joins
set_option linter.unusedVariables false
set_option linter.unusedSimpArgs false
set_option maxRecDepth 4000
theorem area_bd {l : List (Int × Int)} (hg : Good l) : -40000 ≤ areaN l ∧ areaN l ≤ 40000 := by
  have := sh_bd hg.pegs (good_pos hg) l.length
  have h1 := hg.few
  unfold areaN
  omega
theorem on_bd {l : List (Int × Int)} (hg : Good l) : -1600 ≤ onN l ∧ onN l ≤ 1600 := by
  have := rn_bd hg.pegs (good_pos hg) l.length
  have h1 := hg.few
  unfold onN
  omega
end Go.Proofs.Ytjkfdcjfoliboaa
/- contracts: points inside, both sums together -/
namespace Go.Proofs.Ytjkfdcjfoliboaa
open Go.ChangeShapes Go.WideShapes Go.ChangeAt Go.RowKit Go.Joins
set_option linter.unusedVariables false
set_option linter.unusedSimpArgs false
set_option maxRecDepth 4000
theorem pgInside_any (A : Option Addr) (c : Nat) (l : List (Int × Int)) (w : World) (hg : Good l) (hR : Rd w w.heap.size A l) :
    Calls Try.prog 75 #[.slice A l.length c] w fun e w' => e = .returned (.int .i64 (insN l)) ∧ Below w.heap.size w w' := by
  have K1 := Lib.hid (pgArea_any A c l w hg.few.1 hg.few.2 hg.pegs hR)
  have K2 := Lib.hid (fun W (hb : Below w.heap.size w W) => pgRound_any A c l W (by have := hg.few; omega) hg.few.2 hg.pegs (rd_more (rd_below hR hb (Nat.le_refl _)) hb.size))
  obtain ⟨a1, a2⟩ := area_bd hg
  obtain ⟨o1, o2⟩ := on_bd hg
  have K3 := Lib.hid (fun W => l1Abs_any (areaN l) W (by omega) (by omega))
  unfold insN
  have nb : (0 : Int) ≤ ((areaN l).natAbs : Int) ∧ ((areaN l).natAbs : Int) ≤ 40000 := by omega
  obtain ⟨nb1, nb2⟩ := nb
  generalize ((areaN l).natAbs : Int) = m at *
  generalize areaN l = v at *
  generalize onN l = o at *
  clear hg hR
  go_enter Try.func75, Try.ntmps75
  go_wp2_with fail
  refine K1.out.mono ?_; rintro e w1 ⟨rfl, hb1⟩
  go_wp2_with fail
  refine (K3.out _).mono ?_; rintro e _ ⟨rfl, rfl⟩
  go_wp2_with fail
  refine (K2.out w1 hb1).mono ?_; rintro e w2 ⟨rfl, hb2⟩
  have B2 := hb1.trans (hb2.mono hb1.size)
  go_wp2_with fail
  go_ret
  exact ⟨rfl, B2⟩
end Go.Proofs.Ytjkfdcjfoliboaa
/- contract: a corner's part of the area -/
namespace Go.Proofs.Ytjkfdcjfoliboaa
open Go.ChangeShapes Go.WideShapes Go.ChangeAt Go.RowKit Go.Joins
set_option linter.unusedVariables false
set_option linter.unusedSimpArgs false
set_option maxRecDepth 4000
theorem areaPart_any (p q : Int × Int) (b1 b2 : Int) (w : World) (hp : isPg p = true) (hq : isPg q = true) :
    Calls Try.prog 73 #[.agg #[.int .i64 p.1, .int .i64 p.2, .int .i64 b1, .int .i64 b2, .int .i64 q.1, .int .i64 q.2]] w fun e w' => e = .returned (.int .i64 (cr p q)) ∧ Below w.heap.size w w' := by
  unfold isPg isPegB at hp hq
  simp only [Bool.and_eq_true, decide_eq_true_eq] at hp hq
  have h1 := mul_bd (x := p.1) (y := q.2) (m := 40) (n := 40) (by omega) (by omega) (by omega) (by omega)
  have h2 := mul_bd (x := q.1) (y := p.2) (m := 40) (n := 40) (by omega) (by omega) (by omega) (by omega)
  obtain ⟨p1, p2⟩ := p
  obtain ⟨q1, q2⟩ := q
  simp only at h1 h2
  clear hp hq
  go_enter Try.func73, Try.ntmps73
  go_wp2_with fail
  go_ret
  exact ⟨ret_int (by unfold cr; rfl), (by repeat (first | exact Below.refl _ _ | assumption | apply Below.drew | refine Below.alloc ?_ (by simp <;> omega) _))⟩
end Go.Proofs.Ytjkfdcjfoliboaa
/- contracts: the program's sum of areas -/
namespace Go.Proofs.Ytjkfdcjfoliboaa
open Go.ChangeShapes Go.WideShapes Go.ChangeAt Go.RowKit Go.Joins
set_option linter.unusedVariables false
set_option linter.unusedSimpArgs false
set_option maxRecDepth 4000
theorem sumTwiceArea_any (A : Option Addr) (c : Nat) (l : List (Int × Int)) (w : World) (hg : Good l) (hR : Rd w w.heap.size A l) :
    Calls Try.prog 72 #[.slice A l.length c, .func (.func 73) #[] #[]] w fun e w' => e = .returned (.int .i64 (areaN l)) ∧ Below w.heap.size w w' :=
  sumAround_any A c l w 73 (fun i => cr (vx l i) (vx l (i + 1))) (good_pos hg) hg.few.2 hR Try.call73
    (fun i _ => by have := cr_bd (vx_pg hg.pegs (good_pos hg) i) (vx_pg hg.pegs (good_pos hg) (i + 1)); omega)
    (fun i _ W => areaPart_any _ _ _ _ W (vx_pg hg.pegs (good_pos hg) i) (vx_pg hg.pegs (good_pos hg) (i + 1)))
end Go.Proofs.Ytjkfdcjfoliboaa
/- contracts: the program's PegsInside -/
namespace Go.Proofs.Ytjkfdcjfoliboaa
open Go.ChangeShapes Go.WideShapes Go.ChangeAt Go.RowKit Go.Joins
set_option linter.unusedVariables false
set_option linter.unusedSimpArgs false
set_option maxRecDepth 4000
theorem implPegsInside_any (A : Option Addr) (c : Nat) (l : List (Int × Int)) (w : World) (hn : l.length ≤ 1048576) (hR : Rd w w.heap.size A l) :
    Calls Try.prog 47 #[.slice A l.length c] w fun e w' => e = .returned (.tuple #[.int .i64 (gi (goodB l) (insN l)), .bool (goodB l)]) ∧ Below w.heap.size w w' := by
  have K := Lib.hid (implIsPolygon_any A c l w hn hR)
  by_cases hg : Good l
  · have hgt := goodB_true hg
    rw [hgt] at K ⊢
    have K2 := Lib.hid (fun W (hb : Below w.heap.size w W) => sumTwiceArea_any A c l W hg (rd_more (rd_below hR hb (Nat.le_refl _)) hb.size))
    have K3 := Lib.hid (fun W (hb : Below w.heap.size w W) => sumPegsOn_any A c l W hg (rd_more (rd_below hR hb (Nat.le_refl _)) hb.size))
    obtain ⟨a1, a2⟩ := area_bd hg
    obtain ⟨o1, o2⟩ := on_bd hg
    rw [gi_true]
    unfold insN
    generalize areaN l = v at *
    generalize onN l = o at *
    clear hgt hg hR
    go_enter Try.func47, Try.ntmps47
    go_wp2_with fail
    refine K.out.mono ?_; rintro e w1 ⟨rfl, hb1⟩
    go_wp2_with fail
    refine (K2.out w1 hb1).mono ?_; rintro e w2 ⟨rfl, hb2⟩
    have B2 := hb1.trans (hb2.mono hb1.size)
    go_wp2_with fail
    refine (K3.out w2 B2).mono ?_; rintro e w3 ⟨rfl, hb3⟩
    have B3 := B2.trans (hb3.mono B2.size)
    go_wp2_with fail
    all_goals
      go_ret2
      first | exact ⟨ret_tup (by rw [show (v.natAbs : Int) = -v by omega]), B3⟩ | exact ⟨ret_tup (by rw [show (v.natAbs : Int) = v by omega]), B3⟩
  · have hgf := goodB_false hg
    rw [hgf] at K ⊢
    rw [gi_false]
    clear hgf hg hR
    go_enter Try.func47, Try.ntmps47
    go_wp2_with fail
    refine K.out.mono ?_; rintro e w1 ⟨rfl, hb1⟩
    go_wp2_with fail
    go_ret2
    exact ⟨rfl, hb1⟩
end Go.Proofs.Ytjkfdcjfoliboaa
/- contracts: IsOneInside, on both sides -/
namespace Go.Proofs.Ytjkfdcjfoliboaa
open Go.ChangeShapes Go.WideShapes Go.ChangeAt Go.RowKit Go.Joins
set_option linter.unusedVariables false
set_option linter.unusedSimpArgs false
set_option maxRecDepth 4000
/-- one inside: convex, one point inside, and that is 0, 0 -/
noncomputable def oneB (l : List (Int × Int)) : Bool := convB l && decide (insN l = 1) && decide (whN l (0, 0) = 1)
theorem wh3 (l : List (Int × Int)) (p : Int × Int) : whN l p = 0 ∨ whN l p = 1 ∨ whN l p = -1 := by
  by_cases h : MJ.Bd (vx l) p
  · exact .inl (whN_on h)
  · rw [whN_off h]; split <;> simp
theorem one_F1 {l : List (Int × Int)} (h : convB l = false) : oneB l = false := by unfold oneB; rw [h]; rfl
theorem one_F2 {l : List (Int × Int)} (h : ¬ insN l = 1) : oneB l = false := by unfold oneB; simp [h]
theorem one_F3 {l : List (Int × Int)} (h : ¬ whN l (0, 0) = 1) : oneB l = false := by unfold oneB; simp [h]
theorem one_T {l : List (Int × Int)} (h1 : convB l = true) (h2 : insN l = 1) (h3 : whN l (0, 0) = 1) : oneB l = true := by unfold oneB; simp [h1, h2, h3]
set_option maxHeartbeats 1000000
theorem duOne_any (A : Option Addr) (c : Nat) (l : List (Int × Int)) (w : World) (hn : l.length ≤ 1048576) (hcap : l.length ≤ c) (hc2 : c ≤ 9223372036854775807) (hR : Rd w w.heap.size A l) :
    Calls Try.prog 49 #[.slice A l.length c] w fun e w' => e = .returned (.bool (bsl (goodB l) (oneB l))) ∧ Below w.heap.size w w' := by
  have K := Lib.hid (pgGood_any A c l w hn hcap hc2 hR)
  by_cases hg : Good l
  · have hgt := goodB_true hg
    rw [hgt] at K ⊢
    rw [bsl_true]
    have K2 := Lib.hid (fun W (hb : Below w.heap.size w W) => pgConvex_any A c l W hg (rd_more (rd_below hR hb (Nat.le_refl _)) hb.size))
    have K3 := Lib.hid (fun W (hb : Below w.heap.size w W) => pgInside_any A c l W hg (rd_more (rd_below hR hb (Nat.le_refl _)) hb.size))
    have K4 := Lib.hid (fun W (hb : Below w.heap.size w W) => pgWhere_any A c l 0 0 W hg (by unfold Sz; omega) (rd_more (rd_below hR hb (Nat.le_refl _)) hb.size))
    have F1 := Lib.hid (fun h => one_F1 (l := l) h)
    have F2 := Lib.hid (fun h => one_F2 (l := l) h)
    have F3 := Lib.hid (fun h => one_F3 (l := l) h)
    have FT := Lib.hid (fun h1 h2 h3 => one_T (l := l) h1 h2 h3)
    have h3 := wh3 l (0, 0)
    clear hgt hg hR hcap
    generalize oneB l = ob at *
    generalize convB l = cb at *
    generalize insN l = ins at *
    generalize whN l (0, 0) = wh at *
    cases cb
    · have hf := F1.out rfl
      subst hf
      go_enter Try.func49, Try.ntmps49
      go_wp2_with fail
      refine K.out.mono ?_; rintro e w1 ⟨rfl, hb1⟩
      go_wp2_with fail
      refine (K2.out w1 hb1).mono ?_; rintro e w2 ⟨rfl, hb2⟩
      have B2 := hb1.trans (hb2.mono hb1.size)
      go_wp2_with fail
      go_ret
      exact ⟨rfl, B2⟩
    · by_cases hi : ins = 1
      · subst hi
        have hob : Hid (ob = decide (0 < wh)) := Lib.hid (by
          rcases h3 with h | h | h
          · rw [F3.out (by omega), h]; rfl
          · rw [FT.out rfl rfl h, h]; rfl
          · rw [F3.out (by omega), h]; rfl)
        clear F1 F2 F3 FT h3
        go_enter Try.func49, Try.ntmps49
        go_wp2_with fail
        refine K.out.mono ?_; rintro e w1 ⟨rfl, hb1⟩
        go_wp2_with fail
        refine (K2.out w1 hb1).mono ?_; rintro e w2 ⟨rfl, hb2⟩
        have B2 := hb1.trans (hb2.mono hb1.size)
        go_wp2_with fail
        refine (K3.out w2 B2).mono ?_; rintro e w3 ⟨rfl, hb3⟩
        have B3 := B2.trans (hb3.mono B2.size)
        go_wp2_with fail
        refine (K4.out w3 B3).mono ?_; rintro e w4 ⟨rfl, hb4⟩
        have B4 := B3.trans (hb4.mono B3.size)
        go_wp2_with fail
        go_ret
        exact ⟨ret_bool hob.out.symm, B4⟩
      · have hf := F2.out hi
        subst hf
        have hib : (ins == 1) = false := by simpa using hi
        go_enter Try.func49, Try.ntmps49
        go_wp2_with fail
        refine K.out.mono ?_; rintro e w1 ⟨rfl, hb1⟩
        go_wp2_with fail
        refine (K2.out w1 hb1).mono ?_; rintro e w2 ⟨rfl, hb2⟩
        have B2 := hb1.trans (hb2.mono hb1.size)
        go_wp2_with fail
        refine (K3.out w2 B2).mono ?_; rintro e w3 ⟨rfl, hb3⟩
        have B3 := B2.trans (hb3.mono B2.size)
        go_wp2_with fail
        go_ret
        exact ⟨rfl, B3⟩
  · have hgf := goodB_false hg
    rw [hgf] at K ⊢
    rw [bsl_false]
    clear hgf hg hR
    go_enter Try.func49, Try.ntmps49
    go_wp2_with fail
    refine K.out.mono ?_; rintro e w1 ⟨rfl, hb1⟩
    go_wp2_with fail
    go_ret
    exact ⟨rfl, hb1⟩
theorem specIsOneInside_any (A : Option Addr) (c : Nat) (l : List (Int × Int)) (w : World) (hn : l.length ≤ 1048576) (hcap : l.length ≤ c) (hc2 : c ≤ 9223372036854775807) (hR : Rd w w.heap.size A l) :
    Calls Try.prog 23 #[.slice A l.length c] w fun e w' => e = .returned (.tuple #[.bool (bsl (goodB l) (oneB l)), .bool (goodB l)]) ∧ Below w.heap.size w w' := by
  have K := Lib.hid (pgGood_any A c l w hn hcap hc2 hR)
  have K2 := Lib.hid (fun W (hb : Below w.heap.size w W) => duOne_any A c l W hn hcap hc2 (rd_more (rd_below hR hb (Nat.le_refl _)) hb.size))
  by_cases hg : Good l
  · have hgt := goodB_true hg
    rw [hgt] at K K2 ⊢
    rw [bsl_true] at K2 ⊢
    generalize oneB l = v at *
    clear hgt hg hR
    go_enter Try.func23, Try.ntmps23
    go_wp2_with fail
    refine K.out.mono ?_; rintro e w1 ⟨rfl, hb1⟩
    go_wp2_with fail
    refine (K2.out w1 hb1).mono ?_; rintro e w2 ⟨rfl, hb2⟩
    have B2 := hb1.trans (hb2.mono hb1.size)
    go_wp2_with fail
    go_ret2
    exact ⟨rfl, B2⟩
  · have hgf := goodB_false hg
    rw [hgf] at K ⊢
    rw [bsl_false]
    clear hgf hg hR K2
    go_enter Try.func23, Try.ntmps23
    go_wp2_with fail
    refine K.out.mono ?_; rintro e w1 ⟨rfl, hb1⟩
    go_wp2_with fail
    go_ret2
    exact ⟨rfl, hb1⟩
theorem implIsOneInside_any (A : Option Addr) (c : Nat) (l : List (Int × Int)) (w : World) (hn : l.length ≤ 1048576) (hR : Rd w w.heap.size A l) :
    Calls Try.prog 24 #[.slice A l.length c] w fun e w' => e = .returned (.tuple #[.bool (bsl (goodB l) (oneB l)), .bool (goodB l)]) ∧ Below w.heap.size w w' := by
  have K2 := Lib.hid (implIsConvex_any A c l w hn hR)
  have K3 := Lib.hid (fun W (hb : Below w.heap.size w W) => implPegsInside_any A c l W hn (rd_more (rd_below hR hb (Nat.le_refl _)) hb.size))
  by_cases hg : Good l
  · have hgt := goodB_true hg
    rw [hgt] at K2 K3 ⊢
    rw [bsl_true] at K2 ⊢
    rw [gi_true] at K3
    have K4 := Lib.hid (fun W (hb : Below w.heap.size w W) => placeIn_any A c l 0 0 W hg (by unfold Sz; omega) (rd_more (rd_below hR hb (Nat.le_refl _)) hb.size))
    have F1 := Lib.hid (fun h => one_F1 (l := l) h)
    have F2 := Lib.hid (fun h => one_F2 (l := l) h)
    have F3 := Lib.hid (fun h => one_F3 (l := l) h)
    have FT := Lib.hid (fun h1 h2 h3 => one_T (l := l) h1 h2 h3)
    have h3 := wh3 l (0, 0)
    clear hgt hg hR
    generalize oneB l = ob at *
    generalize convB l = cb at *
    generalize insN l = ins at *
    generalize whN l (0, 0) = wh at *
    cases cb
    · have hf := F1.out rfl
      subst hf
      go_enter Try.func24, Try.ntmps24
      go_wp2_with fail
      refine K2.out.mono ?_; rintro e w1 ⟨rfl, hb1⟩
      go_wp2_with fail
      refine (K3.out w1 hb1).mono ?_; rintro e w2 ⟨rfl, hb2⟩
      have B2 := hb1.trans (hb2.mono hb1.size)
      go_wp2_with fail
      go_ret2
      exact ⟨rfl, B2⟩
    · by_cases hi : ins = 1
      · subst hi
        have hob : Hid (ob = (wh == 1)) := Lib.hid (by
          rcases h3 with h | h | h
          · rw [F3.out (by omega), h]; rfl
          · rw [FT.out rfl rfl h, h]; rfl
          · rw [F3.out (by omega), h]; rfl)
        clear F1 F2 F3 FT h3
        go_enter Try.func24, Try.ntmps24
        go_wp2_with fail
        refine K2.out.mono ?_; rintro e w1 ⟨rfl, hb1⟩
        go_wp2_with fail
        refine (K3.out w1 hb1).mono ?_; rintro e w2 ⟨rfl, hb2⟩
        have B2 := hb1.trans (hb2.mono hb1.size)
        go_wp2_with fail
        refine (K4.out w2 B2).mono ?_; rintro e w3 ⟨rfl, hb3⟩
        have B3 := B2.trans (hb3.mono B2.size)
        go_wp2_with fail
        go_ret2
        exact ⟨ret_bb hob.out.symm rfl, B3⟩
      · have hf := F2.out hi
        subst hf
        have hib : (ins == 1) = false := by simpa using hi
        go_enter Try.func24, Try.ntmps24
        go_wp2_with fail
        refine K2.out.mono ?_; rintro e w1 ⟨rfl, hb1⟩
        go_wp2_with fail
        refine (K3.out w1 hb1).mono ?_; rintro e w2 ⟨rfl, hb2⟩
        have B2 := hb1.trans (hb2.mono hb1.size)
        go_wp2_with fail
        go_ret2
        exact ⟨rfl, B2⟩
  · have hgf := goodB_false hg
    rw [hgf] at K2 K3 ⊢
    rw [bsl_false] at K2 ⊢
    rw [gi_false] at K3
    clear hgf hg hR
    go_enter Try.func24, Try.ntmps24
    go_wp2_with fail
    refine K2.out.mono ?_; rintro e w1 ⟨rfl, hb1⟩
    go_wp2_with fail
    refine (K3.out w1 hb1).mono ?_; rintro e w2 ⟨rfl, hb2⟩
    have B2 := hb1.trans (hb2.mono hb1.size)
    go_wp2_with fail
    go_ret2
    exact ⟨rfl, B2⟩
end Go.Proofs.Ytjkfdcjfoliboaa
/- contract: the program's list told from a corner, to either side -/
namespace Go.Proofs.Ytjkfdcjfoliboaa
open Go.ChangeShapes Go.WideShapes Go.ChangeAt Go.RowKit Go.Joins
set_option linter.unusedVariables false
set_option linter.unusedSimpArgs false
set_option maxRecDepth 4000
theorem retP_set {w w' : World} {n : Nat} {f : Nat → Int × Int} (h : Set w' w.heap.size n n (firsts f n)) (hb : Below w.heap.size w w') (hn : n ≤ 1048576) : RetP w (firsts f n) (.returned (.slice (some ⟨w.heap.size, 0, none⟩) n n)) w' := by
  refine ⟨some ⟨w.heap.size, 0, none⟩, n, by rw [firsts_len], by rw [firsts_len]; exact Nat.le_refl _, by unfold maxLen; omega, hb, ?_⟩
  have h' : Set w' w.heap.size (firsts f n).length (firsts f n).length (firsts f n) := by rw [firsts_len]; exact h
  exact rw_more (rw_of_set h') (Nat.le_refl _) (by have := h.1; omega)
set_option maxHeartbeats 2000000 in
theorem tellFrom_any (A : Option Addr) (c : Nat) (l : List (Int × Int)) (first : Nat) (s : Int) (j : Nat → Nat) (w : World) (h1 : 1 ≤ l.length) (hn : l.length ≤ 10) (hR : Rd w w.heap.size A l)
    (hf : first < l.length) (hs : s = 1 ∨ s = -1) (hj : ∀ i, i < l.length → ((first : Int) + (i : Int) * s + (l.length : Int)) % (l.length : Int) = (j i : Int)) :
    Calls Try.prog 51 #[.slice A l.length c, .int .i64 first, .int .i64 s] w (RetP w (firsts (fun i => vx l (j i)) l.length)) := by
  obtain ⟨i0, hi0, hz0, hz1, hz2⟩ := info_parts peg_info
  have hmk := fun W => run_make (P := Try.prog) W 26 34 i0 _ Try.underlying26 hi0 hz0 .i64 .i64 (l.length : Int) (l.length : Int) (by omega) (by omega) (by rw [hz2]; omega) (by omega)
  obtain ⟨b, off, rfl, hb, HC⟩ := pts_of (by omega) hR
  have HJ := Lib.hid hj
  clear hR hj
  generalize hN : l.length = n at *
  have HN := Lib.hid hN
  have SN := Lib.hid hs
  clear hN
  go_enter Try.func51, Try.ntmps51
  go_wp2_with fail
  have hS0 := Lib.hid (set_new w 34 n (firsts (fun i => vx l (j i)) n))
  have hB0 : Below w.heap.size w (w.alloc (.cells (madeCells #[.int .i64 0, .int .i64 0] (n * 2)) 34)) := (Below.refl _ _).alloc (Nat.le_refl _) _
  clear hmk hs
  go_loopg [16] n (fun g i wr => ∃ k : Nat, k ≤ n ∧ g = n - k ∧ i = .int .i64 k ∧ Below w.heap.size w wr ∧ Hid (Set wr w.heap.size n k (firsts (fun i => vx l (j i)) n)))
  case atStart => exact ⟨0, Nat.zero_le _, rfl, rfl, hB0, hS0⟩
  case round =>
    clear hB0 hS0
    obtain ⟨k, hk, hg, rfl, hB, hS⟩ := hrel
    rename World => wo
    have HGK := Lib.hid hg
    clear hg
    by_cases hlt : k < n
    · have hjk := HJ.out k hlt
      have hjn : j k < n := by
        have := Int.emod_lt_of_pos ((first : Int) + (k : Int) * s + (n : Int)) (show (0 : Int) < (n : Int) by omega)
        omega
      have hks : -(k : Int) ≤ (k : Int) * s ∧ (k : Int) * s ≤ (k : Int) := by rcases SN.out with h | h <;> rw [h] <;> omega
      have e1 : IntKind.i64.wrap ((k : Int) * s) = (k : Int) * s := IntWalk.i64_in _ (by omega)
      have e2 : IntKind.i64.wrap ((first : Int) + (k : Int) * s) = (first : Int) + (k : Int) * s := IntWalk.i64_in _ (by omega)
      have e3 : IntKind.i64.wrap ((first : Int) + (k : Int) * s + (n : Int)) = (first : Int) + (k : Int) * s + (n : Int) := IntWalk.i64_in _ (by omega)
      have e4 : ¬ n = 0 := by omega
      have e5 : ((first : Int) + (k : Int) * s + (n : Int)).tmod (n : Int) = (j k : Int) := by rw [Int.tmod_eq_emod_of_nonneg (by omega)]; exact hjk
      have q1 := (HC.out wo hB (j k) hjn).1
      have q2 := (HC.out wo hB (j k) hjn).2
      have S1 := hS.out
      obtain ⟨g1, g2, g3⟩ := S1
      obtain ⟨⟨u1, d1⟩, ⟨u2, d2⟩, d3, d4⟩ := g2 k hlt
      have S2 := Lib.hid (set_store hS.out hlt (firsts_get (fun i => vx l (j i)) n k hlt))
      have B2 := Lib.hid ((hB.setCell (p := ⟨w.heap.size, k * 2, none⟩) (Nat.le_refl _) (.int .i64 (vx l (j k)).1)).setCell (p := ⟨w.heap.size, k * 2 + 1, none⟩) (Nat.le_refl _) (.int .i64 (vx l (j k)).2))
      clear g2 g3 hS hjk hks
      go_wp2_with fail
      go_roundg (n - (k + 1))
      case measure => have := HGK.out; omega
      case rel => exact ⟨k + 1, by omega, rfl, by go_num, B2.out, S2⟩
    · have hkn : n = k := by omega
      subst hkn
      go_wp2_with fail
      go_ret
      exact retP_set hS.out hB (by omega)
end Go.Proofs.Ytjkfdcjfoliboaa
/- contract: TwiceArea, the program -/
namespace Go.Proofs.Ytjkfdcjfoliboaa
open Go.ChangeShapes Go.WideShapes Go.ChangeAt Go.RowKit Go.Joins
set_option linter.unusedVariables false
set_option linter.unusedSimpArgs false
set_option maxRecDepth 4000
theorem implTwiceArea_any (A : Option Addr) (c : Nat) (l : List (Int × Int)) (w : World) (hn : l.length ≤ 1048576) (hR : Rd w w.heap.size A l) :
    Calls Try.prog 53 #[.slice A l.length c] w fun e w' => e = .returned (.tuple #[.int .i64 (gi (goodB l) (areaN l)), .bool (goodB l)]) ∧ Below w.heap.size w w' := by
  have K := Lib.hid (implIsPolygon_any A c l w hn hR)
  by_cases hg : Good l
  · have hgt := goodB_true hg
    rw [hgt] at K ⊢
    have K2 := Lib.hid (fun W (hb : Below w.heap.size w W) => sumTwiceArea_any A c l W hg (rd_more (rd_below hR hb (Nat.le_refl _)) hb.size))
    rw [gi_true]
    generalize areaN l = v at *
    clear hgt hg hR
    go_enter Try.func53, Try.ntmps53
    go_wp2_with fail
    refine K.out.mono ?_; rintro e w1 ⟨rfl, hb1⟩
    go_wp2_with fail
    refine (K2.out w1 hb1).mono ?_; rintro e w2 ⟨rfl, hb2⟩
    have B2 := hb1.trans (hb2.mono hb1.size)
    go_wp2_with fail
    go_ret2
    exact ⟨rfl, B2⟩
  · have hgf := goodB_false hg
    rw [hgf] at K ⊢
    rw [gi_false]
    clear hgf hg hR
    go_enter Try.func53, Try.ntmps53
    go_wp2_with fail
    refine K.out.mono ?_; rintro e w1 ⟨rfl, hb1⟩
    go_wp2_with fail
    go_ret2
    exact ⟨rfl, hb1⟩
end Go.Proofs.Ytjkfdcjfoliboaa
/- contracts: TellFirst, on both sides -/
namespace Go.Proofs.Ytjkfdcjfoliboaa
open Go.ChangeShapes Go.WideShapes Go.ChangeAt Go.RowKit Go.Joins
set_option linter.unusedVariables false
set_option linter.unusedSimpArgs false
set_option maxRecDepth 4000
theorem isBefore_any (a1 a2 b1 b2 : Int) (w : World) :
    Calls Try.prog 54 #[.agg #[.int .i64 a1, .int .i64 a2], .agg #[.int .i64 b1, .int .i64 b2]] w fun e w' => e = .returned (.bool (ltP (a1, a2) (b1, b2))) ∧ Below w.heap.size w w' := by
  by_cases h1 : a1 < b1
  · go_enter Try.func54, Try.ntmps54
    go_wp2_with fail
    go_ret
    exact ⟨ret_bool (by simp [ltP, h1]), (by repeat (first | exact Below.refl _ _ | assumption | apply Below.drew | refine Below.alloc ?_ (by simp <;> omega) _))⟩
  · by_cases h2 : a1 = b1
    · by_cases h3 : a2 < b2
      all_goals
        subst h2
        go_enter Try.func54, Try.ntmps54
        go_wp2_with fail
        go_ret
        exact ⟨ret_bool (by simp [ltP, h3]), (by repeat (first | exact Below.refl _ _ | assumption | apply Below.drew | refine Below.alloc ?_ (by simp <;> omega) _))⟩
    · go_enter Try.func54, Try.ntmps54
      go_wp2_with fail
      go_ret
      exact ⟨ret_bool (by simp [ltP, h1, h2]), (by repeat (first | exact Below.refl _ _ | assumption | apply Below.drew | refine Below.alloc ?_ (by simp <;> omega) _))⟩
set_option maxHeartbeats 1000000 in
theorem specTellFirst_any (A : Option Addr) (c : Nat) (l : List (Int × Int)) (w : World) (hn : l.length ≤ 1048576) (hcap : l.length ≤ c) (hc2 : c ≤ 9223372036854775807) (hR : Rd w w.heap.size A l) :
    Calls Try.prog 27 #[.slice A l.length c] w (RetL w (sel (goodB l) (firsts (tellF l) l.length)) (goodB l)) := by
  have K := Lib.hid (pgGood_any A c l w hn hcap hc2 hR)
  by_cases hg : Good l
  · have hgt := goodB_true hg
    rw [hgt] at K ⊢
    have K2 := Lib.hid (fun W (hb : Below w.heap.size w W) => pgFirst_any A c l W hg hcap hc2 (rd_more (rd_below hR hb (Nat.le_refl _)) hb.size))
    clear hgt hg hR
    go_enter Try.func27, Try.ntmps27
    go_wp2_with fail
    refine K.out.mono ?_; rintro e w1 ⟨rfl, hb1⟩
    go_wp2_with fail
    refine (K2.out w1 hb1).mono ?_; rintro e w2 ⟨A2, c2, rfl, q1, q2, hb2, q3⟩
    go_wp2_with fail
    go_ret2
    exact retL_of_P hb1 q1 q2 hb2 q3
  · have hgf := goodB_false hg
    rw [hgf] at K ⊢
    clear hgf hg hR
    go_enter Try.func27, Try.ntmps27
    go_wp2_with fail
    refine K.out.mono ?_; rintro e w1 ⟨rfl, hb1⟩
    go_wp2_with fail
    go_ret2
    exact retL_nil hb1
set_option maxHeartbeats 4000000 in
theorem implTellFirst_any (A : Option Addr) (c : Nat) (l : List (Int × Int)) (w : World) (hn : l.length ≤ 1048576) (hR : Rd w w.heap.size A l) :
    Calls Try.prog 28 #[.slice A l.length c] w (RetL w (sel (goodB l) (firsts (tellF l) l.length)) (goodB l)) := by
  have K := Lib.hid (implTwiceArea_any A c l w hn hR)
  by_cases hg : Good l
  · have hgt := goodB_true hg
    rw [hgt, gi_true] at K
    rw [hgt]
    have h10 := hg.few
    have hpos := good_pos hg
    have hm := minI_lt (vx l) l.length hpos
    by_cases ha : areaN l < 0
    · have ET : firsts (fun i => vx l ((fun i => (minI (vx l) l.length + l.length - i) % l.length) i)) l.length = firsts (tellF l) l.length := firsts_same _ fun i hi => by unfold tellF; rw [if_pos ha]
      have KT := Lib.hid (fun W (hb : Below w.heap.size w W) => by
        have h := tellFrom_any A c l (minI (vx l) l.length) (-1) (fun i => (minI (vx l) l.length + l.length - i) % l.length) W hpos h10.2 (rd_more (rd_below hR hb (Nat.le_refl _)) hb.size) hm (by omega) (fun i hi => by
          rw [(show (minI (vx l) l.length : Int) + (i : Int) * (-1) + (l.length : Int) = ((minI (vx l) l.length + l.length - i : Nat) : Int) by omega)]; exact (Int.natCast_emod _ _).symm)
        rw [ET] at h
        exact h)
      obtain ⟨b, off, rfl, hb, HC0⟩ := pts_of (by omega) hR
      clear hgt hg hR ET
      generalize firsts (tellF l) l.length = res at *
      generalize areaN l = ar at *
      generalize hN : l.length = n at *
      have HN := Lib.hid hN
      clear hN hm
      go_enter Try.func28, Try.ntmps28
      go_wp2_with fail
      refine K.out.mono ?_; rintro e w2 ⟨rfl, hb2⟩
      have HC := Lib.hid (fun W (hW : Below w2.heap.size w2 W) => HC0.out W (hb2.trans (hW.mono hb2.size)))
      have hz2 := hb2.size
      have hbb : b < w2.heap.size := by omega
      go_wp2_with fail
      go_loopg [6, 18] n (fun g s i wr => ∃ k : Nat, k ≤ n ∧ g = n - k ∧ i = .int .i64 k ∧ s = .int .i64 (minI (vx l) k : Nat) ∧ Below w2.heap.size w2 wr)
      case atStart => exact ⟨0, Nat.zero_le _, rfl, rfl, rfl, Below.refl _ _⟩
      case round =>
        obtain ⟨k, hk, hg, rfl, rfl, hB⟩ := hrel
        rename World => wo
        have HGK := Lib.hid hg
        clear hg
        by_cases hlt : k < n
        · obtain ⟨y0, y1⟩ := HC.out wo hB k hlt
          have hm : minI (vx l) k < n := by
            rcases Nat.eq_zero_or_pos k with h0 | h0
            · subst h0; exact hlt
            · have := minI_lt (vx l) k h0; omega
          have hbz : b < wo.heap.size := by have := hB.size; omega
          have EM : Hid (minI (vx l) (k + 1) = if ltP (vx l k) (vx l (minI (vx l) k)) = true then k else minI (vx l) k) := Lib.hid rfl
          generalize minI (vx l) k = m at *
          have KL := Lib.hid (fun W => isBefore_any (vx l k).1 (vx l k).2 (vx l m).1 (vx l m).2 W)
          have e1 : (m : Int) < (n : Int) := by omega
          by_cases hb : ltP (vx l k) (vx l m) = true
          · rw [show ltP ((vx l k).1, (vx l k).2) ((vx l m).1, (vx l m).2) = true from hb] at KL
            have E2 : Hid (minI (vx l) (k + 1) = k) := Lib.hid (by rw [EM.out, if_pos hb])
            clear EM hb
            go_wp2_with fail
            obtain ⟨Wp, hWp⟩ : ∃ Wp, Wp = (wo.alloc (.cells #[.int .i64 ((vx l k).1), .int .i64 ((vx l k).2)] 34)) := ⟨_, rfl⟩
            rw [← hWp]
            have yWp0_0 : Wp.cell? ⟨wo.heap.size, 0, none⟩ = some (.int .i64 ((vx l k).1)) := by rw [hWp]; go_simp
            have yWp0_1 : Wp.cell? ⟨wo.heap.size, 1, none⟩ = some (.int .i64 ((vx l k).2)) := by rw [hWp]; go_simp
            have fWp0 : ∀ o, Wp.frozen? ⟨wo.heap.size, o, none⟩ = false := by intro o; rw [hWp]; (repeat rw [frozen?_alloc_cells]); simp [World.frozen?]
            have zWp0 : wo.heap.size < Wp.heap.size := by rw [hWp]; simp <;> omega
            have BWp : Below wo.heap.size wo Wp := by rw [hWp]; exact (Below.alloc (Below.refl _ _) (by simp <;> omega) _)
            have eWp : Hid (Wp.heap.size = wo.heap.size + 1) := Lib.hid (by rw [hWp]; simp)
            clear hWp
            have BP := hB.trans (BWp.mono hB.size)
            obtain ⟨xm0, xm1⟩ := HC.out Wp BP m hm
            have zb : b < Wp.heap.size := Nat.lt_of_lt_of_le hbz BWp.size
            refine wp_region_B (fun W => Below Wp.heap.size Wp W) (by kernel_rfl) (by repeat (first | exact Below.refl _ _ | apply Below.drew)) ?_
            first | refine wpB_skip 0 rfl (by kernel_rfl) (by kernel_rfl) (by kernel_rfl) (by rfl) ?_ | (refine wpB_text 0 (v := ?_) rfl (by kernel_rfl) (by kernel_rfl) (by kernel_rfl) (by rfl) (fun W hW => ?_) ?_; rotate_left; (have k1 := hW; obtain ⟨hc1, hf1⟩ := bcell k1; go_simp; refine comes_v ?_; exact k1))
            (try simp only [Act.put, List.setIfInBounds_toArray, List.set_cons_zero, List.set_cons_succ])
            first | refine wpB_skip 1 rfl (by kernel_rfl) (by kernel_rfl) (by kernel_rfl) (by rfl) ?_ | (refine wpB_text 1 (v := ?_) rfl (by kernel_rfl) (by kernel_rfl) (by kernel_rfl) (by rfl) (fun W hW => ?_) ?_; rotate_left; (have k1 := hW; obtain ⟨hc1, hf1⟩ := bcell k1; go_simp; refine comes_v ?_; exact k1))
            (try simp only [Act.put, List.setIfInBounds_toArray, List.set_cons_zero, List.set_cons_succ])
            first | refine wpB_skip 2 rfl (by kernel_rfl) (by kernel_rfl) (by kernel_rfl) (by rfl) ?_ | (refine wpB_text 2 (v := ?_) rfl (by kernel_rfl) (by kernel_rfl) (by kernel_rfl) (by rfl) (fun W hW => ?_) ?_; rotate_left; (have k1 := hW; obtain ⟨hc1, hf1⟩ := bcell k1; go_simp; refine comes_v ?_; exact k1))
            (try simp only [Act.put, List.setIfInBounds_toArray, List.set_cons_zero, List.set_cons_succ])
            first | refine wpB_skip 3 rfl (by kernel_rfl) (by kernel_rfl) (by kernel_rfl) (by rfl) ?_ | (refine wpB_text 3 (v := ?_) rfl (by kernel_rfl) (by kernel_rfl) (by kernel_rfl) (by rfl) (fun W hW => ?_) ?_; rotate_left; (have k1 := hW; obtain ⟨hc1, hf1⟩ := bcell k1; go_simp; refine comes_v ?_; exact k1))
            (try simp only [Act.put, List.setIfInBounds_toArray, List.set_cons_zero, List.set_cons_succ])
            first | refine wpB_skip 4 rfl (by kernel_rfl) (by kernel_rfl) (by kernel_rfl) (by rfl) ?_ | (refine wpB_text 4 (v := ?_) rfl (by kernel_rfl) (by kernel_rfl) (by kernel_rfl) (by rfl) (fun W hW => ?_) ?_; rotate_left; (have k1 := hW; obtain ⟨hc1, hf1⟩ := bcell k1; go_simp; refine comes_v ?_; exact k1))
            (try simp only [Act.put, List.setIfInBounds_toArray, List.set_cons_zero, List.set_cons_succ])
            first | refine wpB_skip 5 rfl (by kernel_rfl) (by kernel_rfl) (by kernel_rfl) (by rfl) ?_ | (refine wpB_text 5 (v := .bool true) rfl (by kernel_rfl) (by kernel_rfl) (by kernel_rfl) (by rfl) (fun W hW => ?_) ?_; (have k1 := hW; obtain ⟨hc1, hf1⟩ := bcell k1; go_simp; exact comes_c ( KL.out _) (fun wn hbn => bt_keep k1 hbn)))
            (try simp only [Act.put, List.setIfInBounds_toArray, List.set_cons_zero, List.set_cons_succ])
            refine wpB_done (by kernel_rfl) ?_ _
            intro W hW; have k1 := hW
            have B3 := BP.trans (k1.mono BP.size)
            clear xm0 xm1 zWp0 fWp0 yWp0_0 yWp0_1 eWp BWp BP y0 y1
            go_wp2_with fail
            go_roundg (n - (k + 1))
            case measure => have := HGK.out; omega
            case rel => exact ⟨k + 1, by omega, rfl, by go_num, by rw [E2.out], B3⟩
          · rw [show ltP ((vx l k).1, (vx l k).2) ((vx l m).1, (vx l m).2) = false from (by simpa using hb)] at KL
            have E2 : Hid (minI (vx l) (k + 1) = m) := Lib.hid (by rw [EM.out, if_neg hb])
            clear EM hb
            go_wp2_with fail
            obtain ⟨Wp, hWp⟩ : ∃ Wp, Wp = (wo.alloc (.cells #[.int .i64 ((vx l k).1), .int .i64 ((vx l k).2)] 34)) := ⟨_, rfl⟩
            rw [← hWp]
            have yWp0_0 : Wp.cell? ⟨wo.heap.size, 0, none⟩ = some (.int .i64 ((vx l k).1)) := by rw [hWp]; go_simp
            have yWp0_1 : Wp.cell? ⟨wo.heap.size, 1, none⟩ = some (.int .i64 ((vx l k).2)) := by rw [hWp]; go_simp
            have fWp0 : ∀ o, Wp.frozen? ⟨wo.heap.size, o, none⟩ = false := by intro o; rw [hWp]; (repeat rw [frozen?_alloc_cells]); simp [World.frozen?]
            have zWp0 : wo.heap.size < Wp.heap.size := by rw [hWp]; simp <;> omega
            have BWp : Below wo.heap.size wo Wp := by rw [hWp]; exact (Below.alloc (Below.refl _ _) (by simp <;> omega) _)
            have eWp : Hid (Wp.heap.size = wo.heap.size + 1) := Lib.hid (by rw [hWp]; simp)
            clear hWp
            have BP := hB.trans (BWp.mono hB.size)
            obtain ⟨xm0, xm1⟩ := HC.out Wp BP m hm
            have zb : b < Wp.heap.size := Nat.lt_of_lt_of_le hbz BWp.size
            refine wp_region_B (fun W => Below Wp.heap.size Wp W) (by kernel_rfl) (by repeat (first | exact Below.refl _ _ | apply Below.drew)) ?_
            first | refine wpB_skip 0 rfl (by kernel_rfl) (by kernel_rfl) (by kernel_rfl) (by rfl) ?_ | (refine wpB_text 0 (v := ?_) rfl (by kernel_rfl) (by kernel_rfl) (by kernel_rfl) (by rfl) (fun W hW => ?_) ?_; rotate_left; (have k1 := hW; obtain ⟨hc1, hf1⟩ := bcell k1; go_simp; refine comes_v ?_; exact k1))
            (try simp only [Act.put, List.setIfInBounds_toArray, List.set_cons_zero, List.set_cons_succ])
            first | refine wpB_skip 1 rfl (by kernel_rfl) (by kernel_rfl) (by kernel_rfl) (by rfl) ?_ | (refine wpB_text 1 (v := ?_) rfl (by kernel_rfl) (by kernel_rfl) (by kernel_rfl) (by rfl) (fun W hW => ?_) ?_; rotate_left; (have k1 := hW; obtain ⟨hc1, hf1⟩ := bcell k1; go_simp; refine comes_v ?_; exact k1))
            (try simp only [Act.put, List.setIfInBounds_toArray, List.set_cons_zero, List.set_cons_succ])
            first | refine wpB_skip 2 rfl (by kernel_rfl) (by kernel_rfl) (by kernel_rfl) (by rfl) ?_ | (refine wpB_text 2 (v := ?_) rfl (by kernel_rfl) (by kernel_rfl) (by kernel_rfl) (by rfl) (fun W hW => ?_) ?_; rotate_left; (have k1 := hW; obtain ⟨hc1, hf1⟩ := bcell k1; go_simp; refine comes_v ?_; exact k1))
            (try simp only [Act.put, List.setIfInBounds_toArray, List.set_cons_zero, List.set_cons_succ])
            first | refine wpB_skip 3 rfl (by kernel_rfl) (by kernel_rfl) (by kernel_rfl) (by rfl) ?_ | (refine wpB_text 3 (v := ?_) rfl (by kernel_rfl) (by kernel_rfl) (by kernel_rfl) (by rfl) (fun W hW => ?_) ?_; rotate_left; (have k1 := hW; obtain ⟨hc1, hf1⟩ := bcell k1; go_simp; refine comes_v ?_; exact k1))
            (try simp only [Act.put, List.setIfInBounds_toArray, List.set_cons_zero, List.set_cons_succ])
            first | refine wpB_skip 4 rfl (by kernel_rfl) (by kernel_rfl) (by kernel_rfl) (by rfl) ?_ | (refine wpB_text 4 (v := ?_) rfl (by kernel_rfl) (by kernel_rfl) (by kernel_rfl) (by rfl) (fun W hW => ?_) ?_; rotate_left; (have k1 := hW; obtain ⟨hc1, hf1⟩ := bcell k1; go_simp; refine comes_v ?_; exact k1))
            (try simp only [Act.put, List.setIfInBounds_toArray, List.set_cons_zero, List.set_cons_succ])
            first | refine wpB_skip 5 rfl (by kernel_rfl) (by kernel_rfl) (by kernel_rfl) (by rfl) ?_ | (refine wpB_text 5 (v := .bool false) rfl (by kernel_rfl) (by kernel_rfl) (by kernel_rfl) (by rfl) (fun W hW => ?_) ?_; (have k1 := hW; obtain ⟨hc1, hf1⟩ := bcell k1; go_simp; exact comes_c ( KL.out _) (fun wn hbn => bt_keep k1 hbn)))
            (try simp only [Act.put, List.setIfInBounds_toArray, List.set_cons_zero, List.set_cons_succ])
            refine wpB_done (by kernel_rfl) ?_ _
            intro W hW; have k1 := hW
            have B3 := BP.trans (k1.mono BP.size)
            clear xm0 xm1 zWp0 fWp0 yWp0_0 yWp0_1 eWp BWp BP y0 y1
            go_wp2_with fail
            go_roundg (n - (k + 1))
            case measure => have := HGK.out; omega
            case rel => exact ⟨k + 1, by omega, rfl, by go_num, by rw [E2.out], B3⟩
        · have hkn : n = k := by omega
          subst hkn
          go_wp2_with fail
          refine (KT.out wo (hb2.trans (hB.mono hb2.size))).mono ?_; rintro e w3 ⟨A3, c3, rfl, q1, q2, hb3, q3⟩
          go_wp2_with fail
          go_ret2
          exact retL_of_P (hb2.trans (hB.mono hb2.size)) q1 q2 hb3 q3
    · have ET : firsts (fun i => vx l ((fun i => (minI (vx l) l.length + i + l.length) % l.length) i)) l.length = firsts (tellF l) l.length := firsts_same _ fun i hi => by unfold tellF; rw [if_neg ha]
      have KT := Lib.hid (fun W (hb : Below w.heap.size w W) => by
        have h := tellFrom_any A c l (minI (vx l) l.length) 1 (fun i => (minI (vx l) l.length + i + l.length) % l.length) W hpos h10.2 (rd_more (rd_below hR hb (Nat.le_refl _)) hb.size) hm (by omega) (fun i hi => by
          rw [(show (minI (vx l) l.length : Int) + (i : Int) * 1 + (l.length : Int) = ((minI (vx l) l.length + i + l.length : Nat) : Int) by omega)]; exact (Int.natCast_emod _ _).symm)
        rw [ET] at h
        exact h)
      obtain ⟨b, off, rfl, hb, HC0⟩ := pts_of (by omega) hR
      clear hgt hg hR ET
      generalize firsts (tellF l) l.length = res at *
      generalize areaN l = ar at *
      generalize hN : l.length = n at *
      have HN := Lib.hid hN
      clear hN hm
      go_enter Try.func28, Try.ntmps28
      go_wp2_with fail
      refine K.out.mono ?_; rintro e w2 ⟨rfl, hb2⟩
      have HC := Lib.hid (fun W (hW : Below w2.heap.size w2 W) => HC0.out W (hb2.trans (hW.mono hb2.size)))
      have hz2 := hb2.size
      have hbb : b < w2.heap.size := by omega
      go_wp2_with fail
      go_loopg [6, 18] n (fun g s i wr => ∃ k : Nat, k ≤ n ∧ g = n - k ∧ i = .int .i64 k ∧ s = .int .i64 (minI (vx l) k : Nat) ∧ Below w2.heap.size w2 wr)
      case atStart => exact ⟨0, Nat.zero_le _, rfl, rfl, rfl, Below.refl _ _⟩
      case round =>
        obtain ⟨k, hk, hg, rfl, rfl, hB⟩ := hrel
        rename World => wo
        have HGK := Lib.hid hg
        clear hg
        by_cases hlt : k < n
        · obtain ⟨y0, y1⟩ := HC.out wo hB k hlt
          have hm : minI (vx l) k < n := by
            rcases Nat.eq_zero_or_pos k with h0 | h0
            · subst h0; exact hlt
            · have := minI_lt (vx l) k h0; omega
          have hbz : b < wo.heap.size := by have := hB.size; omega
          have EM : Hid (minI (vx l) (k + 1) = if ltP (vx l k) (vx l (minI (vx l) k)) = true then k else minI (vx l) k) := Lib.hid rfl
          generalize minI (vx l) k = m at *
          have KL := Lib.hid (fun W => isBefore_any (vx l k).1 (vx l k).2 (vx l m).1 (vx l m).2 W)
          have e1 : (m : Int) < (n : Int) := by omega
          by_cases hb : ltP (vx l k) (vx l m) = true
          · rw [show ltP ((vx l k).1, (vx l k).2) ((vx l m).1, (vx l m).2) = true from hb] at KL
            have E2 : Hid (minI (vx l) (k + 1) = k) := Lib.hid (by rw [EM.out, if_pos hb])
            clear EM hb
            go_wp2_with fail
            obtain ⟨Wp, hWp⟩ : ∃ Wp, Wp = (wo.alloc (.cells #[.int .i64 ((vx l k).1), .int .i64 ((vx l k).2)] 34)) := ⟨_, rfl⟩
            rw [← hWp]
            have yWp0_0 : Wp.cell? ⟨wo.heap.size, 0, none⟩ = some (.int .i64 ((vx l k).1)) := by rw [hWp]; go_simp
            have yWp0_1 : Wp.cell? ⟨wo.heap.size, 1, none⟩ = some (.int .i64 ((vx l k).2)) := by rw [hWp]; go_simp
            have fWp0 : ∀ o, Wp.frozen? ⟨wo.heap.size, o, none⟩ = false := by intro o; rw [hWp]; (repeat rw [frozen?_alloc_cells]); simp [World.frozen?]
            have zWp0 : wo.heap.size < Wp.heap.size := by rw [hWp]; simp <;> omega
            have BWp : Below wo.heap.size wo Wp := by rw [hWp]; exact (Below.alloc (Below.refl _ _) (by simp <;> omega) _)
            have eWp : Hid (Wp.heap.size = wo.heap.size + 1) := Lib.hid (by rw [hWp]; simp)
            clear hWp
            have BP := hB.trans (BWp.mono hB.size)
            obtain ⟨xm0, xm1⟩ := HC.out Wp BP m hm
            have zb : b < Wp.heap.size := Nat.lt_of_lt_of_le hbz BWp.size
            refine wp_region_B (fun W => Below Wp.heap.size Wp W) (by kernel_rfl) (by repeat (first | exact Below.refl _ _ | apply Below.drew)) ?_
            first | refine wpB_skip 0 rfl (by kernel_rfl) (by kernel_rfl) (by kernel_rfl) (by rfl) ?_ | (refine wpB_text 0 (v := ?_) rfl (by kernel_rfl) (by kernel_rfl) (by kernel_rfl) (by rfl) (fun W hW => ?_) ?_; rotate_left; (have k1 := hW; obtain ⟨hc1, hf1⟩ := bcell k1; go_simp; refine comes_v ?_; exact k1))
            (try simp only [Act.put, List.setIfInBounds_toArray, List.set_cons_zero, List.set_cons_succ])
            first | refine wpB_skip 1 rfl (by kernel_rfl) (by kernel_rfl) (by kernel_rfl) (by rfl) ?_ | (refine wpB_text 1 (v := ?_) rfl (by kernel_rfl) (by kernel_rfl) (by kernel_rfl) (by rfl) (fun W hW => ?_) ?_; rotate_left; (have k1 := hW; obtain ⟨hc1, hf1⟩ := bcell k1; go_simp; refine comes_v ?_; exact k1))
            (try simp only [Act.put, List.setIfInBounds_toArray, List.set_cons_zero, List.set_cons_succ])
            first | refine wpB_skip 2 rfl (by kernel_rfl) (by kernel_rfl) (by kernel_rfl) (by rfl) ?_ | (refine wpB_text 2 (v := ?_) rfl (by kernel_rfl) (by kernel_rfl) (by kernel_rfl) (by rfl) (fun W hW => ?_) ?_; rotate_left; (have k1 := hW; obtain ⟨hc1, hf1⟩ := bcell k1; go_simp; refine comes_v ?_; exact k1))
            (try simp only [Act.put, List.setIfInBounds_toArray, List.set_cons_zero, List.set_cons_succ])
            first | refine wpB_skip 3 rfl (by kernel_rfl) (by kernel_rfl) (by kernel_rfl) (by rfl) ?_ | (refine wpB_text 3 (v := ?_) rfl (by kernel_rfl) (by kernel_rfl) (by kernel_rfl) (by rfl) (fun W hW => ?_) ?_; rotate_left; (have k1 := hW; obtain ⟨hc1, hf1⟩ := bcell k1; go_simp; refine comes_v ?_; exact k1))
            (try simp only [Act.put, List.setIfInBounds_toArray, List.set_cons_zero, List.set_cons_succ])
            first | refine wpB_skip 4 rfl (by kernel_rfl) (by kernel_rfl) (by kernel_rfl) (by rfl) ?_ | (refine wpB_text 4 (v := ?_) rfl (by kernel_rfl) (by kernel_rfl) (by kernel_rfl) (by rfl) (fun W hW => ?_) ?_; rotate_left; (have k1 := hW; obtain ⟨hc1, hf1⟩ := bcell k1; go_simp; refine comes_v ?_; exact k1))
            (try simp only [Act.put, List.setIfInBounds_toArray, List.set_cons_zero, List.set_cons_succ])
            first | refine wpB_skip 5 rfl (by kernel_rfl) (by kernel_rfl) (by kernel_rfl) (by rfl) ?_ | (refine wpB_text 5 (v := .bool true) rfl (by kernel_rfl) (by kernel_rfl) (by kernel_rfl) (by rfl) (fun W hW => ?_) ?_; (have k1 := hW; obtain ⟨hc1, hf1⟩ := bcell k1; go_simp; exact comes_c ( KL.out _) (fun wn hbn => bt_keep k1 hbn)))
            (try simp only [Act.put, List.setIfInBounds_toArray, List.set_cons_zero, List.set_cons_succ])
            refine wpB_done (by kernel_rfl) ?_ _
            intro W hW; have k1 := hW
            have B3 := BP.trans (k1.mono BP.size)
            clear xm0 xm1 zWp0 fWp0 yWp0_0 yWp0_1 eWp BWp BP y0 y1
            go_wp2_with fail
            go_roundg (n - (k + 1))
            case measure => have := HGK.out; omega
            case rel => exact ⟨k + 1, by omega, rfl, by go_num, by rw [E2.out], B3⟩
          · rw [show ltP ((vx l k).1, (vx l k).2) ((vx l m).1, (vx l m).2) = false from (by simpa using hb)] at KL
            have E2 : Hid (minI (vx l) (k + 1) = m) := Lib.hid (by rw [EM.out, if_neg hb])
            clear EM hb
            go_wp2_with fail
            obtain ⟨Wp, hWp⟩ : ∃ Wp, Wp = (wo.alloc (.cells #[.int .i64 ((vx l k).1), .int .i64 ((vx l k).2)] 34)) := ⟨_, rfl⟩
            rw [← hWp]
            have yWp0_0 : Wp.cell? ⟨wo.heap.size, 0, none⟩ = some (.int .i64 ((vx l k).1)) := by rw [hWp]; go_simp
            have yWp0_1 : Wp.cell? ⟨wo.heap.size, 1, none⟩ = some (.int .i64 ((vx l k).2)) := by rw [hWp]; go_simp
            have fWp0 : ∀ o, Wp.frozen? ⟨wo.heap.size, o, none⟩ = false := by intro o; rw [hWp]; (repeat rw [frozen?_alloc_cells]); simp [World.frozen?]
            have zWp0 : wo.heap.size < Wp.heap.size := by rw [hWp]; simp <;> omega
            have BWp : Below wo.heap.size wo Wp := by rw [hWp]; exact (Below.alloc (Below.refl _ _) (by simp <;> omega) _)
            have eWp : Hid (Wp.heap.size = wo.heap.size + 1) := Lib.hid (by rw [hWp]; simp)
            clear hWp
            have BP := hB.trans (BWp.mono hB.size)
            obtain ⟨xm0, xm1⟩ := HC.out Wp BP m hm
            have zb : b < Wp.heap.size := Nat.lt_of_lt_of_le hbz BWp.size
            refine wp_region_B (fun W => Below Wp.heap.size Wp W) (by kernel_rfl) (by repeat (first | exact Below.refl _ _ | apply Below.drew)) ?_
            first | refine wpB_skip 0 rfl (by kernel_rfl) (by kernel_rfl) (by kernel_rfl) (by rfl) ?_ | (refine wpB_text 0 (v := ?_) rfl (by kernel_rfl) (by kernel_rfl) (by kernel_rfl) (by rfl) (fun W hW => ?_) ?_; rotate_left; (have k1 := hW; obtain ⟨hc1, hf1⟩ := bcell k1; go_simp; refine comes_v ?_; exact k1))
            (try simp only [Act.put, List.setIfInBounds_toArray, List.set_cons_zero, List.set_cons_succ])
            first | refine wpB_skip 1 rfl (by kernel_rfl) (by kernel_rfl) (by kernel_rfl) (by rfl) ?_ | (refine wpB_text 1 (v := ?_) rfl (by kernel_rfl) (by kernel_rfl) (by kernel_rfl) (by rfl) (fun W hW => ?_) ?_; rotate_left; (have k1 := hW; obtain ⟨hc1, hf1⟩ := bcell k1; go_simp; refine comes_v ?_; exact k1))
            (try simp only [Act.put, List.setIfInBounds_toArray, List.set_cons_zero, List.set_cons_succ])
            first | refine wpB_skip 2 rfl (by kernel_rfl) (by kernel_rfl) (by kernel_rfl) (by rfl) ?_ | (refine wpB_text 2 (v := ?_) rfl (by kernel_rfl) (by kernel_rfl) (by kernel_rfl) (by rfl) (fun W hW => ?_) ?_; rotate_left; (have k1 := hW; obtain ⟨hc1, hf1⟩ := bcell k1; go_simp; refine comes_v ?_; exact k1))
            (try simp only [Act.put, List.setIfInBounds_toArray, List.set_cons_zero, List.set_cons_succ])
            first | refine wpB_skip 3 rfl (by kernel_rfl) (by kernel_rfl) (by kernel_rfl) (by rfl) ?_ | (refine wpB_text 3 (v := ?_) rfl (by kernel_rfl) (by kernel_rfl) (by kernel_rfl) (by rfl) (fun W hW => ?_) ?_; rotate_left; (have k1 := hW; obtain ⟨hc1, hf1⟩ := bcell k1; go_simp; refine comes_v ?_; exact k1))
            (try simp only [Act.put, List.setIfInBounds_toArray, List.set_cons_zero, List.set_cons_succ])
            first | refine wpB_skip 4 rfl (by kernel_rfl) (by kernel_rfl) (by kernel_rfl) (by rfl) ?_ | (refine wpB_text 4 (v := ?_) rfl (by kernel_rfl) (by kernel_rfl) (by kernel_rfl) (by rfl) (fun W hW => ?_) ?_; rotate_left; (have k1 := hW; obtain ⟨hc1, hf1⟩ := bcell k1; go_simp; refine comes_v ?_; exact k1))
            (try simp only [Act.put, List.setIfInBounds_toArray, List.set_cons_zero, List.set_cons_succ])
            first | refine wpB_skip 5 rfl (by kernel_rfl) (by kernel_rfl) (by kernel_rfl) (by rfl) ?_ | (refine wpB_text 5 (v := .bool false) rfl (by kernel_rfl) (by kernel_rfl) (by kernel_rfl) (by rfl) (fun W hW => ?_) ?_; (have k1 := hW; obtain ⟨hc1, hf1⟩ := bcell k1; go_simp; exact comes_c ( KL.out _) (fun wn hbn => bt_keep k1 hbn)))
            (try simp only [Act.put, List.setIfInBounds_toArray, List.set_cons_zero, List.set_cons_succ])
            refine wpB_done (by kernel_rfl) ?_ _
            intro W hW; have k1 := hW
            have B3 := BP.trans (k1.mono BP.size)
            clear xm0 xm1 zWp0 fWp0 yWp0_0 yWp0_1 eWp BWp BP y0 y1
            go_wp2_with fail
            go_roundg (n - (k + 1))
            case measure => have := HGK.out; omega
            case rel => exact ⟨k + 1, by omega, rfl, by go_num, by rw [E2.out], B3⟩
        · have hkn : n = k := by omega
          subst hkn
          go_wp2_with fail
          refine (KT.out wo (hb2.trans (hB.mono hb2.size))).mono ?_; rintro e w3 ⟨A3, c3, rfl, q1, q2, hb3, q3⟩
          go_wp2_with fail
          go_ret2
          exact retL_of_P (hb2.trans (hB.mono hb2.size)) q1 q2 hb3 q3
  · have hgf := goodB_false hg
    rw [hgf, gi_false] at K
    rw [hgf]
    clear hgf hg hR
    go_enter Try.func28, Try.ntmps28
    go_wp2_with fail
    refine K.out.mono ?_; rintro e w1 ⟨rfl, hb1⟩
    go_wp2_with fail
    go_ret2
    exact retL_nil hb1
end Go.Proofs.Ytjkfdcjfoliboaa
/- contracts: AroundOf, on both sides -/
namespace Go.Proofs.Ytjkfdcjfoliboaa
open Go.ChangeShapes Go.WideShapes Go.ChangeAt Go.RowKit Go.Joins
set_option linter.unusedVariables false
set_option linter.unusedSimpArgs false
set_option maxRecDepth 4000
/-- good and one inside -/
noncomputable def oneG (l : List (Int × Int)) : Bool := bsl (goodB l) (oneB l)
theorem oneG_good {l : List (Int × Int)} (h : oneG l = true) : Good l := by
  by_cases hg : Good l
  · exact hg
  · unfold oneG at h; rw [goodB_false hg, bsl_false] at h; cases h
noncomputable def arB (l : List (Int × Int)) : List (Int × Int) := sel (oneG l) (arL (tl l))
theorem arB_len (l : List (Int × Int)) : (arB l).length ≤ 1600 := by
  unfold arB
  cases h : oneG l
  · simp [sel]
  · exact arL_len (tl_rng (oneG_good h))
set_option maxHeartbeats 1000000 in
theorem specAroundOf_any (A : Option Addr) (c : Nat) (l : List (Int × Int)) (w : World) (hn : l.length ≤ 1048576) (hcap : l.length ≤ c) (hc2 : c ≤ 9223372036854775807) (hR : Rd w w.heap.size A l) :
    Calls Try.prog 29 #[.slice A l.length c] w (RetL w (arB l) (oneG l)) := by
  have K : Hid (Calls Try.prog 49 #[.slice A l.length c] w fun e w' => e = .returned (.bool (oneG l)) ∧ Below w.heap.size w w') := Lib.hid (duOne_any A c l w hn hcap hc2 hR)
  unfold arB
  cases hB : oneG l
  · rw [hB] at K
    rw [show sel false (arL (tl l)) = [] from rfl]
    clear hB hR
    go_enter Try.func29, Try.ntmps29
    go_wp2_with fail
    refine K.out.mono ?_; rintro e w1 ⟨rfl, hb1⟩
    go_wp2_with fail
    go_ret2
    exact retL_nil hb1
  · rw [hB] at K
    have hg := oneG_good hB
    have h10 := hg.few
    have K2 := Lib.hid (fun W (hb : Below w.heap.size w W) => duAround_any A c l W hg hcap hc2 (rd_more (rd_below hR hb (Nat.le_refl _)) hb.size))
    rw [show sel true (arL (tl l)) = arL (tl l) from rfl]
    generalize arL (tl l) = m at *
    clear hB hg hR
    go_enter Try.func29, Try.ntmps29
    go_wp2_with fail
    refine K.out.mono ?_; rintro e w1 ⟨rfl, hb1⟩
    go_wp2_with fail
    refine (K2.out w1 hb1).mono ?_; rintro e w2 ⟨A2, c2, rfl, q1, q2, hb2, q3⟩
    go_wp2_with fail
    go_ret2
    exact retL_of_P hb1 q1 q2 hb2 q3
set_option maxHeartbeats 1000000 in
theorem oneInside_any (A : Option Addr) (c : Nat) (l : List (Int × Int)) (w : World) (hn : l.length ≤ 1048576) (hR : Rd w w.heap.size A l) :
    Calls Try.prog 56 #[.slice A l.length c] w (RetL w (sel (oneG l) (tl l)) (oneG l)) := by
  have K : Hid (Calls Try.prog 24 #[.slice A l.length c] w fun e w' => e = .returned (.tuple #[.bool (oneG l), .bool (goodB l)]) ∧ Below w.heap.size w w') := Lib.hid (implIsOneInside_any A c l w hn hR)
  cases hB : oneG l
  · rw [hB] at K
    rw [show sel false (tl l) = [] from rfl]
    generalize goodB l = gb at *
    clear hB hR
    go_enter Try.func56, Try.ntmps56
    go_wp2_with fail
    refine K.out.mono ?_; rintro e w1 ⟨rfl, hb1⟩
    go_wp2_with fail
    go_ret2
    exact retL_nil hb1
  · rw [hB] at K
    have hg := oneG_good hB
    have hgt := goodB_true hg
    have K2 := Lib.hid (fun W (hb : Below w.heap.size w W) => implTellFirst_any A c l W hn (rd_more (rd_below hR hb (Nat.le_refl _)) hb.size))
    rw [hgt] at K K2
    have K3 : Hid (∀ W, Below w.heap.size w W → Calls Try.prog 28 #[.slice A l.length c] W (RetL W (tl l) true)) := Lib.hid (fun W hb => K2.out W hb)
    rw [show sel true (tl l) = tl l from rfl]
    generalize tl l = m at *
    clear hB hg hgt hR K2
    go_enter Try.func56, Try.ntmps56
    go_wp2_with fail
    refine K.out.mono ?_; rintro e w1 ⟨rfl, hb1⟩
    go_wp2_with fail
    refine (K3.out w1 hb1).mono ?_; rintro e w2 ⟨A2, c2, rfl, q1, q2, hb2, q3⟩
    go_wp2_with fail
    go_ret2
    exact retL_of_P hb1 q1 q2 hb2 q3
/-- of no corner: no point -/
theorem pegsNone_any (A : Option Addr) (c : Nat) (w : World) :
    Calls Try.prog 57 #[.slice A 0 c] w fun e w' => e = .returned (.slice none 0 0) ∧ Below w.heap.size w w' := by
  have K : Hid (Calls Try.prog 39 #[.slice A 0 c] w fun e w' => (∃ X cx, e = .returned (.slice X 0 cx)) ∧ Below w.heap.size w w') := Lib.hid (by
    obtain ⟨i0, hi0, hz0, hz1, hz2⟩ := info_parts corner_info
    have hmk := fun W => run_make (P := Try.prog) W 46 49 i0 _ Try.underlying46 hi0 hz0 .i64 .i64 (0 : Int) (0 : Int) (by omega) (by omega) (by rw [hz2]; omega) (by omega)
    go_enter Try.func39, Try.ntmps39
    go_wp2_with fail
    go_loopg [13] 0 (fun g i wr => g = 0 ∧ i = .int .i64 0 ∧ Below w.heap.size w wr)
    case atStart => exact ⟨rfl, rfl, (Below.refl _ _).alloc (Nat.le_refl _) _⟩
    case round =>
      obtain ⟨hg, rfl, hB⟩ := hrel
      clear hmk
      go_wp2_with fail
      go_ret
      exact ⟨⟨_, _, rfl⟩, hB⟩)
  go_enter Try.func57, Try.ntmps57
  go_wp2_with fail
  refine K.out.mono ?_; rintro e w1 ⟨⟨X, cx, rfl⟩, hb1⟩
  go_wp2_with fail
  go_loopg [3, 10] 0 (fun gg s i wr => gg = 0 ∧ i = .int .i64 0 ∧ s = .slice none 0 0 ∧ Below w.heap.size w wr)
  case atStart => exact ⟨rfl, rfl, rfl, hb1⟩
  case round =>
    obtain ⟨hg, rfl, rfl, hB⟩ := hrel
    go_wp2_with fail
    go_ret
    exact ⟨rfl, hB⟩
set_option maxHeartbeats 1000000 in
theorem implAroundOf_any (A : Option Addr) (c : Nat) (l : List (Int × Int)) (w : World) (hn : l.length ≤ 1048576) (hR : Rd w w.heap.size A l) :
    Calls Try.prog 30 #[.slice A l.length c] w (RetL w (arB l) (oneG l)) := by
  have K := Lib.hid (oneInside_any A c l w hn hR)
  unfold arB
  cases hB : oneG l
  · rw [hB] at K
    rw [show sel false (tl l) = [] from rfl] at K
    rw [show sel false (arL (tl l)) = [] from rfl]
    have K0 : Hid (Calls Try.prog 56 #[.slice A l.length c] w fun e w' => (∃ X cx, e = .returned (.tuple #[.slice X 0 cx, .bool false])) ∧ Below w.heap.size w w') := Lib.hid (K.out.mono fun e w' h => by
      obtain ⟨A2, c2, rfl, q1, q2, hb1, q3⟩ := h
      exact ⟨⟨A2, c2, rfl⟩, hb1⟩)
    have KN := Lib.hid (fun A c W => pegsNone_any A c W)
    clear hB hR K
    go_enter Try.func30, Try.ntmps30
    go_wp2_with fail
    refine K0.out.mono ?_; rintro e w1 ⟨⟨X, cx, rfl⟩, hb1⟩
    go_wp2_with fail
    refine (KN.out X cx w1).mono ?_; rintro e w2 ⟨rfl, hb2⟩
    have B2 := hb1.trans (hb2.mono hb1.size)
    go_wp2_with fail
    go_ret2
    exact retL_nil B2
  · rw [hB] at K
    have hg := oneG_good hB
    have ht := tl_rng hg
    rw [show sel true (tl l) = tl l from rfl] at K
    rw [show sel true (arL (tl l)) = arL (tl l) from rfl]
    have K2 := Lib.hid (fun A c W (h : Rd W W.heap.size A (tl l)) => pegsAround_any A c (tl l) W ht h)
    generalize hm : arL (tl l) = m at *
    generalize tl l = t at *
    clear hB hg hR ht
    go_enter Try.func30, Try.ntmps30
    go_wp2_with fail
    refine K.out.mono ?_; rintro e w1 ⟨A2, c2, rfl, q1, q2, hb1, q3⟩
    have RD := rw_rd q3
    go_wp2_with fail
    refine (K2.out _ _ w1 RD).mono ?_; rintro e w2 ⟨A3, c3, rfl, q4, q5, hb2, q6⟩
    go_wp2_with fail
    go_ret2
    exact retL_of_P hb1 q4 q5 hb2 q6
end Go.Proofs.Ytjkfdcjfoliboaa
/- contracts: points that are marked, marks that are held -/
namespace Go.Proofs.Ytjkfdcjfoliboaa
open Go.ChangeShapes Go.WideShapes Go.ChangeAt Go.RowKit Go.Joins
set_option linter.unusedVariables false
set_option linter.unusedSimpArgs false
set_option maxRecDepth 4000
/-- what marks write: number after number -/
def mk (k : Int) (i : Nat) : Int × Int := (k + 2 * (i : Int), k + 2 * (i : Int) + 1)
def mix (k : Int) (i : Nat) (f : Nat → Int × Int) (j : Nat) : Int × Int := if j < i then mk k j else f j
theorem mix_step (k : Int) (i : Nat) (f : Nat → Int × Int) : (fun j => if j = i then mk k i else mix k i f j) = mix k (i + 1) f := by
  funext j
  unfold mix
  by_cases h : j = i
  · subst h; rw [if_pos rfl, if_pos (by omega)]
  · rw [if_neg h]
    by_cases h2 : j < i
    · rw [if_pos h2, if_pos (by omega)]
    · rw [if_neg h2, if_neg (by omega)]
/-- behind a mark -/
structure Marked (w w' : World) (lo B : Nat) (A : Option Addr) (n : Nat) (k : Int) (i : Nat) (f : Nat → Int × Int) : Prop where
  only : Only lo B w w'
  row : Rw w' lo B A n (mix k i f)
theorem marked_step {w w' : World} {lo B b off n i : Nat} {k : Int} {f : Nat → Int × Int} (h : Marked w w' lo B (some ⟨b, off, none⟩) n k i f) (hi : i < n) (hb : lo ≤ b) (hB : b < B) :
    Marked w ((w'.setCell ⟨b, off + i * 2, none⟩ (.int .i64 (k + 2 * (i : Int)))).setCell ⟨b, off + i * 2 + 1, none⟩ (.int .i64 (k + 2 * (i : Int) + 1))) lo B (some ⟨b, off, none⟩) n k (i + 1) f :=
  ⟨(h.only.set hb hB _).set hb hB _, by
    have := rw_store h.row hi (k + 2 * (i : Int)) (k + 2 * (i : Int) + 1)
    rw [show (fun j => if j = i then (k + 2 * (i : Int), k + 2 * (i : Int) + 1) else mix k i f j) = mix k (i + 1) f from mix_step k i f] at this
    exact this⟩
set_option maxHeartbeats 1000000 in
theorem markPegS_any (A : Option Addr) (c n : Nat) (k : Int) (lo B : Nat) (f : Nat → Int × Int) (w : World) (hn : n ≤ 1048576) (hk1 : 1 ≤ k) (hk2 : k ≤ 1000000000) (hR : Rw w lo B A n f) :
    Calls Try.prog 21 #[.slice A n c, .int .i64 k] w fun e w' => e = .returned (.int .i64 (k + 2 * (n : Int))) ∧ Only lo B w w' ∧ Rw w' lo B A n (mk k) := by
  have HM := Lib.hid (show Marked w w lo B A n k 0 f from ⟨Only.refl _ _ _, rw_same hR fun i hi => by unfold mix; rw [if_neg (by omega)]⟩)
  clear hR
  go_enter Try.func21, Try.ntmps21
  go_wp2_with fail
  go_loopg [1, 5] n (fun g u i wr => ∃ j : Nat, j ≤ n ∧ g = n - j ∧ i = .int .i64 j ∧ u = .int .i64 (k + 2 * (j : Int)) ∧ Hid (Marked w wr lo B A n k j f))
  case atStart => exact ⟨0, Nat.zero_le _, rfl, rfl, by simp, HM⟩
  case round =>
    obtain ⟨j, hj, hg, rfl, rfl, hM⟩ := hrel
    rename World => wo
    have HGK := Lib.hid hg
    clear hg HM
    by_cases hlt : j < n
    · obtain ⟨b, off, hA, hb1, hb2, hc⟩ := hM.out.row (by omega)
      subst hA
      obtain ⟨⟨c1, c2⟩, z1, z2⟩ := hc j hlt
      have M2 := Lib.hid (marked_step hM.out hlt hb1 hb2)
      clear hc hM
      have e1 : IntKind.i64.wrap (k + 2 * (j : Int) + 1) = k + 2 * (j : Int) + 1 := IntWalk.i64_in _ (by omega)
      go_wp2_with fail
      go_roundg (n - (j + 1))
      case measure => have := HGK.out; omega
      case rel => exact ⟨j + 1, by omega, rfl, by go_num, by go_num, M2⟩
    · have hjn : n = j := by omega
      subst hjn
      go_wp2_with fail
      go_ret
      exact ⟨rfl, hM.out.only, rw_same hM.out.row fun i hi => by unfold mix; rw [if_pos hi]⟩
end Go.Proofs.Ytjkfdcjfoliboaa
/- what the laws look at in their arguments, step by step -/
namespace Go.Proofs.Ytjkfdcjfoliboaa
open Go.ChangeShapes Go.WideShapes Go.ChangeAt Go.RowKit Go.Joins
set_option linter.unusedVariables false
set_option linter.unusedSimpArgs false
set_option maxRecDepth 4000
theorem law_eqX (l : List (Int × Int)) (hl : l.length ≤ 1048576) (W : World) (g g' c c' : Nat) (h : Set W g l.length l.length l) (h' : Set W g' l.length l.length l) :
    Calls Try.prog 15 #[.slice (some ⟨g, 0, none⟩) l.length c, .slice (some ⟨g', 0, none⟩) l.length c'] W fun e w' => e = .returned (.bool true) ∧ Below W.heap.size W w' :=
  (eqPegS_any _ _ c c' l l W hl hl (rd_of_set h) (rd_of_set h')).mono fun e w' hh => ⟨hh.1.trans (ret_bool (by simp)), hh.2⟩
theorem law_mark (l : List (Int × Int)) (hl : l.length ≤ 1048576) (W : World) (g c : Nat) (h : Set W g l.length l.length l) :
    Calls Try.prog 21 #[.slice (some ⟨g, 0, none⟩) l.length c, .int .i64 1] W fun e w' => e = .returned (.int .i64 (1 + 2 * (l.length : Int))) ∧ Only g (g + 1) W w' :=
  (markPegS_any _ c l.length 1 g (g + 1) (pt l) W hl (by omega) (by omega) (rw_of_set h)).mono fun e w' hh => ⟨hh.1, hh.2.1⟩
theorem only_grow {w W W' : World} {lo B : Nat} (h : Below w.heap.size w W) (ho : Only lo B W W') (hl : w.heap.size ≤ lo) : Below w.heap.size w W' := h.trans (ho.below.mono hl)
theorem below_grow {w W W' : World} (h : Below w.heap.size w W) (hb : Below W.heap.size W W') : Below w.heap.size w W' := h.trans (hb.mono h.size)
end Go.Proofs.Ytjkfdcjfoliboaa
/- contract: marks that are held -/
namespace Go.Proofs.Ytjkfdcjfoliboaa
open Go.ChangeShapes Go.WideShapes Go.ChangeAt Go.RowKit Go.Joins
set_option linter.unusedVariables false
set_option linter.unusedSimpArgs false
set_option maxRecDepth 4000
set_option maxHeartbeats 1000000 in
theorem heldPegS_any (A : Option Addr) (c n : Nat) (k : Int) (lo B : Nat) (w : World) (hn : n ≤ 1048576) (hk1 : 1 ≤ k) (hk2 : k ≤ 1000000000) (hR : Rw w lo B A n (mk k)) :
    Calls Try.prog 22 #[.slice A n c, .int .i64 k] w fun e w' => e = .returned (.int .i64 (k + 2 * (n : Int))) ∧ w = w' := by
  have HR := Lib.hid hR
  clear hR
  go_enter Try.func22, Try.ntmps22
  go_wp2_with fail
  go_loopg [1, 5] n (fun g u i wr => ∃ j : Nat, j ≤ n ∧ g = n - j ∧ i = .int .i64 j ∧ u = .int .i64 (k + 2 * (j : Int)) ∧ w = wr)
  case atStart => exact ⟨0, Nat.zero_le _, rfl, rfl, by simp, rfl⟩
  case round =>
    obtain ⟨j, hj, hg, rfl, rfl, rfl⟩ := hrel
    have HGK := Lib.hid hg
    clear hg
    by_cases hlt : j < n
    · obtain ⟨b, off, hA, hb1, hb2, hc⟩ := HR.out (by omega)
      subst hA
      obtain ⟨⟨c1, c2⟩, z1, z2⟩ := hc j hlt
      have c1' : w.cell? ⟨b, off + j * 2, none⟩ = some (.int .i64 (k + 2 * (j : Int))) := c1
      have c2' : w.cell? ⟨b, off + j * 2 + 1, none⟩ = some (.int .i64 (k + 2 * (j : Int) + 1)) := c2
      clear hc c1 c2
      go_wp2_with fail
      go_roundg (n - (j + 1))
      case measure => have := HGK.out; omega
      case rel => exact ⟨j + 1, by omega, rfl, by go_num, by go_num, rfl⟩
    · have hjn : n = j := by omega
      subst hjn
      go_wp2_with fail
      go_ret
      exact ⟨rfl, rfl⟩
end Go.Proofs.Ytjkfdcjfoliboaa
/- what the laws of functions that give a list of points look at, step by step -/
namespace Go.Proofs.Ytjkfdcjfoliboaa
open Go.ChangeShapes Go.WideShapes Go.ChangeAt Go.RowKit Go.Joins
set_option linter.unusedVariables false
set_option linter.unusedSimpArgs false
set_option maxRecDepth 4000
/-- a call that gives p points F and says whether there are such -/
def RetN (w : World) (p : Nat) (F : Nat → Int × Int) (b : Bool) (e : Ending) (w' : World) : Prop :=
  ∃ A c, e = .returned (.tuple #[.slice A p c, .bool b]) ∧ Below w.heap.size w w' ∧ Rw w' w.heap.size w'.heap.size A p F
theorem retN_of_L {w w' : World} {m : List (Int × Int)} {b : Bool} {e : Ending} (h : RetL w m b e w') : RetN w m.length (pt m) b e w' := by
  obtain ⟨A, c, h1, _, _, h4, h5⟩ := h
  exact ⟨A, c, h1, h4, h5⟩
theorem law_eq (m : List (Int × Int)) (hm : m.length ≤ 1048576) (W : World) (lo B lo' B' c c' : Nat) (A A' : Option Addr) (h : Rw W lo B A m.length (pt m)) (hB : B ≤ W.heap.size) (h' : Rw W lo' B' A' m.length (pt m)) (hB' : B' ≤ W.heap.size) :
    Calls Try.prog 15 #[.slice A m.length c, .slice A' m.length c'] W fun e w' => e = .returned (.bool true) ∧ Below W.heap.size W w' :=
  (eqPegS_any A A' c c' m m W hm hm (rd_more (rw_rd h) hB) (rd_more (rw_rd h') hB')).mono fun e w' hh => ⟨hh.1.trans (ret_bool (by simp)), hh.2⟩
end Go.Proofs.Ytjkfdcjfoliboaa
/- an argument that is a list of points, opened -/
namespace Go.Proofs.Ytjkfdcjfoliboaa
open Go.ChangeShapes Go.WideShapes Go.ChangeAt Go.RowKit Go.Joins
set_option linter.unusedVariables false
set_option linter.unusedSimpArgs false
set_option maxRecDepth 4000
open Go.Deep
theorem lt_of_cell {w : World} {a : Addr} {u : Value} (h : w.cell? a = some u) : a.block < w.heap.size := by
  rcases Nat.lt_or_ge a.block w.heap.size with h1 | h1
  · exact h1
  · unfold World.cell? at h
    rw [Array.getElem?_eq_none h1] at h
    simp at h
section
variable {H : Type} {enc : TypeId × Value → H}
/-- a point of the laws' package, read from two cells -/
theorem read_peg {w : World} {base : Nat} {spare : Nat → Bool} {held : Bool} {fuel : Nat} {c0 c1 : Value} {x : DataW H × List MemPlace}
    (h : DataW.trod enc Try.prog w base spare held fuel 31 [c0, c1] = some x) : ∃ a b : Int, c0 = .int .i64 a ∧ c1 = .int .i64 b := by
  obtain ⟨xs, n, _, _, _, hlen, hg⟩ := DataW.trod_struct Try.underlying31 h
  have g0 : DataW.trod enc Try.prog w base spare held n 3 ((List.drop 0 [c0, c1]).take (Try.prog.cellsOf 3)) = xs[0]? := hg 0 _ rfl
  have g1 : DataW.trod enc Try.prog w base spare held n 3 ((List.drop 1 [c0, c1]).take (Try.prog.cellsOf 3)) = xs[1]? := hg 1 _ rfl
  have k3 : Try.prog.cellsOf 3 = 1 := by kernel_rfl
  rw [k3] at g0 g1
  match xs, hlen with
  | [y0, y1], _ =>
    simp only [List.drop_zero, List.drop_succ_cons, List.take_succ_cons, List.take_zero, List.getElem?_cons_zero, List.getElem?_cons_succ] at g0 g1
    obtain ⟨a, e0, _, _⟩ := DataW.trod_int Try.underlying3 g0
    obtain ⟨b, e1, _, _⟩ := DataW.trod_int Try.underlying3 g1
    simp only [List.cons.injEq, and_true] at e0 e1
    exact ⟨a, b, e0, e1⟩
/-- an argument that is a list of points -/
theorem open_pegs {w : World} {r : Reach} {b0 base : Nat} {spare : Nat → Bool} {v : Value} {d : DataW H} {p : List MemPlace} (hv : Value.okWide Try.prog w r b0 22 v)
    (h : DataW.Trod enc Try.prog w base spare true 22 v d p) : ∃ (A : Option Addr) (c : Nat) (l : List (Int × Int)), v = .slice A l.length c ∧ l.length ≤ c ∧ c ≤ maxLen ∧ Rd w w.heap.size A l := by
  obtain ⟨a0, len, cap, rfl⟩ := okWide_slice Try.underlying22 hv
  obtain ⟨fuel, hf⟩ := h
  rcases open_slice Try.underlying22 hf with ⟨hcs, _⟩ | ⟨a, len', cap', m, n, D, Pl, hcs, _, hl, hm, hmm, _, hi⟩
  · simp [Value.cells] at hcs
    obtain ⟨rfl, rfl, rfl⟩ := hcs
    exact ⟨none, 0, [], rfl, by simp, by simp, fun h => absurd h (by simp)⟩
  · simp [Value.cells] at hcs
    obtain ⟨rfl, rfl, rfl⟩ := hcs
    have hml : len ≤ m := by rw [hmm]; split <;> omega
    have hC : Try.prog.cellsOf 31 = 2 := cells31
    have key : ∀ i, ∃ q : Int × Int, i < len → w.cell? (a.add (i * 2)) = some (.int .i64 q.1) ∧ w.cell? ((a.add (i * 2)).add 1) = some (.int .i64 q.2) := fun i => by
      by_cases hlt : i < len
      · obtain ⟨cs', hc, ht⟩ := hi i (by omega)
        rw [hC] at hc
        obtain ⟨_, hcl, hat⟩ := World.cells?_some hc
        match cs', hcl with
        | [c0, c1], _ =>
          obtain ⟨x, y, rfl, rfl⟩ := read_peg ht
          have h0 := hat 0 (by omega)
          have h1 := hat 1 (by omega)
          refine ⟨(x, y), fun _ => ⟨?_, h1⟩⟩
          have : (a.add (i * 2)).add 0 = a.add (i * 2) := by unfold Addr.add; simp
          rw [this] at h0
          exact h0
      · exact ⟨(0, 0), fun h => absurd h hlt⟩
    refine ⟨some a, cap, (List.range len).map fun i => Classical.choose (key i), by simp, by simpa using hl, hm, fun hpos => ?_⟩
    have hpos' : 0 < len := by simpa using hpos
    have k0 := (Classical.choose_spec (key 0) hpos').1
    obtain ⟨b, off, spot⟩ := a
    have hspot : spot = none := by simpa [Addr.add] using World.cell?_spot k0
    subst hspot
    refine ⟨b, off, rfl, ?_, fun i q hq => ?_⟩
    · have := lt_of_cell k0
      rw [add_plain] at this
      exact this
    · have hlt : i < len := by
        have := (List.getElem?_eq_some_iff.1 hq).1
        simpa using this
      have e : q = Classical.choose (key i) := by
        rw [List.getElem?_map, List.getElem?_range hlt] at hq
        simpa using hq.symm
      have hs := Classical.choose_spec (key i) hlt
      rw [← e] at hs
      rw [add_plain, add_plain] at hs
      exact hs
end
end Go.Proofs.Ytjkfdcjfoliboaa

