/- two lists of points held against each other -/
import Derived.Test.YtacabmbajadbgaaN
import Derived.Test.YtacabmbajadbgaaR
namespace Go.Proofs.Ytacabmbajadbgaa
open Go.ChangeShapes Go.WideShapes Go.ChangeAt Go.RowKit Go.Joins
set_option linter.unusedVariables false
set_option linter.unusedSimpArgs false
set_option maxRecDepth 4000
theorem eqPeg_any (a1 a2 b1 b2 : Int) (w : World) :
    Calls Try.prog 92 #[.agg #[.int .i64 a1, .int .i64 a2], .agg #[.int .i64 b1, .int .i64 b2]] w fun e w' => e = .returned (.bool (decide ((a1, a2) = (b1, b2)))) ∧ Below w.heap.size w w' := by
  by_cases h1 : a1 = b1
  · by_cases h2 : a2 = b2
    · subst h1 h2
      go_enter Try.func92, Try.ntmps92
      go_wp2_with fail
      go_ret
      exact ⟨ret_bool (by simp), (by repeat (first | exact Below.refl _ _ | assumption | apply Below.drew | refine Below.alloc ?_ (by simp <;> omega) _))⟩
    · subst h1
      go_enter Try.func92, Try.ntmps92
      go_wp2_with fail
      go_ret
      exact ⟨ret_bool (by simp [h2]), (by repeat (first | exact Below.refl _ _ | assumption | apply Below.drew | refine Below.alloc ?_ (by simp <;> omega) _))⟩
  · go_enter Try.func92, Try.ntmps92
    go_wp2_with fail
    go_ret
    exact ⟨ret_bool (by simp [h1]), (by repeat (first | exact Below.refl _ _ | assumption | apply Below.drew | refine Below.alloc ?_ (by simp <;> omega) _))⟩
theorem eq_at {l m : List (Int × Int)} (h : l.length = m.length) : l = m ↔ ∀ (k : Nat) (p q : Int × Int), l[k]? = some p → m[k]? = some q → p = q := by
  constructor
  · rintro rfl k p q hp hq
    rw [hp] at hq; injection hq
  · intro H
    apply List.ext_getElem h
    intro i h1 h2
    exact H i _ _ (List.getElem?_eq_getElem h1) (List.getElem?_eq_getElem h2)
/-- the same so far -/
def Same (l m : List (Int × Int)) (k : Nat) : Prop := ∀ i p q, i < k → l[i]? = some p → m[i]? = some q → p = q
theorem eqPegS_any (A B : Option Addr) (c d : Nat) (l m : List (Int × Int)) (w : World) (hn : l.length ≤ 1048576) (hm : m.length ≤ 1048576) (hA : Rd w w.heap.size A l) (hB : Rd w w.heap.size B m) :
    Calls Try.prog 48 #[.slice A l.length c, .slice B m.length d] w fun e w' => e = .returned (.bool (decide (l = m))) ∧ Below w.heap.size w w' := by
  by_cases hl : l.length = m.length
  · have HL := Lib.hid hl
    have RA := Lib.hid hA
    have RB := Lib.hid hB
    clear hA hB
    rw [← hl] at hm ⊢
    clear hl
    generalize hN : l.length = n at *
    have HN := Lib.hid hN
    clear hN
    go_enter Try.func48, Try.ntmps48
    go_wp2_with fail
    go_loopw [5] (fun i wr => ∃ k : Nat, i = .int .i64 k ∧ k ≤ n ∧ Below w.heap.size w wr ∧ Hid (Same l m k)) (fun i _ => n - (intOf i).toNat)
    case atStart => exact ⟨0, rfl, Nat.zero_le _, Below.refl _ _, Lib.hid (fun i p q h => absurd h (Nat.not_lt_zero _))⟩
    case round =>
      obtain ⟨k, rfl, hk, hBel, hS⟩ := hrel
      by_cases hlt : k < n
      · have hg1 : ∃ p, l[k]? = some p := ⟨_, List.getElem?_eq_getElem (by have := HN.out; omega)⟩
        have hg2 : ∃ q, m[k]? = some q := ⟨_, List.getElem?_eq_getElem (by have := HN.out; have := HL.out; omega)⟩
        obtain ⟨p, hp⟩ := hg1
        obtain ⟨q, hq⟩ := hg2
        obtain ⟨b, off, hA, hb, hcA⟩ := RA.out (by have := HN.out; omega)
        obtain ⟨b', off', hA', hb', hcB⟩ := RB.out (by have := HN.out; have := HL.out; omega)
        subst hA hA'
        have k0 : ∀ W, Below w.heap.size w W → (Below w.heap.size w W ∧ W.cell? ⟨b, off + k * 2, none⟩ = some (.int .i64 p.1) ∧ W.cell? ⟨b, off + k * 2 + 1, none⟩ = some (.int .i64 p.2) ∧ W.cell? ⟨b', off' + k * 2, none⟩ = some (.int .i64 q.1) ∧ W.cell? ⟨b', off' + k * 2 + 1, none⟩ = some (.int .i64 q.2)) := fun W hW =>
          ⟨hW, (hW.cell (p := ⟨b, off + k * 2, none⟩) hb).trans (hcA k p hp).1, (hW.cell (p := ⟨b, off + k * 2 + 1, none⟩) hb).trans (hcA k p hp).2, (hW.cell (p := ⟨b', off' + k * 2, none⟩) hb').trans (hcB k q hq).1, (hW.cell (p := ⟨b', off' + k * 2 + 1, none⟩) hb').trans (hcB k q hq).2⟩
        have K0 := Lib.hid k0
        have kp : ∀ W W', (Below w.heap.size w W ∧ W.cell? ⟨b, off + k * 2, none⟩ = some (.int .i64 p.1) ∧ W.cell? ⟨b, off + k * 2 + 1, none⟩ = some (.int .i64 p.2) ∧ W.cell? ⟨b', off' + k * 2, none⟩ = some (.int .i64 q.1) ∧ W.cell? ⟨b', off' + k * 2 + 1, none⟩ = some (.int .i64 q.2)) → Below W.heap.size W W' → (Below w.heap.size w W' ∧ W'.cell? ⟨b, off + k * 2, none⟩ = some (.int .i64 p.1) ∧ W'.cell? ⟨b, off + k * 2 + 1, none⟩ = some (.int .i64 p.2) ∧ W'.cell? ⟨b', off' + k * 2, none⟩ = some (.int .i64 q.1) ∧ W'.cell? ⟨b', off' + k * 2 + 1, none⟩ = some (.int .i64 q.2)) := fun W W' h hb => k0 W' (h.1.trans (hb.mono h.1.size))
        have KP := Lib.hid kp
        clear kp
        have HP := Lib.hid hp
        have HQ := Lib.hid hq
        clear k0 hcA hcB hp hq
        by_cases hpq : p = q
        · have EQ := Lib.hid (fun W => (eqPeg_any p.1 p.2 q.1 q.2 W).mono fun e w' h => (show e = .returned (.bool true) ∧ Below W.heap.size W w' from ⟨h.1.trans (ret_bool (by simp [hpq])), h.2⟩))
          have hS2 : Hid (Same l m (k + 1)) := Lib.hid (fun i p' q' h hp' hq' => by
            by_cases hik : i = k
            · subst hik
              have e1 := HP.out
              have e2 := HQ.out
              rw [hp'] at e1
              rw [hq'] at e2
              injection e1 with e1
              injection e2 with e2
              rw [e1, e2, hpq]
            · exact hS.out i p' q' (by omega) hp' hq')
          clear hpq hS
          go_wp2_with fail
          refine wp_region_B (fun W => Below w.heap.size w W ∧ W.cell? ⟨b, off + k * 2, none⟩ = some (.int .i64 p.1) ∧ W.cell? ⟨b, off + k * 2 + 1, none⟩ = some (.int .i64 p.2) ∧ W.cell? ⟨b', off' + k * 2, none⟩ = some (.int .i64 q.1) ∧ W.cell? ⟨b', off' + k * 2 + 1, none⟩ = some (.int .i64 q.2)) (by kernel_rfl) (K0.out _ hBel.drew) ?_
          first | refine wpB_skip 0 rfl (by kernel_rfl) (by kernel_rfl) (by kernel_rfl) (by rfl) ?_ | (refine wpB_text 0 (v := ?_) rfl (by kernel_rfl) (by kernel_rfl) (by kernel_rfl) (by rfl) (fun W hW => ?_) ?_; rotate_left; (obtain ⟨k1, k2, k3, k4, k5⟩ := hW;  go_simp; refine comes_v ?_; exact ⟨k1, k2, k3, k4, k5⟩))
          (try simp only [Act.put, List.setIfInBounds_toArray, List.set_cons_zero, List.set_cons_succ])
          first | refine wpB_skip 1 rfl (by kernel_rfl) (by kernel_rfl) (by kernel_rfl) (by rfl) ?_ | (refine wpB_text 1 (v := ?_) rfl (by kernel_rfl) (by kernel_rfl) (by kernel_rfl) (by rfl) (fun W hW => ?_) ?_; rotate_left; (obtain ⟨k1, k2, k3, k4, k5⟩ := hW;  go_simp; refine comes_v ?_; exact ⟨k1, k2, k3, k4, k5⟩))
          (try simp only [Act.put, List.setIfInBounds_toArray, List.set_cons_zero, List.set_cons_succ])
          first | refine wpB_skip 2 rfl (by kernel_rfl) (by kernel_rfl) (by kernel_rfl) (by rfl) ?_ | (refine wpB_text 2 (v := ?_) rfl (by kernel_rfl) (by kernel_rfl) (by kernel_rfl) (by rfl) (fun W hW => ?_) ?_; rotate_left; (obtain ⟨k1, k2, k3, k4, k5⟩ := hW;  go_simp; refine comes_v ?_; exact ⟨k1, k2, k3, k4, k5⟩))
          (try simp only [Act.put, List.setIfInBounds_toArray, List.set_cons_zero, List.set_cons_succ])
          first | refine wpB_skip 3 rfl (by kernel_rfl) (by kernel_rfl) (by kernel_rfl) (by rfl) ?_ | (refine wpB_text 3 (v := ?_) rfl (by kernel_rfl) (by kernel_rfl) (by kernel_rfl) (by rfl) (fun W hW => ?_) ?_; rotate_left; (obtain ⟨k1, k2, k3, k4, k5⟩ := hW;  go_simp; refine comes_v ?_; exact ⟨k1, k2, k3, k4, k5⟩))
          (try simp only [Act.put, List.setIfInBounds_toArray, List.set_cons_zero, List.set_cons_succ])
          first | refine wpB_skip 4 rfl (by kernel_rfl) (by kernel_rfl) (by kernel_rfl) (by rfl) ?_ | (refine wpB_text 4 (v := ?_) rfl (by kernel_rfl) (by kernel_rfl) (by kernel_rfl) (by rfl) (fun W hW => ?_) ?_; rotate_left; (obtain ⟨k1, k2, k3, k4, k5⟩ := hW;  go_simp; refine comes_v ?_; exact ⟨k1, k2, k3, k4, k5⟩))
          (try simp only [Act.put, List.setIfInBounds_toArray, List.set_cons_zero, List.set_cons_succ])
          first | refine wpB_skip 5 rfl (by kernel_rfl) (by kernel_rfl) (by kernel_rfl) (by rfl) ?_ | (refine wpB_text 5 (v := ?_) rfl (by kernel_rfl) (by kernel_rfl) (by kernel_rfl) (by rfl) (fun W hW => ?_) ?_; rotate_left; (obtain ⟨k1, k2, k3, k4, k5⟩ := hW;  go_simp; refine comes_v ?_; exact ⟨k1, k2, k3, k4, k5⟩))
          (try simp only [Act.put, List.setIfInBounds_toArray, List.set_cons_zero, List.set_cons_succ])
          first | refine wpB_skip 6 rfl (by kernel_rfl) (by kernel_rfl) (by kernel_rfl) (by rfl) ?_ | (refine wpB_text 6 (v := ?_) rfl (by kernel_rfl) (by kernel_rfl) (by kernel_rfl) (by rfl) (fun W hW => ?_) ?_; rotate_left; (obtain ⟨k1, k2, k3, k4, k5⟩ := hW;  go_simp; refine comes_v ?_; exact ⟨k1, k2, k3, k4, k5⟩))
          (try simp only [Act.put, List.setIfInBounds_toArray, List.set_cons_zero, List.set_cons_succ])
          first | refine wpB_skip 7 rfl (by kernel_rfl) (by kernel_rfl) (by kernel_rfl) (by rfl) ?_ | (refine wpB_text 7 (v := ?_) rfl (by kernel_rfl) (by kernel_rfl) (by kernel_rfl) (by rfl) (fun W hW => ?_) ?_; rotate_left; (obtain ⟨k1, k2, k3, k4, k5⟩ := hW;  go_simp; refine comes_v ?_; exact ⟨k1, k2, k3, k4, k5⟩))
          (try simp only [Act.put, List.setIfInBounds_toArray, List.set_cons_zero, List.set_cons_succ])
          first | refine wpB_skip 8 rfl (by kernel_rfl) (by kernel_rfl) (by kernel_rfl) (by rfl) ?_ | (refine wpB_text 8 (v := .bool true) rfl (by kernel_rfl) (by kernel_rfl) (by kernel_rfl) (by rfl) (fun W hW => ?_) ?_; (obtain ⟨k1, k2, k3, k4, k5⟩ := hW;  go_simp; exact comes_c ( EQ.out _) (fun wn hbn => KP.out _ _ ⟨k1, k2, k3, k4, k5⟩ hbn)))
          (try simp only [Act.put, List.setIfInBounds_toArray, List.set_cons_zero, List.set_cons_succ])
          first | refine wpB_skip 9 rfl (by kernel_rfl) (by kernel_rfl) (by kernel_rfl) (by rfl) ?_ | (refine wpB_text 9 (v := ?_) rfl (by kernel_rfl) (by kernel_rfl) (by kernel_rfl) (by rfl) (fun W hW => ?_) ?_; rotate_left; (obtain ⟨k1, k2, k3, k4, k5⟩ := hW;  go_simp; refine comes_v ?_; exact ⟨k1, k2, k3, k4, k5⟩))
          (try simp only [Act.put, List.setIfInBounds_toArray, List.set_cons_zero, List.set_cons_succ])
          refine wpB_done (by kernel_rfl) ?_ _
          intro W hW; obtain ⟨k1, k2, k3, k4, k5⟩ := hW
          go_wp2_with fail
          go_roundw
          case rel => first | exact ⟨k + 1, by go_num, by omega, k1, hS2⟩ | ((repeat apply Exists.intro); exact ⟨⟨k + 1, by go_num, by omega, k1, hS2⟩, rfl⟩)
          case measure => simp [intOf]; omega
        · have EQ := Lib.hid (fun W => (eqPeg_any p.1 p.2 q.1 q.2 W).mono fun e w' h => (show e = .returned (.bool false) ∧ Below W.heap.size W w' from ⟨h.1.trans (ret_bool (decide_eq_false hpq)), h.2⟩))
          have hne : Hid (¬ l = m) := Lib.hid (fun e => hpq (by have e1 := HP.out; rw [e, HQ.out] at e1; injection e1 with e1; exact e1.symm))
          clear hpq hS
          go_wp2_with fail
          refine wp_region_B (fun W => Below w.heap.size w W ∧ W.cell? ⟨b, off + k * 2, none⟩ = some (.int .i64 p.1) ∧ W.cell? ⟨b, off + k * 2 + 1, none⟩ = some (.int .i64 p.2) ∧ W.cell? ⟨b', off' + k * 2, none⟩ = some (.int .i64 q.1) ∧ W.cell? ⟨b', off' + k * 2 + 1, none⟩ = some (.int .i64 q.2)) (by kernel_rfl) (K0.out _ hBel.drew) ?_
          first | refine wpB_skip 0 rfl (by kernel_rfl) (by kernel_rfl) (by kernel_rfl) (by rfl) ?_ | (refine wpB_text 0 (v := ?_) rfl (by kernel_rfl) (by kernel_rfl) (by kernel_rfl) (by rfl) (fun W hW => ?_) ?_; rotate_left; (obtain ⟨k1, k2, k3, k4, k5⟩ := hW;  go_simp; refine comes_v ?_; exact ⟨k1, k2, k3, k4, k5⟩))
          (try simp only [Act.put, List.setIfInBounds_toArray, List.set_cons_zero, List.set_cons_succ])
          first | refine wpB_skip 1 rfl (by kernel_rfl) (by kernel_rfl) (by kernel_rfl) (by rfl) ?_ | (refine wpB_text 1 (v := ?_) rfl (by kernel_rfl) (by kernel_rfl) (by kernel_rfl) (by rfl) (fun W hW => ?_) ?_; rotate_left; (obtain ⟨k1, k2, k3, k4, k5⟩ := hW;  go_simp; refine comes_v ?_; exact ⟨k1, k2, k3, k4, k5⟩))
          (try simp only [Act.put, List.setIfInBounds_toArray, List.set_cons_zero, List.set_cons_succ])
          first | refine wpB_skip 2 rfl (by kernel_rfl) (by kernel_rfl) (by kernel_rfl) (by rfl) ?_ | (refine wpB_text 2 (v := ?_) rfl (by kernel_rfl) (by kernel_rfl) (by kernel_rfl) (by rfl) (fun W hW => ?_) ?_; rotate_left; (obtain ⟨k1, k2, k3, k4, k5⟩ := hW;  go_simp; refine comes_v ?_; exact ⟨k1, k2, k3, k4, k5⟩))
          (try simp only [Act.put, List.setIfInBounds_toArray, List.set_cons_zero, List.set_cons_succ])
          first | refine wpB_skip 3 rfl (by kernel_rfl) (by kernel_rfl) (by kernel_rfl) (by rfl) ?_ | (refine wpB_text 3 (v := ?_) rfl (by kernel_rfl) (by kernel_rfl) (by kernel_rfl) (by rfl) (fun W hW => ?_) ?_; rotate_left; (obtain ⟨k1, k2, k3, k4, k5⟩ := hW;  go_simp; refine comes_v ?_; exact ⟨k1, k2, k3, k4, k5⟩))
          (try simp only [Act.put, List.setIfInBounds_toArray, List.set_cons_zero, List.set_cons_succ])
          first | refine wpB_skip 4 rfl (by kernel_rfl) (by kernel_rfl) (by kernel_rfl) (by rfl) ?_ | (refine wpB_text 4 (v := ?_) rfl (by kernel_rfl) (by kernel_rfl) (by kernel_rfl) (by rfl) (fun W hW => ?_) ?_; rotate_left; (obtain ⟨k1, k2, k3, k4, k5⟩ := hW;  go_simp; refine comes_v ?_; exact ⟨k1, k2, k3, k4, k5⟩))
          (try simp only [Act.put, List.setIfInBounds_toArray, List.set_cons_zero, List.set_cons_succ])
          first | refine wpB_skip 5 rfl (by kernel_rfl) (by kernel_rfl) (by kernel_rfl) (by rfl) ?_ | (refine wpB_text 5 (v := ?_) rfl (by kernel_rfl) (by kernel_rfl) (by kernel_rfl) (by rfl) (fun W hW => ?_) ?_; rotate_left; (obtain ⟨k1, k2, k3, k4, k5⟩ := hW;  go_simp; refine comes_v ?_; exact ⟨k1, k2, k3, k4, k5⟩))
          (try simp only [Act.put, List.setIfInBounds_toArray, List.set_cons_zero, List.set_cons_succ])
          first | refine wpB_skip 6 rfl (by kernel_rfl) (by kernel_rfl) (by kernel_rfl) (by rfl) ?_ | (refine wpB_text 6 (v := ?_) rfl (by kernel_rfl) (by kernel_rfl) (by kernel_rfl) (by rfl) (fun W hW => ?_) ?_; rotate_left; (obtain ⟨k1, k2, k3, k4, k5⟩ := hW;  go_simp; refine comes_v ?_; exact ⟨k1, k2, k3, k4, k5⟩))
          (try simp only [Act.put, List.setIfInBounds_toArray, List.set_cons_zero, List.set_cons_succ])
          first | refine wpB_skip 7 rfl (by kernel_rfl) (by kernel_rfl) (by kernel_rfl) (by rfl) ?_ | (refine wpB_text 7 (v := ?_) rfl (by kernel_rfl) (by kernel_rfl) (by kernel_rfl) (by rfl) (fun W hW => ?_) ?_; rotate_left; (obtain ⟨k1, k2, k3, k4, k5⟩ := hW;  go_simp; refine comes_v ?_; exact ⟨k1, k2, k3, k4, k5⟩))
          (try simp only [Act.put, List.setIfInBounds_toArray, List.set_cons_zero, List.set_cons_succ])
          first | refine wpB_skip 8 rfl (by kernel_rfl) (by kernel_rfl) (by kernel_rfl) (by rfl) ?_ | (refine wpB_text 8 (v := .bool false) rfl (by kernel_rfl) (by kernel_rfl) (by kernel_rfl) (by rfl) (fun W hW => ?_) ?_; (obtain ⟨k1, k2, k3, k4, k5⟩ := hW;  go_simp; exact comes_c ( EQ.out _) (fun wn hbn => KP.out _ _ ⟨k1, k2, k3, k4, k5⟩ hbn)))
          (try simp only [Act.put, List.setIfInBounds_toArray, List.set_cons_zero, List.set_cons_succ])
          first | refine wpB_skip 9 rfl (by kernel_rfl) (by kernel_rfl) (by kernel_rfl) (by rfl) ?_ | (refine wpB_text 9 (v := ?_) rfl (by kernel_rfl) (by kernel_rfl) (by kernel_rfl) (by rfl) (fun W hW => ?_) ?_; rotate_left; (obtain ⟨k1, k2, k3, k4, k5⟩ := hW;  go_simp; refine comes_v ?_; exact ⟨k1, k2, k3, k4, k5⟩))
          (try simp only [Act.put, List.setIfInBounds_toArray, List.set_cons_zero, List.set_cons_succ])
          refine wpB_done (by kernel_rfl) ?_ _
          intro W hW; obtain ⟨k1, k2, k3, k4, k5⟩ := hW
          go_wp2_with fail
          go_ret
          exact ⟨ret_bool (decide_eq_false hne.out).symm, k1⟩
      · have hkn : k = n := by omega
        subst hkn
        go_wp2_with fail
        go_ret
        exact ⟨ret_bool (decide_eq_true ((eq_at (by have := HN.out; have := HL.out; omega)).2 (fun i p q hp hq => hS.out i p q (by have := (List.getElem?_eq_some_iff.1 hp).1; have := HN.out; omega) hp hq))).symm, hBel⟩
  · have hne : ¬ l = m := fun e => hl (by rw [e])
    have HH : decide (((l.length : Nat) : Int) = ((m.length : Nat) : Int)) = false := by simp; omega
    rw [decide_eq_false hne]
    go_enter Try.func48, Try.ntmps48
    go_wp2_with fail
    go_ret
    exact ⟨rfl, Below.refl _ _⟩
end Go.Proofs.Ytacabmbajadbgaa
