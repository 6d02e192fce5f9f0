/- joined: N O Q S Ml M T U Sc Za Zb Zc Zd -/
import Derived.Test.YtjkfdcjfoliboaaZAroundOf1
import Derived.LoopTactic
import Derived.Laws.MakeOwn
import Derived.OwnWalk
import Derived.Deep.LoopGhost
import Derived.Deep.QuietTactic
import Derived.BigQuiet
import Derived.StillTailTactics
import Derived.Test.YtjkfdcjfoliboaaRows
/- lists of points in memory: how they read; a list of the laws' package made one of the program's -/
namespace Go.Proofs.Ytjkfdcjfoliboaa
open Go.ChangeShapes Go.WideShapes Go.ChangeAt Go.RowKit Go.Joins
set_option linter.unusedVariables false
set_option linter.unusedSimpArgs false
set_option maxRecDepth 4000
/-- the slice's cells from address A on hold the points l; they lie below block B -/
def Rd (w : World) (B : Nat) (A : Option Addr) (l : List (Int × Int)) : Prop :=
  0 < l.length → ∃ b off, A = some ⟨b, off, none⟩ ∧ b < B ∧ ∀ i p, l[i]? = some p →
    w.cell? ⟨b, off + i * 2, none⟩ = some (.int .i64 p.1) ∧ w.cell? ⟨b, off + i * 2 + 1, none⟩ = some (.int .i64 p.2)
theorem rd_keep {w w' : World} {B : Nat} {A : Option Addr} {l : List (Int × Int)} (h : Rd w B A l) (hk : ∀ b o, b < B → w'.cell? ⟨b, o, none⟩ = w.cell? ⟨b, o, none⟩) : Rd w' B A l := by
  intro hl
  obtain ⟨b, off, e, hb, hc⟩ := h hl
  exact ⟨b, off, e, hb, fun i p hp => by rw [hk _ _ hb, hk _ _ hb]; exact hc i p hp⟩
theorem rd_below {w w' : World} {B B' : Nat} {A : Option Addr} {l : List (Int × Int)} (h : Rd w B A l) (hb : Below B' w w') (hB : B ≤ B') : Rd w' B A l :=
  rd_keep h fun b o hlt => hb.cell (p := ⟨b, o, none⟩) (by show b < B'; omega)
theorem rd_more {w : World} {B B' : Nat} {A : Option Addr} {l : List (Int × Int)} (h : Rd w B A l) (hB : B ≤ B') : Rd w B' A l := by
  intro hl
  obtain ⟨b, off, e, hb, hc⟩ := h hl
  exact ⟨b, off, e, by omega, hc⟩
theorem szPegS_any (A : Option Addr) (n c : Nat) (m : Int) (w : World) (hn : n ≤ 9223372036854775807) (h1 : 0 ≤ m) (h2 : m ≤ 1000000000) :
    Calls Try.prog 11 #[.slice A n c, .int .i64 m] w fun e w' => e = .returned (.int .i64 (if m - n < 0 then -1 else m - n)) ∧ w = w' := by
  by_cases h : m - n < 0
  · rw [if_pos h]
    go_enter Try.func11, Try.ntmps11
    go_wp2_with fail
    go_ret
    exact ⟨rfl, rfl⟩
  · rw [if_neg h]
    go_enter Try.func11, Try.ntmps11
    go_wp2_with fail
    go_ret
    exact ⟨rfl, rfl⟩
theorem peg_info : (Try.prog.info? 34).map (fun i => (i.zero, i.size, i.bytes)) = some (some (.agg #[.int .i64 0, .int .i64 0]), 2, 16) := by kernel_rfl
/-- a new block of points: number g, the first k of them set -/
def Set (w : World) (g n k : Nat) (l : List (Int × Int)) : Prop :=
  g < w.heap.size ∧ (∀ i, i < n → (∃ u, w.cell? ⟨g, i * 2, none⟩ = some u) ∧ (∃ u, w.cell? ⟨g, i * 2 + 1, none⟩ = some u) ∧ w.frozen? ⟨g, i * 2, none⟩ = false ∧ w.frozen? ⟨g, i * 2 + 1, none⟩ = false) ∧
    ∀ i p, i < k → l[i]? = some p → w.cell? ⟨g, i * 2, none⟩ = some (.int .i64 p.1) ∧ w.cell? ⟨g, i * 2 + 1, none⟩ = some (.int .i64 p.2)
theorem set_new (w : World) (t : TypeId) (n : Nat) (l : List (Int × Int)) : Set (w.alloc (.cells (madeCells #[.int .i64 0, .int .i64 0] (n * 2)) t)) w.heap.size n 0 l := by
  refine ⟨by simp, fun i hi => ?_, fun i p h => absurd h (Nat.not_lt_zero _)⟩
  have hs := size_madeCells #[.int .i64 0, .int .i64 0] (n * 2)
  have hb : ∀ j, j < n * 2 → ∃ u, (w.alloc (.cells (madeCells #[.int .i64 0, .int .i64 0] (n * 2)) t)).cell? ⟨w.heap.size, j, none⟩ = some u := fun j hj =>
    ⟨_, by rw [cell_of_row (w.alloc _) w.heap.size j _ t (0, 0) (heap_alloc_new w _)]; exact Array.getElem?_eq_getElem (by omega)⟩
  refine ⟨hb _ (by omega), hb _ (by omega), ?_, ?_⟩ <;> (rw [frozen?_alloc_cells]; simp [World.frozen?])
theorem set_below {w w' : World} {g n k : Nat} {l : List (Int × Int)} (h : Set w g n k l) (hb : Below w.heap.size w w') : Set w' g n k l := by
  obtain ⟨h1, h2, h3⟩ := h
  have hc := (bcell hb).1
  have hf := (bcell hb).2
  have hz := hb.size
  exact ⟨by omega, fun i hi => by rw [hc _ _ h1, hc _ _ h1, hf _ _ h1, hf _ _ h1]; exact h2 i hi, fun i p hi hp => by rw [hc _ _ h1, hc _ _ h1]; exact h3 i p hi hp⟩
theorem set_store {w : World} {g n k : Nat} {l : List (Int × Int)} (h : Set w g n k l) (hk : k < n) {p : Int × Int} (hp : l[k]? = some p) :
    Set ((w.setCell ⟨g, k * 2, none⟩ (.int .i64 p.1)).setCell ⟨g, k * 2 + 1, none⟩ (.int .i64 p.2)) g n (k + 1) l := by
  obtain ⟨h1, h2, h3⟩ := h
  have so : ∀ (W : World) (o o' : Nat) (u v : Value), (W.cell? ⟨g, o, none⟩ = some u) → ∃ u', (W.setCell ⟨g, o', none⟩ v).cell? ⟨g, o, none⟩ = some u' := fun W o o' u v h => cell?_setCell_some h
  have ne : ∀ (W : World) (o o' : Nat) (v : Value), o' ≠ o → (W.setCell ⟨g, o', none⟩ v).cell? ⟨g, o, none⟩ = W.cell? ⟨g, o, none⟩ := fun W o o' v h =>
    World.cell?_setCell_other W _ _ _ (fun e => h (by injection e))
  have sm : ∀ (W : World) (o : Nat) (u v : Value), W.cell? ⟨g, o, none⟩ = some u → (W.setCell ⟨g, o, none⟩ v).cell? ⟨g, o, none⟩ = some v := fun W o u v h => World.cell?_setCell_same W _ _ h
  refine ⟨by simpa [World.setCell] using h1, fun i hi => ?_, fun i q hi hq => ?_⟩
  · obtain ⟨⟨u1, e1⟩, ⟨u2, e2⟩, f1, f2⟩ := h2 i hi
    obtain ⟨u3, e3⟩ := so w _ (k * 2) u1 (.int .i64 p.1) e1
    obtain ⟨u4, e4⟩ := so w _ (k * 2) u2 (.int .i64 p.1) e2
    refine ⟨so _ _ _ u3 _ e3, so _ _ _ u4 _ e4, ?_, ?_⟩
    · rw [World.frozen?_setCell, World.frozen?_setCell]; exact f1
    · rw [World.frozen?_setCell, World.frozen?_setCell]; exact f2
  · by_cases hik : i = k
    · subst hik
      rw [hp] at hq
      injection hq with hq
      subst hq
      obtain ⟨⟨u1, e1⟩, ⟨u2, e2⟩, _, _⟩ := h2 i hk
      have e2' : (w.setCell ⟨g, i * 2, none⟩ (.int .i64 p.1)).cell? ⟨g, i * 2 + 1, none⟩ = some u2 := by rw [ne _ _ _ _ (by omega)]; exact e2
      exact ⟨by rw [ne _ _ _ _ (by omega)]; exact sm _ _ _ _ e1, sm _ _ _ _ e2'⟩
    · rw [ne _ _ _ _ (by omega), ne _ _ _ _ (by omega), ne _ _ _ _ (by omega), ne _ _ _ _ (by omega)]
      exact h3 i q (by omega) hq
theorem toPegS_any (A : Option Addr) (c : Nat) (l : List (Int × Int)) (w : World) (hn : l.length ≤ 1048576) (hR : Rd w w.heap.size A l) :
    Calls Try.prog 13 #[.slice A l.length c] w fun e w' => e = .returned (.slice (some ⟨w.heap.size, 0, none⟩) l.length l.length) ∧ Below w.heap.size w w' ∧ Set w' w.heap.size l.length l.length l := by
  obtain ⟨i0, hi0, hz0, hz1, hz2⟩ := info_parts peg_info
  have hmk := fun W => run_make (P := Try.prog) W 26 34 i0 _ Try.underlying26 hi0 hz0 .i64 .i64 (l.length : Int) (l.length : Int) (by omega) (by omega) (by rw [hz2]; omega) (by omega)
  have HR := Lib.hid hR
  clear hR
  generalize hN : l.length = n at *
  have HN := Lib.hid hN
  clear hN
  go_enter Try.func13, Try.ntmps13
  go_wp2_with fail
  have hS0 := set_new w 34 n l
  have hB0 : Below w.heap.size w (w.alloc (.cells (madeCells #[.int .i64 0, .int .i64 0] (n * 2)) 34)) := (Below.refl _ _).alloc (Nat.le_refl _) _
  go_loopw [4] (fun i wr => ∃ k : Nat, i = .int .i64 k ∧ k ≤ n ∧ Below w.heap.size w wr ∧ Set wr w.heap.size n k l) (fun i _ => n - (intOf i).toNat)
  case atStart => exact ⟨0, rfl, Nat.zero_le _, hB0, hS0⟩
  case round =>
    obtain ⟨k, rfl, hk, hB, hS⟩ := hrel
    by_cases hlt : k < n
    · have hget : ∃ p, l[k]? = some p := ⟨_, List.getElem?_eq_getElem (by have := HN.out; omega)⟩
      obtain ⟨p, hp⟩ := hget
      obtain ⟨b, off, hA, hb, hcell⟩ := HR.out (by have := HN.out; omega)
      subst hA
      obtain ⟨hc1, hc2⟩ := hcell k p hp
      have hq1 : wr.cell? ⟨b, off + k * 2, none⟩ = some (.int .i64 p.1) := (hB.cell (p := ⟨b, off + k * 2, none⟩) hb).trans hc1
      have hq2 : wr.cell? ⟨b, off + k * 2 + 1, none⟩ = some (.int .i64 p.2) := (hB.cell (p := ⟨b, off + k * 2 + 1, none⟩) hb).trans hc2
      have HC := Lib.hid hcell
      have HP := Lib.hid hp
      have HS := Lib.hid hS
      clear hcell hp hS hc1 hc2 hS0 hB0 hmk
      go_wp2_with fail
      refine (toPeg_any _ _ _).mono ?_; rintro e w1 ⟨rfl, hb1⟩
      have S1 := set_below HS.out hb1
      have B1 := hB.trans (hb1.mono hB.size)
      obtain ⟨g1, g2, g3⟩ := S1
      obtain ⟨⟨u1, d1⟩, ⟨u2, d2⟩, d3, d4⟩ := g2 k hlt
      have HS1 := Lib.hid (show Set w1 w.heap.size n k l from ⟨g1, g2, g3⟩)
      clear g2 g3 HS
      go_wp2_with fail
      have S2 := set_store HS1.out hlt HP.out
      have B2 := (B1.setCell (p := ⟨w.heap.size, k * 2, none⟩) (Nat.le_refl _) (.int .i64 p.1)).setCell (p := ⟨w.heap.size, k * 2 + 1, none⟩) (Nat.le_refl _) (.int .i64 p.2)
      go_roundw
      case rel => first | exact ⟨k + 1, by go_num, by omega, B2, S2⟩ | ((repeat apply Exists.intro); exact ⟨⟨k + 1, by go_num, by omega, B2, S2⟩, rfl⟩)
      case measure => simp [intOf]; omega
    · have hkn : k = n := by omega
      subst hkn
      go_wp2_with fail
      go_ret
      exact ⟨rfl, hB, hS⟩
end Go.Proofs.Ytjkfdcjfoliboaa
/- two lists of points held against each other -/
namespace Go.Proofs.Ytjkfdcjfoliboaa
open Go.ChangeShapes Go.WideShapes Go.ChangeAt Go.RowKit Go.Joins
set_option linter.unusedVariables false
set_option linter.unusedSimpArgs false
set_option maxRecDepth 4000
theorem eqPeg_any (a1 a2 b1 b2 : Int) (w : World) :
    Calls Try.prog 41 #[.agg #[.int .i64 a1, .int .i64 a2], .agg #[.int .i64 b1, .int .i64 b2]] w fun e w' => e = .returned (.bool (decide ((a1, a2) = (b1, b2)))) ∧ Below w.heap.size w w' := by
  by_cases h1 : a1 = b1
  · by_cases h2 : a2 = b2
    · subst h1 h2
      go_enter Try.func41, Try.ntmps41
      go_wp2_with fail
      go_ret
      exact ⟨ret_bool (by simp), (by repeat (first | exact Below.refl _ _ | assumption | apply Below.drew | refine Below.alloc ?_ (by simp <;> omega) _))⟩
    · subst h1
      go_enter Try.func41, Try.ntmps41
      go_wp2_with fail
      go_ret
      exact ⟨ret_bool (by simp [h2]), (by repeat (first | exact Below.refl _ _ | assumption | apply Below.drew | refine Below.alloc ?_ (by simp <;> omega) _))⟩
  · go_enter Try.func41, Try.ntmps41
    go_wp2_with fail
    go_ret
    exact ⟨ret_bool (by simp [h1]), (by repeat (first | exact Below.refl _ _ | assumption | apply Below.drew | refine Below.alloc ?_ (by simp <;> omega) _))⟩
theorem eq_at {l m : List (Int × Int)} (h : l.length = m.length) : l = m ↔ ∀ (k : Nat) (p q : Int × Int), l[k]? = some p → m[k]? = some q → p = q := by
  constructor
  · rintro rfl k p q hp hq
    rw [hp] at hq; injection hq
  · intro H
    apply List.ext_getElem h
    intro i h1 h2
    exact H i _ _ (List.getElem?_eq_getElem h1) (List.getElem?_eq_getElem h2)
/-- the same so far -/
def Same (l m : List (Int × Int)) (k : Nat) : Prop := ∀ i p q, i < k → l[i]? = some p → m[i]? = some q → p = q
theorem eqPegS_any (A B : Option Addr) (c d : Nat) (l m : List (Int × Int)) (w : World) (hn : l.length ≤ 1048576) (hm : m.length ≤ 1048576) (hA : Rd w w.heap.size A l) (hB : Rd w w.heap.size B m) :
    Calls Try.prog 15 #[.slice A l.length c, .slice B m.length d] w fun e w' => e = .returned (.bool (decide (l = m))) ∧ Below w.heap.size w w' := by
  by_cases hl : l.length = m.length
  · have HL := Lib.hid hl
    have RA := Lib.hid hA
    have RB := Lib.hid hB
    clear hA hB
    rw [← hl] at hm ⊢
    clear hl
    generalize hN : l.length = n at *
    have HN := Lib.hid hN
    clear hN
    go_enter Try.func15, Try.ntmps15
    go_wp2_with fail
    go_loopw [5] (fun i wr => ∃ k : Nat, i = .int .i64 k ∧ k ≤ n ∧ Below w.heap.size w wr ∧ Hid (Same l m k)) (fun i _ => n - (intOf i).toNat)
    case atStart => exact ⟨0, rfl, Nat.zero_le _, Below.refl _ _, Lib.hid (fun i p q h => absurd h (Nat.not_lt_zero _))⟩
    case round =>
      obtain ⟨k, rfl, hk, hBel, hS⟩ := hrel
      by_cases hlt : k < n
      · have hg1 : ∃ p, l[k]? = some p := ⟨_, List.getElem?_eq_getElem (by have := HN.out; omega)⟩
        have hg2 : ∃ q, m[k]? = some q := ⟨_, List.getElem?_eq_getElem (by have := HN.out; have := HL.out; omega)⟩
        obtain ⟨p, hp⟩ := hg1
        obtain ⟨q, hq⟩ := hg2
        obtain ⟨b, off, hA, hb, hcA⟩ := RA.out (by have := HN.out; omega)
        obtain ⟨b', off', hA', hb', hcB⟩ := RB.out (by have := HN.out; have := HL.out; omega)
        subst hA hA'
        have k0 : ∀ W, Below w.heap.size w W → (Below w.heap.size w W ∧ W.cell? ⟨b, off + k * 2, none⟩ = some (.int .i64 p.1) ∧ W.cell? ⟨b, off + k * 2 + 1, none⟩ = some (.int .i64 p.2) ∧ W.cell? ⟨b', off' + k * 2, none⟩ = some (.int .i64 q.1) ∧ W.cell? ⟨b', off' + k * 2 + 1, none⟩ = some (.int .i64 q.2)) := fun W hW =>
          ⟨hW, (hW.cell (p := ⟨b, off + k * 2, none⟩) hb).trans (hcA k p hp).1, (hW.cell (p := ⟨b, off + k * 2 + 1, none⟩) hb).trans (hcA k p hp).2, (hW.cell (p := ⟨b', off' + k * 2, none⟩) hb').trans (hcB k q hq).1, (hW.cell (p := ⟨b', off' + k * 2 + 1, none⟩) hb').trans (hcB k q hq).2⟩
        have K0 := Lib.hid k0
        have kp : ∀ W W', (Below w.heap.size w W ∧ W.cell? ⟨b, off + k * 2, none⟩ = some (.int .i64 p.1) ∧ W.cell? ⟨b, off + k * 2 + 1, none⟩ = some (.int .i64 p.2) ∧ W.cell? ⟨b', off' + k * 2, none⟩ = some (.int .i64 q.1) ∧ W.cell? ⟨b', off' + k * 2 + 1, none⟩ = some (.int .i64 q.2)) → Below W.heap.size W W' → (Below w.heap.size w W' ∧ W'.cell? ⟨b, off + k * 2, none⟩ = some (.int .i64 p.1) ∧ W'.cell? ⟨b, off + k * 2 + 1, none⟩ = some (.int .i64 p.2) ∧ W'.cell? ⟨b', off' + k * 2, none⟩ = some (.int .i64 q.1) ∧ W'.cell? ⟨b', off' + k * 2 + 1, none⟩ = some (.int .i64 q.2)) := fun W W' h hb => k0 W' (h.1.trans (hb.mono h.1.size))
        have KP := Lib.hid kp
        clear kp
        have HP := Lib.hid hp
        have HQ := Lib.hid hq
        clear k0 hcA hcB hp hq
        by_cases hpq : p = q
        · have EQ := Lib.hid (fun W => (eqPeg_any p.1 p.2 q.1 q.2 W).mono fun e w' h => (show e = .returned (.bool true) ∧ Below W.heap.size W w' from ⟨h.1.trans (ret_bool (by simp [hpq])), h.2⟩))
          have hS2 : Hid (Same l m (k + 1)) := Lib.hid (fun i p' q' h hp' hq' => by
            by_cases hik : i = k
            · subst hik
              have e1 := HP.out
              have e2 := HQ.out
              rw [hp'] at e1
              rw [hq'] at e2
              injection e1 with e1
              injection e2 with e2
              rw [e1, e2, hpq]
            · exact hS.out i p' q' (by omega) hp' hq')
          clear hpq hS
          go_wp2_with fail
          refine wp_region_B (fun W => Below w.heap.size w W ∧ W.cell? ⟨b, off + k * 2, none⟩ = some (.int .i64 p.1) ∧ W.cell? ⟨b, off + k * 2 + 1, none⟩ = some (.int .i64 p.2) ∧ W.cell? ⟨b', off' + k * 2, none⟩ = some (.int .i64 q.1) ∧ W.cell? ⟨b', off' + k * 2 + 1, none⟩ = some (.int .i64 q.2)) (by kernel_rfl) (K0.out _ hBel.drew) ?_
          first | refine wpB_skip 0 rfl (by kernel_rfl) (by kernel_rfl) (by kernel_rfl) (by rfl) ?_ | (refine wpB_text 0 (v := ?_) rfl (by kernel_rfl) (by kernel_rfl) (by kernel_rfl) (by rfl) (fun W hW => ?_) ?_; rotate_left; (obtain ⟨k1, k2, k3, k4, k5⟩ := hW;  go_simp; refine comes_v ?_; exact ⟨k1, k2, k3, k4, k5⟩))
          (try simp only [Act.put, List.setIfInBounds_toArray, List.set_cons_zero, List.set_cons_succ])
          first | refine wpB_skip 1 rfl (by kernel_rfl) (by kernel_rfl) (by kernel_rfl) (by rfl) ?_ | (refine wpB_text 1 (v := ?_) rfl (by kernel_rfl) (by kernel_rfl) (by kernel_rfl) (by rfl) (fun W hW => ?_) ?_; rotate_left; (obtain ⟨k1, k2, k3, k4, k5⟩ := hW;  go_simp; refine comes_v ?_; exact ⟨k1, k2, k3, k4, k5⟩))
          (try simp only [Act.put, List.setIfInBounds_toArray, List.set_cons_zero, List.set_cons_succ])
          first | refine wpB_skip 2 rfl (by kernel_rfl) (by kernel_rfl) (by kernel_rfl) (by rfl) ?_ | (refine wpB_text 2 (v := ?_) rfl (by kernel_rfl) (by kernel_rfl) (by kernel_rfl) (by rfl) (fun W hW => ?_) ?_; rotate_left; (obtain ⟨k1, k2, k3, k4, k5⟩ := hW;  go_simp; refine comes_v ?_; exact ⟨k1, k2, k3, k4, k5⟩))
          (try simp only [Act.put, List.setIfInBounds_toArray, List.set_cons_zero, List.set_cons_succ])
          first | refine wpB_skip 3 rfl (by kernel_rfl) (by kernel_rfl) (by kernel_rfl) (by rfl) ?_ | (refine wpB_text 3 (v := ?_) rfl (by kernel_rfl) (by kernel_rfl) (by kernel_rfl) (by rfl) (fun W hW => ?_) ?_; rotate_left; (obtain ⟨k1, k2, k3, k4, k5⟩ := hW;  go_simp; refine comes_v ?_; exact ⟨k1, k2, k3, k4, k5⟩))
          (try simp only [Act.put, List.setIfInBounds_toArray, List.set_cons_zero, List.set_cons_succ])
          first | refine wpB_skip 4 rfl (by kernel_rfl) (by kernel_rfl) (by kernel_rfl) (by rfl) ?_ | (refine wpB_text 4 (v := ?_) rfl (by kernel_rfl) (by kernel_rfl) (by kernel_rfl) (by rfl) (fun W hW => ?_) ?_; rotate_left; (obtain ⟨k1, k2, k3, k4, k5⟩ := hW;  go_simp; refine comes_v ?_; exact ⟨k1, k2, k3, k4, k5⟩))
          (try simp only [Act.put, List.setIfInBounds_toArray, List.set_cons_zero, List.set_cons_succ])
          first | refine wpB_skip 5 rfl (by kernel_rfl) (by kernel_rfl) (by kernel_rfl) (by rfl) ?_ | (refine wpB_text 5 (v := ?_) rfl (by kernel_rfl) (by kernel_rfl) (by kernel_rfl) (by rfl) (fun W hW => ?_) ?_; rotate_left; (obtain ⟨k1, k2, k3, k4, k5⟩ := hW;  go_simp; refine comes_v ?_; exact ⟨k1, k2, k3, k4, k5⟩))
          (try simp only [Act.put, List.setIfInBounds_toArray, List.set_cons_zero, List.set_cons_succ])
          first | refine wpB_skip 6 rfl (by kernel_rfl) (by kernel_rfl) (by kernel_rfl) (by rfl) ?_ | (refine wpB_text 6 (v := ?_) rfl (by kernel_rfl) (by kernel_rfl) (by kernel_rfl) (by rfl) (fun W hW => ?_) ?_; rotate_left; (obtain ⟨k1, k2, k3, k4, k5⟩ := hW;  go_simp; refine comes_v ?_; exact ⟨k1, k2, k3, k4, k5⟩))
          (try simp only [Act.put, List.setIfInBounds_toArray, List.set_cons_zero, List.set_cons_succ])
          first | refine wpB_skip 7 rfl (by kernel_rfl) (by kernel_rfl) (by kernel_rfl) (by rfl) ?_ | (refine wpB_text 7 (v := ?_) rfl (by kernel_rfl) (by kernel_rfl) (by kernel_rfl) (by rfl) (fun W hW => ?_) ?_; rotate_left; (obtain ⟨k1, k2, k3, k4, k5⟩ := hW;  go_simp; refine comes_v ?_; exact ⟨k1, k2, k3, k4, k5⟩))
          (try simp only [Act.put, List.setIfInBounds_toArray, List.set_cons_zero, List.set_cons_succ])
          first | refine wpB_skip 8 rfl (by kernel_rfl) (by kernel_rfl) (by kernel_rfl) (by rfl) ?_ | (refine wpB_text 8 (v := .bool true) rfl (by kernel_rfl) (by kernel_rfl) (by kernel_rfl) (by rfl) (fun W hW => ?_) ?_; (obtain ⟨k1, k2, k3, k4, k5⟩ := hW;  go_simp; exact comes_c ( EQ.out _) (fun wn hbn => KP.out _ _ ⟨k1, k2, k3, k4, k5⟩ hbn)))
          (try simp only [Act.put, List.setIfInBounds_toArray, List.set_cons_zero, List.set_cons_succ])
          first | refine wpB_skip 9 rfl (by kernel_rfl) (by kernel_rfl) (by kernel_rfl) (by rfl) ?_ | (refine wpB_text 9 (v := ?_) rfl (by kernel_rfl) (by kernel_rfl) (by kernel_rfl) (by rfl) (fun W hW => ?_) ?_; rotate_left; (obtain ⟨k1, k2, k3, k4, k5⟩ := hW;  go_simp; refine comes_v ?_; exact ⟨k1, k2, k3, k4, k5⟩))
          (try simp only [Act.put, List.setIfInBounds_toArray, List.set_cons_zero, List.set_cons_succ])
          refine wpB_done (by kernel_rfl) ?_ _
          intro W hW; obtain ⟨k1, k2, k3, k4, k5⟩ := hW
          go_wp2_with fail
          go_roundw
          case rel => first | exact ⟨k + 1, by go_num, by omega, k1, hS2⟩ | ((repeat apply Exists.intro); exact ⟨⟨k + 1, by go_num, by omega, k1, hS2⟩, rfl⟩)
          case measure => simp [intOf]; omega
        · have EQ := Lib.hid (fun W => (eqPeg_any p.1 p.2 q.1 q.2 W).mono fun e w' h => (show e = .returned (.bool false) ∧ Below W.heap.size W w' from ⟨h.1.trans (ret_bool (decide_eq_false hpq)), h.2⟩))
          have hne : Hid (¬ l = m) := Lib.hid (fun e => hpq (by have e1 := HP.out; rw [e, HQ.out] at e1; injection e1 with e1; exact e1.symm))
          clear hpq hS
          go_wp2_with fail
          refine wp_region_B (fun W => Below w.heap.size w W ∧ W.cell? ⟨b, off + k * 2, none⟩ = some (.int .i64 p.1) ∧ W.cell? ⟨b, off + k * 2 + 1, none⟩ = some (.int .i64 p.2) ∧ W.cell? ⟨b', off' + k * 2, none⟩ = some (.int .i64 q.1) ∧ W.cell? ⟨b', off' + k * 2 + 1, none⟩ = some (.int .i64 q.2)) (by kernel_rfl) (K0.out _ hBel.drew) ?_
          first | refine wpB_skip 0 rfl (by kernel_rfl) (by kernel_rfl) (by kernel_rfl) (by rfl) ?_ | (refine wpB_text 0 (v := ?_) rfl (by kernel_rfl) (by kernel_rfl) (by kernel_rfl) (by rfl) (fun W hW => ?_) ?_; rotate_left; (obtain ⟨k1, k2, k3, k4, k5⟩ := hW;  go_simp; refine comes_v ?_; exact ⟨k1, k2, k3, k4, k5⟩))
          (try simp only [Act.put, List.setIfInBounds_toArray, List.set_cons_zero, List.set_cons_succ])
          first | refine wpB_skip 1 rfl (by kernel_rfl) (by kernel_rfl) (by kernel_rfl) (by rfl) ?_ | (refine wpB_text 1 (v := ?_) rfl (by kernel_rfl) (by kernel_rfl) (by kernel_rfl) (by rfl) (fun W hW => ?_) ?_; rotate_left; (obtain ⟨k1, k2, k3, k4, k5⟩ := hW;  go_simp; refine comes_v ?_; exact ⟨k1, k2, k3, k4, k5⟩))
          (try simp only [Act.put, List.setIfInBounds_toArray, List.set_cons_zero, List.set_cons_succ])
          first | refine wpB_skip 2 rfl (by kernel_rfl) (by kernel_rfl) (by kernel_rfl) (by rfl) ?_ | (refine wpB_text 2 (v := ?_) rfl (by kernel_rfl) (by kernel_rfl) (by kernel_rfl) (by rfl) (fun W hW => ?_) ?_; rotate_left; (obtain ⟨k1, k2, k3, k4, k5⟩ := hW;  go_simp; refine comes_v ?_; exact ⟨k1, k2, k3, k4, k5⟩))
          (try simp only [Act.put, List.setIfInBounds_toArray, List.set_cons_zero, List.set_cons_succ])
          first | refine wpB_skip 3 rfl (by kernel_rfl) (by kernel_rfl) (by kernel_rfl) (by rfl) ?_ | (refine wpB_text 3 (v := ?_) rfl (by kernel_rfl) (by kernel_rfl) (by kernel_rfl) (by rfl) (fun W hW => ?_) ?_; rotate_left; (obtain ⟨k1, k2, k3, k4, k5⟩ := hW;  go_simp; refine comes_v ?_; exact ⟨k1, k2, k3, k4, k5⟩))
          (try simp only [Act.put, List.setIfInBounds_toArray, List.set_cons_zero, List.set_cons_succ])
          first | refine wpB_skip 4 rfl (by kernel_rfl) (by kernel_rfl) (by kernel_rfl) (by rfl) ?_ | (refine wpB_text 4 (v := ?_) rfl (by kernel_rfl) (by kernel_rfl) (by kernel_rfl) (by rfl) (fun W hW => ?_) ?_; rotate_left; (obtain ⟨k1, k2, k3, k4, k5⟩ := hW;  go_simp; refine comes_v ?_; exact ⟨k1, k2, k3, k4, k5⟩))
          (try simp only [Act.put, List.setIfInBounds_toArray, List.set_cons_zero, List.set_cons_succ])
          first | refine wpB_skip 5 rfl (by kernel_rfl) (by kernel_rfl) (by kernel_rfl) (by rfl) ?_ | (refine wpB_text 5 (v := ?_) rfl (by kernel_rfl) (by kernel_rfl) (by kernel_rfl) (by rfl) (fun W hW => ?_) ?_; rotate_left; (obtain ⟨k1, k2, k3, k4, k5⟩ := hW;  go_simp; refine comes_v ?_; exact ⟨k1, k2, k3, k4, k5⟩))
          (try simp only [Act.put, List.setIfInBounds_toArray, List.set_cons_zero, List.set_cons_succ])
          first | refine wpB_skip 6 rfl (by kernel_rfl) (by kernel_rfl) (by kernel_rfl) (by rfl) ?_ | (refine wpB_text 6 (v := ?_) rfl (by kernel_rfl) (by kernel_rfl) (by kernel_rfl) (by rfl) (fun W hW => ?_) ?_; rotate_left; (obtain ⟨k1, k2, k3, k4, k5⟩ := hW;  go_simp; refine comes_v ?_; exact ⟨k1, k2, k3, k4, k5⟩))
          (try simp only [Act.put, List.setIfInBounds_toArray, List.set_cons_zero, List.set_cons_succ])
          first | refine wpB_skip 7 rfl (by kernel_rfl) (by kernel_rfl) (by kernel_rfl) (by rfl) ?_ | (refine wpB_text 7 (v := ?_) rfl (by kernel_rfl) (by kernel_rfl) (by kernel_rfl) (by rfl) (fun W hW => ?_) ?_; rotate_left; (obtain ⟨k1, k2, k3, k4, k5⟩ := hW;  go_simp; refine comes_v ?_; exact ⟨k1, k2, k3, k4, k5⟩))
          (try simp only [Act.put, List.setIfInBounds_toArray, List.set_cons_zero, List.set_cons_succ])
          first | refine wpB_skip 8 rfl (by kernel_rfl) (by kernel_rfl) (by kernel_rfl) (by rfl) ?_ | (refine wpB_text 8 (v := .bool false) rfl (by kernel_rfl) (by kernel_rfl) (by kernel_rfl) (by rfl) (fun W hW => ?_) ?_; (obtain ⟨k1, k2, k3, k4, k5⟩ := hW;  go_simp; exact comes_c ( EQ.out _) (fun wn hbn => KP.out _ _ ⟨k1, k2, k3, k4, k5⟩ hbn)))
          (try simp only [Act.put, List.setIfInBounds_toArray, List.set_cons_zero, List.set_cons_succ])
          first | refine wpB_skip 9 rfl (by kernel_rfl) (by kernel_rfl) (by kernel_rfl) (by rfl) ?_ | (refine wpB_text 9 (v := ?_) rfl (by kernel_rfl) (by kernel_rfl) (by kernel_rfl) (by rfl) (fun W hW => ?_) ?_; rotate_left; (obtain ⟨k1, k2, k3, k4, k5⟩ := hW;  go_simp; refine comes_v ?_; exact ⟨k1, k2, k3, k4, k5⟩))
          (try simp only [Act.put, List.setIfInBounds_toArray, List.set_cons_zero, List.set_cons_succ])
          refine wpB_done (by kernel_rfl) ?_ _
          intro W hW; obtain ⟨k1, k2, k3, k4, k5⟩ := hW
          go_wp2_with fail
          go_ret
          exact ⟨ret_bool (decide_eq_false hne.out).symm, k1⟩
      · have hkn : k = n := by omega
        subst hkn
        go_wp2_with fail
        go_ret
        exact ⟨ret_bool (decide_eq_true ((eq_at (by have := HN.out; have := HL.out; omega)).2 (fun i p q hp hq => hS.out i p q (by have := (List.getElem?_eq_some_iff.1 hp).1; have := HN.out; omega) hp hq))).symm, hBel⟩
  · have hne : ¬ l = m := fun e => hl (by rw [e])
    have HH : decide (((l.length : Nat) : Int) = ((m.length : Nat) : Int)) = false := by simp; omega
    rw [decide_eq_false hne]
    go_enter Try.func15, Try.ntmps15
    go_wp2_with fail
    go_ret
    exact ⟨rfl, Below.refl _ _⟩
end Go.Proofs.Ytjkfdcjfoliboaa
/- contract: the model's test of a polygon -/
namespace Go.Proofs.Ytjkfdcjfoliboaa
open Go.ChangeShapes Go.WideShapes Go.ChangeAt Go.RowKit Go.Joins
set_option linter.unusedVariables false
set_option linter.unusedSimpArgs false
set_option maxRecDepth 4000
/-- corner number i, round and round -/
def vx (l : List (Int × Int)) (i : Nat) : Int × Int := (l[i % l.length]?).getD (0, 0)
def isPg (p : Int × Int) : Bool := isPegB p.1 p.2
def twP (a b c : Int × Int) : Int := twI a.1 a.2 b.1 b.2 c.1 c.2
def meP (a b c d : Int × Int) : Bool := meetB a.1 a.2 b.1 b.2 c.1 c.2 d.1 d.2
/-- what a polygon is -/
structure Good (l : List (Int × Int)) : Prop where
  few : 3 ≤ l.length ∧ l.length ≤ 10
  pegs : ∀ i, i < l.length → isPg (vx l i) = true
  diff : ∀ i j, j < i → i < l.length → vx l i ≠ vx l j
  turn : ∀ i, i < l.length → twP (vx l i) (vx l (i + 1)) (vx l (i + 2)) ≠ 0
  apart : ∀ i k, i + 2 ≤ k → k < l.length → k + 1 < l.length + i → meP (vx l i) (vx l (i + 1)) (vx l k) (vx l (k + 1)) = false
noncomputable def goodB (l : List (Int × Int)) : Bool := @decide (Good l) (Classical.propDecidable _)
theorem goodB_true {l : List (Int × Int)} (h : Good l) : goodB l = true := by unfold goodB; exact @decide_eq_true _ (Classical.propDecidable _) h
theorem goodB_false {l : List (Int × Int)} (h : ¬ Good l) : goodB l = false := by unfold goodB; exact @decide_eq_false _ (Classical.propDecidable _) h
theorem vx_get {l : List (Int × Int)} {i : Nat} (h : i < l.length) : l[i]? = some (vx l i) := by
  unfold vx; rw [Nat.mod_eq_of_lt h, List.getElem?_eq_getElem h]; rfl
theorem vx_mod {l : List (Int × Int)} (i : Nat) (h : 0 < l.length) : l[i % l.length]? = some (vx l i) := by
  unfold vx; rw [List.getElem?_eq_getElem (Nat.mod_lt _ h)]; rfl
/-- the first k corners are different pegs -/
def Fine (l : List (Int × Int)) (k : Nat) : Prop := ∀ i, i < k → isPg (vx l i) = true ∧ ∀ j, j < i → vx l i ≠ vx l j
/-- the corners below k turn, and their lines meet none behind -/
def Apart (l : List (Int × Int)) (m : Nat) : Prop := ∀ i, i < m → twP (vx l i) (vx l (i + 1)) (vx l (i + 2)) ≠ 0 ∧ ∀ k, i + 2 ≤ k → k < l.length → k + 1 < l.length + i → meP (vx l i) (vx l (i + 1)) (vx l k) (vx l (k + 1)) = false
def Turns (l : List (Int × Int)) (k : Nat) : Prop := twP (vx l k) (vx l (k + 1)) (vx l (k + 2)) ≠ 0
theorem vx_per (l : List (Int × Int)) (i : Nat) : vx l (i % l.length) = vx l i := by unfold vx; rw [Nat.mod_mod]
end Go.Proofs.Ytjkfdcjfoliboaa
/- plain mathematics: sums around a polygon -/
namespace Go.Proofs.Ytjkfdcjfoliboaa
open Go.ChangeShapes Go.WideShapes Go.ChangeAt Go.RowKit Go.Joins
set_option linter.unusedVariables false
set_option linter.unusedSimpArgs false
set_option maxRecDepth 4000
def cr (p q : Int × Int) : Int := p.1 * q.2 - q.1 * p.2
/-- f at corner 0, .., at corner k - 1, together -/
def sumTo (f : Nat → Int) : Nat → Int
  | 0 => 0
  | k + 1 => sumTo f k + f k
theorem sumTo_bd {f : Nat → Int} {m : Int} : ∀ (k : Nat), (∀ i, i < k → -m ≤ f i ∧ f i ≤ m) → -(m * k) ≤ sumTo f k ∧ sumTo f k ≤ m * k
  | 0, _ => by simp [sumTo]
  | k + 1, h => by
    have ih := sumTo_bd k (fun i hi => h i (by omega))
    have hk := h k (by omega)
    have e : m * ((k + 1 : Nat) : Int) = m * (k : Int) + m := by rw [Int.natCast_add, Int.mul_add]; simp
    rw [e]
    unfold sumTo
    omega
theorem sumTo_same {f g : Nat → Int} : ∀ (k : Nat), (∀ i, i < k → f i = g i) → sumTo f k = sumTo g k
  | 0, _ => rfl
  | k + 1, h => by unfold sumTo; rw [sumTo_same k (fun i hi => h i (by omega)), h k (by omega)]
def Sh (l : List (Int × Int)) (k : Nat) : Int := sumTo (fun i => cr (vx l i) (vx l (i + 1))) k
/-- twice the area -/
def areaN (l : List (Int × Int)) : Int := Sh l l.length
/-- the triangles from corner 0 to those below corner i, together -/
def fanTo (l : List (Int × Int)) (i : Nat) : Int := Sh l (i - 1) + cr (vx l (i - 1)) (vx l 0)
theorem fan_two (l : List (Int × Int)) : fanTo l 2 = 0 := by
  unfold fanTo Sh sumTo sumTo cr; simp; omega
theorem fan_step (l : List (Int × Int)) (i : Nat) (h : 2 ≤ i) : fanTo l (i + 1) = fanTo l i + twP (vx l 0) (vx l (i - 1)) (vx l i) := by
  obtain ⟨j, rfl⟩ : ∃ j, i = j + 1 := ⟨i - 1, by omega⟩
  have e1 : j + 1 + 1 - 1 = j + 1 := by omega
  have e2 : j + 1 - 1 = j := by omega
  unfold fanTo
  rw [e1, e2]
  have : Sh l (j + 1) = Sh l j + cr (vx l j) (vx l (j + 1)) := rfl
  rw [this]
  unfold twP twI cr
  grind
theorem fan_all (l : List (Int × Int)) (h : 3 ≤ l.length) : fanTo l l.length = areaN l := by
  unfold areaN fanTo
  obtain ⟨j, hj⟩ : ∃ j, l.length = j + 1 := ⟨l.length - 1, by omega⟩
  rw [hj]
  have e : j + 1 - 1 = j := by omega
  rw [e]
  have h1 : Sh l (j + 1) = Sh l j + cr (vx l j) (vx l (j + 1)) := rfl
  have h2 : vx l (j + 1) = vx l 0 := by rw [← hj]; unfold vx; simp
  rw [h1, h2]
theorem cr_bd {p q : Int × Int} (hp : isPg p = true) (hq : isPg q = true) : -3200 ≤ cr p q ∧ cr p q ≤ 3200 := by
  unfold isPg isPegB at hp hq
  simp only [Bool.and_eq_true, decide_eq_true_eq] at hp hq
  have h1 := mul_bd (x := p.1) (y := q.2) (m := 40) (n := 40) (by omega) (by omega) (by omega) (by omega)
  have h2 := mul_bd (x := q.1) (y := p.2) (m := 40) (n := 40) (by omega) (by omega) (by omega) (by omega)
  unfold cr
  omega
theorem vx_pg {l : List (Int × Int)} (h : ∀ i, i < l.length → isPg (vx l i) = true) (h0 : 0 < l.length) (i : Nat) : isPg (vx l i) = true := by
  rw [← vx_per]; exact h _ (Nat.mod_lt _ h0)
theorem good_pos {l : List (Int × Int)} (h : Good l) : 0 < l.length := by have := h.few.1; omega
theorem sh_bd {l : List (Int × Int)} (h : ∀ i, i < l.length → isPg (vx l i) = true) (h0 : 0 < l.length) (k : Nat) : -(3200 * (k : Int)) ≤ Sh l k ∧ Sh l k ≤ 3200 * (k : Int) :=
  sumTo_bd k fun i _ => cr_bd (vx_pg h h0 i) (vx_pg h h0 (i + 1))
theorem fan_bdW {l : List (Int × Int)} (h : ∀ i, i < l.length → isPg (vx l i) = true) (h0 : 0 < l.length) (i : Nat) (hi : i ≤ 60) : -400000 ≤ fanTo l i ∧ fanTo l i ≤ 400000 := by
  have h1 := sh_bd h h0 (i - 1)
  have h2 := cr_bd (vx_pg h h0 (i - 1)) (vx_pg h h0 0)
  unfold fanTo
  omega
theorem fan_bd {l : List (Int × Int)} (h : ∀ i, i < l.length → isPg (vx l i) = true) (h0 : 0 < l.length) (i : Nat) (hi : i ≤ 10) : -40000 ≤ fanTo l i ∧ fanTo l i ≤ 40000 := by
  have h1 := sh_bd h h0 (i - 1)
  have h2 := cr_bd (vx_pg h h0 (i - 1)) (vx_pg h h0 0)
  unfold fanTo
  omega
/-- how many steps the lines have together -/
def Rn (l : List (Int × Int)) (k : Nat) : Int := sumTo (fun i => stepN (vx l i).1 (vx l i).2 (vx l (i + 1)).1 (vx l (i + 1)).2) k
def onN (l : List (Int × Int)) : Int := Rn l l.length
theorem rn_bd {l : List (Int × Int)} (h : ∀ i, i < l.length → isPg (vx l i) = true) (h0 : 0 < l.length) (k : Nat) : -(160 * (k : Int)) ≤ Rn l k ∧ Rn l k ≤ 160 * (k : Int) :=
  sumTo_bd k fun i _ => by
    have := stepN_bd (a1 := (vx l i).1) (a2 := (vx l i).2) (b1 := (vx l (i + 1)).1) (b2 := (vx l (i + 1)).2) (vx_pg h h0 i) (vx_pg h h0 (i + 1))
    omega
/-- the told number of points inside -/
def insN (l : List (Int × Int)) : Int := ((areaN l).natAbs + 2 - onN l).tdiv 2
end Go.Proofs.Ytjkfdcjfoliboaa
/- contracts: greatest of two, size of a number -/
namespace Go.Proofs.Ytjkfdcjfoliboaa
open Go.ChangeShapes Go.WideShapes Go.ChangeAt Go.RowKit Go.Joins
set_option linter.unusedVariables false
set_option linter.unusedSimpArgs false
set_option maxRecDepth 4000
theorem below_dr {B : Nat} {a w : World} (h : Below B a w) (n : Nat) : Below B a (w.drewN n) := ⟨h.os, h.tape, h.output, h.size, h.block⟩
theorem l1Most_any (a b : Int) (w : World) : Calls Try.prog 93 #[.int .i64 a, .int .i64 b] w fun e w' => e = .returned (.int .i64 (max a b)) ∧ w = w' := by
  by_cases h : b < a
  all_goals
    go_enter Try.func93, Try.ntmps93
    go_wp2
    go_ret
    exact ⟨ret_int (by omega), rfl⟩
theorem l1Abs_any (a : Int) (w : World) (h1 : -100000000000000 ≤ a) (h2 : a ≤ 100000000000000) : Calls Try.prog 85 #[.int .i64 a] w fun e w' => e = .returned (.int .i64 (a.natAbs : Int)) ∧ w = w' := by
  go_enter Try.func85, Try.ntmps85
  go_wp2_with fail
  refine (l1Most_any _ _ _).mono ?_; rintro e _ ⟨rfl, rfl⟩
  go_wp2_with fail
  go_ret
  exact ⟨ret_int (by omega), rfl⟩
end Go.Proofs.Ytjkfdcjfoliboaa
/- contracts: the greatest common divisor, on both sides; how many points a line has -/
namespace Go.Proofs.Ytjkfdcjfoliboaa
open Go.ChangeShapes Go.WideShapes Go.ChangeAt Go.RowKit Go.Joins
set_option linter.unusedVariables false
set_option linter.unusedSimpArgs false
set_option maxRecDepth 4000
theorem gcd_step (m n : Nat) : Nat.gcd n (m % n) = Nat.gcd m n := by rw [Nat.gcd_comm n, ← Nat.gcd_rec, Nat.gcd_comm]
theorem pgCommon_any (a b : Int) (w : World) (h1 : -1000000 ≤ a) (h2 : a ≤ 1000000) (h3 : -1000000 ≤ b) (h4 : b ≤ 1000000) :
    Calls Try.prog 87 #[.int .i64 a, .int .i64 b] w fun e w' => e = .returned (.int .i64 ((Nat.gcd a.natAbs b.natAbs : Nat) : Int)) ∧ Below w.heap.size w w' := by
  have m1 : (a.natAbs : Int) ≤ 1000000 := by omega
  have m2 : (b.natAbs : Int) ≤ 1000000 := by omega
  have A1 := Lib.hid (fun W => l1Abs_any a W (by omega) (by omega))
  have A2 := Lib.hid (fun W => l1Abs_any b W (by omega) (by omega))
  generalize a.natAbs = p at *
  generalize b.natAbs = q at *
  go_enter Try.func87, Try.ntmps87
  go_wp2_with fail
  refine (A1.out _).mono ?_; rintro e _ ⟨rfl, rfl⟩
  go_wp2_with fail
  refine (A2.out _).mono ?_; rintro e _ ⟨rfl, rfl⟩
  go_wp2_with fail
  clear A1 A2
  go_loopw [0, 1] (fun u v wr => ∃ m n : Nat, u = .int .i64 m ∧ v = .int .i64 n ∧ Nat.gcd m n = Nat.gcd p q ∧ (m : Int) ≤ 1000000 ∧ (n : Int) ≤ 1000000 ∧ Below w.heap.size w wr) (fun _ v _ => (intOf v).toNat)
  case atStart => exact ⟨p, q, rfl, rfl, rfl, m1, m2, Below.refl _ _⟩
  case round =>
    obtain ⟨m, n, rfl, rfl, hg, hm, hn, hB⟩ := hrel
    by_cases hz : 0 < n
    · have hG := Lib.hid hg
      clear hg
      go_wp2_with fail
      go_quiet (fail)
      have hmod : m % n < n := Nat.mod_lt _ hz
      go_roundw
      case rel => ((repeat apply Exists.intro); exact ⟨⟨n, m % n, by go_num, by go_num, by rw [gcd_step]; exact hG.out, hn, by omega, by repeat (first | exact hB | apply Below.drew | apply below_dr)⟩, rfl⟩)
      case measure => simp [intOf]; omega
    · have hn0 : n = 0 := by omega
      subst hn0
      rw [Nat.gcd_zero_right] at hg
      subst hg
      go_wp2_with fail
      go_ret
      exact ⟨rfl, hB⟩
theorem tmod_step (x y : Int) : Nat.gcd y.natAbs (x.tmod y).natAbs = Nat.gcd x.natAbs y.natAbs := by
  rw [Int.natAbs_tmod]; exact gcd_step _ _
theorem tmod_bd (x y : Int) (h : y ≠ 0) : (x.tmod y).natAbs < y.natAbs := by
  rw [Int.natAbs_tmod]; exact Nat.mod_lt _ (by omega)
theorem greatestDivisor_any (a b : Int) (w : World) (h1 : -1000000 ≤ a) (h2 : a ≤ 1000000) (h3 : -1000000 ≤ b) (h4 : b ≤ 1000000) :
    Calls Try.prog 92 #[.int .i64 a, .int .i64 b] w fun e w' => e = .returned (.int .i64 ((Nat.gcd a.natAbs b.natAbs : Nat) : Int)) ∧ Below w.heap.size w w' := by
  have R : ∃ r, r = Nat.gcd a.natAbs b.natAbs := ⟨_, rfl⟩
  obtain ⟨r, hr⟩ := R
  rw [← hr]
  have HR := Lib.hid hr
  clear hr
  go_enter Try.func92, Try.ntmps92
  go_wp2_with fail
  go_loopw [0, 1] (fun u v wr => ∃ x y : Int, u = .int .i64 x ∧ v = .int .i64 y ∧ Hid (r = Nat.gcd x.natAbs y.natAbs) ∧ -1000000 ≤ x ∧ x ≤ 1000000 ∧ -1000000 ≤ y ∧ y ≤ 1000000 ∧ Below w.heap.size w wr) (fun _ v _ => (intOf v).natAbs)
  case atStart => exact ⟨a, b, rfl, rfl, HR, h1, h2, h3, h4, Below.refl _ _⟩
  case round =>
    obtain ⟨x, y, rfl, rfl, hg, hx1, hx2, hy1, hy2, hB⟩ := hrel
    by_cases hz : y = 0
    · subst hz
      go_wp2_with fail
      all_goals
        go_ret
        exact ⟨ret_int (by have := hg.out; simp at this; omega), hB⟩
    · go_wp2_with fail
      go_quiet (fail)
      have hmod := tmod_bd x y hz
      go_roundw
      case rel => ((repeat apply Exists.intro); exact ⟨⟨y, x.tmod y, by go_num, by go_num, by rw [tmod_step]; exact hg, hy1, hy2, by omega, by omega, by repeat (first | exact hB | apply Below.drew | apply below_dr)⟩, rfl⟩)
      case measure => simpa [intOf] using hmod
theorem stepsTo_any (a1 a2 b1 b2 : Int) (w : World) (ha : Sz a1 a2) (hb : Sz b1 b2) :
    Calls Try.prog 84 #[.agg #[.int .i64 a1, .int .i64 a2], .agg #[.int .i64 b1, .int .i64 b2]] w fun e w' => e = .returned (.int .i64 (stepN a1 a2 b1 b2)) ∧ Below w.heap.size w w' := by
  obtain ⟨x1, x2, x3, x4⟩ := ha
  obtain ⟨x5, x6, x7, x8⟩ := hb
  go_enter Try.func84, Try.ntmps84
  go_wp2_with fail
  refine (greatestDivisor_any _ _ _ (by omega) (by omega) (by omega) (by omega)).mono ?_; rintro e w1 ⟨rfl, hb1⟩
  obtain ⟨hc1, hf1⟩ := bcell hb1
  have z1_0 : w.heap.size < w1.heap.size := by (have := hb1.size; simp at this; omega)
  have z1_1 : w.heap.size + 1 < w1.heap.size := by (have := hb1.size; simp at this; omega)
  have B1 : Below w.heap.size w w1 := (Below.alloc (Below.alloc (Below.refl _ _) (by simp <;> omega) _) (by simp <;> omega) _).trans (hb1.mono (by simp <;> omega))
  go_wp2_with fail
  go_ret
  exact ⟨ret_int (by unfold stepN; rw [show (b1 - a1).natAbs = (a1 - b1).natAbs by omega, show (b2 - a2).natAbs = (a2 - b2).natAbs by omega]), B1⟩
end Go.Proofs.Ytjkfdcjfoliboaa
/- contracts: the model's IsPolygon; arePegs -/
namespace Go.Proofs.Ytjkfdcjfoliboaa
open Go.ChangeShapes Go.WideShapes Go.ChangeAt Go.RowKit Go.Joins
set_option linter.unusedVariables false
set_option linter.unusedSimpArgs false
set_option maxRecDepth 4000
/-- all of them are pegs -/
def pegsB (l : List (Int × Int)) : Bool := l.all isPg
theorem pegsB_iff (l : List (Int × Int)) : pegsB l = true ↔ ∀ i, i < l.length → isPg (vx l i) = true := by
  unfold pegsB
  rw [List.all_eq_true]
  constructor
  · intro h i hi
    exact h _ (List.mem_of_getElem? (vx_get hi))
  · intro h p hp
    obtain ⟨i, hi, rfl⟩ := List.mem_iff_getElem.1 hp
    have := h i hi
    have e := vx_get hi
    rw [List.getElem?_eq_getElem hi] at e
    injection e with e
    rw [e]; exact this
theorem arePegs_any (A : Option Addr) (c : Nat) (l : List (Int × Int)) (w : World) (hn : l.length ≤ 1048576) (hR : Rd w w.heap.size A l) :
    Calls Try.prog 66 #[.slice A l.length c] w fun e w' => e = .returned (.bool (pegsB l)) ∧ Below w.heap.size w w' := by
  have HR := Lib.hid hR
  clear hR
  have HI := Lib.hid (pegsB_iff l)
  have HF := Lib.hid (fun h : ¬ pegsB l = true => (by simpa using h : pegsB l = false))
  generalize hN : l.length = n at *
  have HN := Lib.hid hN
  clear hN
  go_enter Try.func66, Try.ntmps66
  go_wp2_with fail
  go_loopg [7] n (fun g i wr => ∃ k : Nat, k ≤ n ∧ g = n - k ∧ i = .int .i64 k ∧ Below w.heap.size w wr ∧ Hid (∀ j, j < k → isPg (vx l j) = true))
  case atStart => exact ⟨0, Nat.zero_le _, rfl, rfl, Below.refl _ _, Lib.hid (fun i h => absurd h (Nat.not_lt_zero _))⟩
  case round =>
    obtain ⟨k, hk, hg, rfl, hB, hF⟩ := hrel
    rename World => wo
    have HGK := Lib.hid hg
    clear hg
    by_cases hlt : k < n
    · obtain ⟨b, off, hA, hb, hcell⟩ := HR.out (by have := HN.out; omega)
      subst hA
      obtain ⟨hc1, hc2⟩ := hcell k _ (vx_get (by have := HN.out; omega))
      clear hcell HR
      have hq1 : wo.cell? ⟨b, off + k * 2, none⟩ = some (.int .i64 (vx l k).1) := (hB.cell (p := ⟨b, off + k * 2, none⟩) hb).trans hc1
      have hq2 : wo.cell? ⟨b, off + k * 2 + 1, none⟩ = some (.int .i64 (vx l k).2) := (hB.cell (p := ⟨b, off + k * 2 + 1, none⟩) hb).trans hc2
      clear hc1 hc2
      have K1 := Lib.hid (fun W => implIsPeg_any (vx l k).1 (vx l k).2 W)
      have hzB := hB.size
      by_cases hpg : isPegB (vx l k).1 (vx l k).2 = true
      · rw [hpg] at K1
        have hF2 : Hid (∀ j, j < k + 1 → isPg (vx l j) = true) := Lib.hid (fun j hj => by
          by_cases hjk : j = k
          · subst hjk; exact hpg
          · exact hF.out j (by omega))
        clear hpg hF
        go_wp2_with fail
        refine (K1.out _).mono ?_; rintro e w1 ⟨rfl, hb1⟩
        have B1 := (Below.alloc hB hzB (.cells #[.int .i64 (vx l k).1, .int .i64 (vx l k).2] 34)).trans (hb1.mono (by simp; omega))
        go_wp2_with fail
        go_roundg (n - (k + 1))
        case measure => have := HGK.out; omega
        case rel => exact ⟨k + 1, by omega, rfl, by go_num, B1, hF2⟩
      · have hpf : isPegB (vx l k).1 (vx l k).2 = false := by simpa using hpg
        rw [hpf] at K1
        have hng : Hid (pegsB l = false) := Lib.hid (HF.out (fun h => hpg (HI.out.1 h k (by have := HN.out; omega))))
        clear hpg hpf
        go_wp2_with fail
        refine (K1.out _).mono ?_; rintro e w1 ⟨rfl, hb1⟩
        have B1 := (Below.alloc hB hzB (.cells #[.int .i64 (vx l k).1, .int .i64 (vx l k).2] 34)).trans (hb1.mono (by simp; omega))
        go_wp2_with fail
        go_ret
        exact ⟨ret_bool hng.out.symm, B1⟩
    · have hkn : n = k := by omega
      subst hkn
      have hy : Hid (pegsB l = true) := Lib.hid (HI.out.2 (fun i hi => hF.out i (by have := HN.out; omega)))
      go_wp2_with fail
      go_ret
      exact ⟨ret_bool hy.out.symm, hB⟩
end Go.Proofs.Ytjkfdcjfoliboaa
/- contract: the corners of a polygon, each with both beside it -/
namespace Go.Proofs.Ytjkfdcjfoliboaa
open Go.ChangeShapes Go.WideShapes Go.ChangeAt Go.RowKit Go.Joins
set_option linter.unusedVariables false
set_option linter.unusedSimpArgs false
set_option maxRecDepth 4000
theorem corner_info : (Try.prog.info? 49).map (fun i => (i.zero, i.size, i.bytes)) = some (some (.agg #[.int .i64 0, .int .i64 0, .int .i64 0, .int .i64 0, .int .i64 0, .int .i64 0]), 6, 48) := by kernel_rfl
/-- a new block of n corners: the first k of them set -/
def SetC (w : World) (g n k : Nat) (l : List (Int × Int)) : Prop :=
  g < w.heap.size ∧ (∀ j, j < n * 6 → (∃ u, w.cell? ⟨g, j, none⟩ = some u) ∧ w.frozen? ⟨g, j, none⟩ = false) ∧
    ∀ i, i < k → w.cell? ⟨g, i * 6, none⟩ = some (.int .i64 (vx l i).1) ∧ w.cell? ⟨g, i * 6 + 1, none⟩ = some (.int .i64 (vx l i).2) ∧
      w.cell? ⟨g, i * 6 + 2, none⟩ = some (.int .i64 (vx l (i + n - 1)).1) ∧ w.cell? ⟨g, i * 6 + 3, none⟩ = some (.int .i64 (vx l (i + n - 1)).2) ∧
      w.cell? ⟨g, i * 6 + 4, none⟩ = some (.int .i64 (vx l (i + 1)).1) ∧ w.cell? ⟨g, i * 6 + 5, none⟩ = some (.int .i64 (vx l (i + 1)).2)
theorem setC_new (w : World) (t : TypeId) (n : Nat) (l : List (Int × Int)) : SetC (w.alloc (.cells (madeCells #[.int .i64 0, .int .i64 0, .int .i64 0, .int .i64 0, .int .i64 0, .int .i64 0] (n * 6)) t)) w.heap.size n 0 l := by
  have hs := size_madeCells #[.int .i64 0, .int .i64 0, .int .i64 0, .int .i64 0, .int .i64 0, .int .i64 0] (n * 6)
  refine ⟨by simp, fun j hj => ⟨⟨_, by rw [cell_of_row (w.alloc _) w.heap.size j _ t (0, 0) (heap_alloc_new w _)]; exact Array.getElem?_eq_getElem (by omega)⟩, ?_⟩, fun i h => absurd h (Nat.not_lt_zero _)⟩
  · rw [frozen?_alloc_cells]; simp [World.frozen?]
theorem setC_store {w : World} {g n k : Nat} {l : List (Int × Int)} (h : SetC w g n k l) (hk : k < n) (hl : l.length = n) :
    SetC ((((((w.setCell ⟨g, k * 6, none⟩ (.int .i64 (vx l k).1)).setCell ⟨g, k * 6 + 1, none⟩ (.int .i64 (vx l k).2)).setCell ⟨g, k * 6 + 2, none⟩ (.int .i64 (vx l ((k + n - 1) % n)).1)).setCell ⟨g, k * 6 + 3, none⟩ (.int .i64 (vx l ((k + n - 1) % n)).2)).setCell ⟨g, k * 6 + 4, none⟩ (.int .i64 (vx l ((k + 1) % n)).1)).setCell ⟨g, k * 6 + 5, none⟩ (.int .i64 (vx l ((k + 1) % n)).2)) g n (k + 1) l := by
  obtain ⟨h1, h2, h3⟩ := h
  have ne : ∀ (W : World) (o o' : Nat) (v : Value), o' ≠ o → (W.setCell ⟨g, o', none⟩ v).cell? ⟨g, o, none⟩ = W.cell? ⟨g, o, none⟩ := fun W o o' v h =>
    World.cell?_setCell_other W _ _ _ (fun e => h (by injection e))
  have sm : ∀ (W : World) (o : Nat) (v : Value), (∃ u, W.cell? ⟨g, o, none⟩ = some u) → (W.setCell ⟨g, o, none⟩ v).cell? ⟨g, o, none⟩ = some v := fun W o v ⟨u, h⟩ => World.cell?_setCell_same W _ _ h
  have ex : ∀ (W : World) (o : Nat) (v : Value), (∀ j, j < n * 6 → ∃ u, W.cell? ⟨g, j, none⟩ = some u) → ∀ j, j < n * 6 → ∃ u, (W.setCell ⟨g, o, none⟩ v).cell? ⟨g, j, none⟩ = some u := fun W o v h j hj => by
    obtain ⟨u, hu⟩ := h j hj
    exact cell?_setCell_some hu
  have x0 : ∀ j, j < n * 6 → ∃ u, w.cell? ⟨g, j, none⟩ = some u := fun j hj => (h2 j hj).1
  have x1 := ex _ (k * 6) (.int .i64 (vx l k).1) x0
  have x2 := ex _ (k * 6 + 1) (.int .i64 (vx l k).2) x1
  have x3 := ex _ (k * 6 + 2) (.int .i64 (vx l ((k + n - 1) % n)).1) x2
  have x4 := ex _ (k * 6 + 3) (.int .i64 (vx l ((k + n - 1) % n)).2) x3
  have x5 := ex _ (k * 6 + 4) (.int .i64 (vx l ((k + 1) % n)).1) x4
  have x6 := ex _ (k * 6 + 5) (.int .i64 (vx l ((k + 1) % n)).2) x5
  refine ⟨by simpa [World.setCell] using h1, fun j hj => ⟨x6 j hj, ?_⟩, fun i hi => ?_⟩
  · simp only [World.frozen?_setCell]; exact (h2 j hj).2
  · by_cases hik : i = k
    · subst hik
      have p1 : vx l ((i + n - 1) % n) = vx l (i + n - 1) := by rw [← hl, vx_per]
      have p2 : vx l ((i + 1) % n) = vx l (i + 1) := by rw [← hl, vx_per]
      refine ⟨?_, ?_, ?_, ?_, ?_, ?_⟩
      · rw [ne _ _ _ _ (by omega), ne _ _ _ _ (by omega), ne _ _ _ _ (by omega), ne _ _ _ _ (by omega), ne _ _ _ _ (by omega)]; exact sm _ _ _ (x0 _ (by omega))
      · rw [ne _ _ _ _ (by omega), ne _ _ _ _ (by omega), ne _ _ _ _ (by omega), ne _ _ _ _ (by omega)]; exact sm _ _ _ (x1 _ (by omega))
      · rw [ne _ _ _ _ (by omega), ne _ _ _ _ (by omega), ne _ _ _ _ (by omega), ← p1]; exact sm _ _ _ (x2 _ (by omega))
      · rw [ne _ _ _ _ (by omega), ne _ _ _ _ (by omega), ← p1]; exact sm _ _ _ (x3 _ (by omega))
      · rw [ne _ _ _ _ (by omega), ← p2]; exact sm _ _ _ (x4 _ (by omega))
      · rw [← p2]; exact sm _ _ _ (x5 _ (by omega))
    · have hlt : i < k := by omega
      have all : ∀ r, r < 6 → ((((((w.setCell ⟨g, k * 6, none⟩ (.int .i64 (vx l k).1)).setCell ⟨g, k * 6 + 1, none⟩ (.int .i64 (vx l k).2)).setCell ⟨g, k * 6 + 2, none⟩ (.int .i64 (vx l ((k + n - 1) % n)).1)).setCell ⟨g, k * 6 + 3, none⟩ (.int .i64 (vx l ((k + n - 1) % n)).2)).setCell ⟨g, k * 6 + 4, none⟩ (.int .i64 (vx l ((k + 1) % n)).1)).setCell ⟨g, k * 6 + 5, none⟩ (.int .i64 (vx l ((k + 1) % n)).2)).cell? ⟨g, i * 6 + r, none⟩ = w.cell? ⟨g, i * 6 + r, none⟩ := fun r hr => by
        rw [ne _ _ _ _ (by omega), ne _ _ _ _ (by omega), ne _ _ _ _ (by omega), ne _ _ _ _ (by omega), ne _ _ _ _ (by omega), ne _ _ _ _ (by omega)]
      obtain ⟨c0, c1, c2, c3, c4, c5⟩ := h3 i hlt
      exact ⟨(all 0 (by omega)).trans c0, (all 1 (by omega)).trans c1, (all 2 (by omega)).trans c2, (all 3 (by omega)).trans c3, (all 4 (by omega)).trans c4, (all 5 (by omega)).trans c5⟩
theorem setC_below {w w' : World} {g n k : Nat} {l : List (Int × Int)} (h : SetC w g n k l) (hb : Below w.heap.size w w') : SetC w' g n k l := by
  obtain ⟨h1, h2, h3⟩ := h
  have hc := (bcell hb).1
  have hf := (bcell hb).2
  have hz := hb.size
  exact ⟨by omega, fun j hj => by rw [hc _ _ h1, hf _ _ h1]; exact h2 j hj, fun i hi => by
    rw [hc _ _ h1, hc _ _ h1, hc _ _ h1, hc _ _ h1, hc _ _ h1, hc _ _ h1]; exact h3 i hi⟩
theorem setC_drew {w : World} {g n k : Nat} {l : List (Int × Int)} (h : SetC w g n k l) : SetC w.drew g n k l := h
set_option maxHeartbeats 2000000 in
theorem cornersAroundW_any (A : Option Addr) (c : Nat) (l : List (Int × Int)) (w : World) (h1 : 1 ≤ l.length) (hn : l.length ≤ 60) (hR : Rd w w.heap.size A l) :
    Calls Try.prog 39 #[.slice A l.length c] w fun e w' => e = .returned (.slice (some ⟨w.heap.size, 0, none⟩) l.length l.length) ∧ Below w.heap.size w w' ∧ SetC w' w.heap.size l.length l.length l := by
  obtain ⟨i0, hi0, hz0, hz1, hz2⟩ := info_parts corner_info
  have hmk := fun W => run_make (P := Try.prog) W 46 49 i0 _ Try.underlying46 hi0 hz0 .i64 .i64 (l.length : Int) (l.length : Int) (by omega) (by omega) (by rw [hz2]; omega) (by omega)
  obtain ⟨b, off, rfl, hb, hcell⟩ := hR (by omega)
  have hC : ∀ i, i < l.length → w.cell? ⟨b, off + i * 2, none⟩ = some (.int .i64 (vx l i).1) ∧ w.cell? ⟨b, off + i * 2 + 1, none⟩ = some (.int .i64 (vx l i).2) := fun i hi => hcell i _ (vx_get hi)
  have HC := Lib.hid hC
  clear hR hC hcell
  generalize hN : l.length = n at *
  have HN := Lib.hid hN
  clear hN
  go_enter Try.func39, Try.ntmps39
  go_wp2_with fail
  have hS0 := setC_new w 49 n l
  have hB0 : Below w.heap.size w (w.alloc (.cells (madeCells #[.int .i64 0, .int .i64 0, .int .i64 0, .int .i64 0, .int .i64 0, .int .i64 0] (n * 6)) 49)) := (Below.refl _ _).alloc (Nat.le_refl _) _
  go_loopg [13] n (fun g i wr => ∃ k : Nat, k ≤ n ∧ g = n - k ∧ i = .int .i64 k ∧ Below w.heap.size w wr ∧ Hid (SetC wr w.heap.size n k l))
  case atStart => exact ⟨0, Nat.zero_le _, rfl, rfl, hB0, Lib.hid hS0⟩
  case round =>
    obtain ⟨k, hk, hg, rfl, hB, hS⟩ := hrel
    rename World => wo
    have HGK := Lib.hid hg
    clear hg hS0 hB0 hmk
    by_cases hlt : k < n
    · have hq1 : wo.cell? ⟨b, off + k * 2, none⟩ = some (.int .i64 (vx l k).1) := (hB.cell (p := ⟨b, off + k * 2, none⟩) hb).trans (HC.out k hlt).1
      have hq2 : wo.cell? ⟨b, off + k * 2 + 1, none⟩ = some (.int .i64 (vx l k).2) := (hB.cell (p := ⟨b, off + k * 2 + 1, none⟩) hb).trans (HC.out k hlt).2
      have hzB := hB.size
      have hbo : b < wo.heap.size := by omega
      have hgo := hS.out.1
      have m1 : (k + n - 1) % n < n := Nat.mod_lt _ (by omega)
      have m2 : (k + 1) % n < n := Nat.mod_lt _ (by omega)
      have q3 := (hB.cell (p := ⟨b, off + (k + n - 1) % n * 2, none⟩) hb).trans (HC.out _ m1).1
      have q4 := (hB.cell (p := ⟨b, off + (k + n - 1) % n * 2 + 1, none⟩) hb).trans (HC.out _ m1).2
      have q5 := (hB.cell (p := ⟨b, off + (k + 1) % n * 2, none⟩) hb).trans (HC.out _ m2).1
      have q6 := (hB.cell (p := ⟨b, off + (k + 1) % n * 2 + 1, none⟩) hb).trans (HC.out _ m2).2
      have st : ∀ j, j < 6 → (∃ u, wo.cell? ⟨w.heap.size, k * 6 + j, none⟩ = some u) ∧ wo.frozen? ⟨w.heap.size, k * 6 + j, none⟩ = false := fun j hj => hS.out.2.1 _ (by omega)
      obtain ⟨⟨u0, a0⟩, f0⟩ := st 0 (by omega)
      obtain ⟨⟨u1, a1⟩, f1⟩ := st 1 (by omega)
      obtain ⟨⟨u2, a2⟩, f2⟩ := st 2 (by omega)
      obtain ⟨⟨u3, a3⟩, f3⟩ := st 3 (by omega)
      obtain ⟨⟨u4, a4⟩, f4⟩ := st 4 (by omega)
      obtain ⟨⟨u5, a5⟩, f5⟩ := st 5 (by omega)
      clear st
      simp only [Nat.add_zero] at a0 f0
      go_wp2_with fail
      have e1 : IntKind.i64.wrap ((k : Int) + (n : Int)) = (k : Int) + (n : Int) := IntWalk.i64_in _ (by omega)
      have e2 : IntKind.i64.wrap ((k : Int) + (n : Int) - 1) = (k : Int) + (n : Int) - 1 := IntWalk.i64_in _ (by omega)
      have e3 : IntKind.i64.wrap ((k : Int) + 1) = (k : Int) + 1 := IntWalk.i64_in _ (by omega)
      have e4 : ¬ n = 0 := by omega
      have e5 : (0 : Int) ≤ ((k : Int) + 1) % (n : Int) := Int.emod_nonneg _ (by omega)
      have e6 : ((k : Int) + 1) % (n : Int) < (n : Int) := Int.emod_lt_of_pos _ (by omega)
      have e7 : ((k : Int) + 1).tmod (n : Int) = ((k : Int) + 1) % (n : Int) := Int.tmod_eq_emod_of_nonneg (by omega)
      have e8 : (((k : Int) + 1) % (n : Int)).toNat = (k + 1) % n := by rw [show ((k : Int) + 1) % (n : Int) = (((k + 1) % n : Nat) : Int) by simp]; exact Int.toNat_natCast _
      have e9 : (0 : Int) ≤ ((k : Int) + (n : Int) - 1) % (n : Int) := Int.emod_nonneg _ (by omega)
      have e10 : ((k : Int) + (n : Int) - 1) % (n : Int) < (n : Int) := Int.emod_lt_of_pos _ (by omega)
      have e11 : ((k : Int) + (n : Int) - 1).tmod (n : Int) = ((k : Int) + (n : Int) - 1) % (n : Int) := Int.tmod_eq_emod_of_nonneg (by omega)
      have e12 : (((k : Int) + (n : Int) - 1) % (n : Int)).toNat = (k + n - 1) % n := by rw [show ((k : Int) + (n : Int) - 1) % (n : Int) = (((k + n - 1) % n : Nat) : Int) by rw [Int.natCast_emod]; congr 1; omega]; exact Int.toNat_natCast _
      obtain ⟨W2, hW2⟩ : ∃ W2, W2 = wo.alloc (.cells #[.int .i64 (vx l k).1, .int .i64 (vx l k).2] 34) := ⟨_, rfl⟩
      have al : ∀ b' o, b' < wo.heap.size → W2.cell? ⟨b', o, none⟩ = wo.cell? ⟨b', o, none⟩ := fun b' o h => by rw [hW2]; exact World.cell?_alloc_lt wo _ _ h
      have r1 : W2.cell? ⟨wo.heap.size, 0, none⟩ = some (.int .i64 (vx l k).1) := by rw [hW2]; go_simp
      have r2 : W2.cell? ⟨wo.heap.size, 1, none⟩ = some (.int .i64 (vx l k).2) := by rw [hW2]; go_simp
      have r3 := (al _ _ hbo).trans q3
      have r4 := (al _ _ hbo).trans q4
      have r5 := (al _ _ hbo).trans q5
      have r6 := (al _ _ hbo).trans q6
      have b0 := (al _ _ hgo).trans a0
      have b1 := (al _ _ hgo).trans a1
      have b2 := (al _ _ hgo).trans a2
      have b3 := (al _ _ hgo).trans a3
      have b4 := (al _ _ hgo).trans a4
      have b5 := (al _ _ hgo).trans a5
      have fz : ∀ o, W2.frozen? ⟨w.heap.size, o, none⟩ = wo.frozen? ⟨w.heap.size, o, none⟩ := fun o => by rw [hW2]; exact frozen?_alloc_cells _ _ _ _
      have g0 := (fz _).trans f0
      have g1 := (fz _).trans f1
      have g2 := (fz _).trans f2
      have g3 := (fz _).trans f3
      have g4 := (fz _).trans f4
      have g5 := (fz _).trans f5
      rw [← hW2]
      have HW2 := Lib.hid hW2
      clear hW2 al fz q3 q4 q5 q6 a0 a1 a2 a3 a4 a5 f0 f1 f2 f3 f4 f5 hq1 hq2
      refine wp_region_still_tail 21 (by kernel_rfl) (by kernel_rfl) ?_
      change wpStill _ _ W2.drew (fun a' => wpList _ _ _ _ a' W2.drew) _ _
      simp only [List.take_succ_cons, List.take_zero, List.drop_succ_cons, List.drop_zero]
      repeat still_step
      try refine wpStill_nil ?_
      clear e1 e2 e3 e4 e5 e6 e7 e8 e9 e10 e11 e12
      have B2 : Below w.heap.size w W2 := by rw [HW2.out]; exact Below.alloc hB hzB _
      have S2 : SetC W2 w.heap.size n k l := by rw [HW2.out]; exact setC_below hS.out (Below.alloc (Below.refl _ _) (Nat.le_refl _) _)
      have S3 := Lib.hid (setC_drew (setC_store S2 hlt HN.out))
      have B3 := Lib.hid (Below.drew (Below.setCell (Below.setCell (Below.setCell (Below.setCell (Below.setCell (Below.setCell B2 (p := ⟨w.heap.size, k * 6, none⟩) (Nat.le_refl _) (.int .i64 (vx l k).1)) (p := ⟨w.heap.size, k * 6 + 1, none⟩) (Nat.le_refl _) (.int .i64 (vx l k).2)) (p := ⟨w.heap.size, k * 6 + 2, none⟩) (Nat.le_refl _) (.int .i64 (vx l ((k + n - 1) % n)).1)) (p := ⟨w.heap.size, k * 6 + 3, none⟩) (Nat.le_refl _) (.int .i64 (vx l ((k + n - 1) % n)).2)) (p := ⟨w.heap.size, k * 6 + 4, none⟩) (Nat.le_refl _) (.int .i64 (vx l ((k + 1) % n)).1)) (p := ⟨w.heap.size, k * 6 + 5, none⟩) (Nat.le_refl _) (.int .i64 (vx l ((k + 1) % n)).2)))
      clear S2 hS
      go_wp2_with fail
      go_roundg (n - (k + 1))
      case measure => have := HGK.out; omega
      case rel => exact ⟨k + 1, by omega, rfl, by go_num, B3.out, S3⟩
    · have hkn : n = k := by omega
      subst hkn
      go_wp2_with fail
      go_ret
      exact ⟨rfl, hB, hS.out⟩
theorem cornersAround_any (A : Option Addr) (c : Nat) (l : List (Int × Int)) (w : World) (h1 : 1 ≤ l.length) (hn : l.length ≤ 10) (hR : Rd w w.heap.size A l) :
    Calls Try.prog 39 #[.slice A l.length c] w fun e w' => e = .returned (.slice (some ⟨w.heap.size, 0, none⟩) l.length l.length) ∧ Below w.heap.size w w' ∧ SetC w' w.heap.size l.length l.length l := cornersAroundW_any A c l w h1 (by omega) hR
end Go.Proofs.Ytjkfdcjfoliboaa
/- contracts: the program's sums around a polygon -/
namespace Go.Proofs.Ytjkfdcjfoliboaa
open Go.ChangeShapes Go.WideShapes Go.ChangeAt Go.RowKit Go.Joins
set_option linter.unusedVariables false
set_option linter.unusedSimpArgs false
set_option maxRecDepth 4000
theorem steps_any (p q : Int × Int) (b1 b2 : Int) (w : World) (hp : isPg p = true) (hq : isPg q = true) :
    Calls Try.prog 74 #[.agg #[.int .i64 p.1, .int .i64 p.2, .int .i64 b1, .int .i64 b2, .int .i64 q.1, .int .i64 q.2]] w fun e w' => e = .returned (.int .i64 (stepN p.1 p.2 q.1 q.2)) ∧ Below w.heap.size w w' := by
  have K := Lib.hid (fun W => stepsTo_any p.1 p.2 q.1 q.2 W (sz_of hp) (sz_of hq))
  clear hp hq
  go_enter Try.func74, Try.ntmps74
  go_wp2_with fail
  refine (K.out _).mono ?_; rintro e w1 ⟨rfl, hb1⟩
  obtain ⟨hc1, hf1⟩ := bcell hb1
  have z1_0 : w.heap.size < w1.heap.size := by (have := hb1.size; simp at this; omega)
  have B1 : Below w.heap.size w w1 := (Below.alloc (Below.refl _ _) (by simp <;> omega) _).trans (hb1.mono (by simp <;> omega))
  go_wp2_with fail
  go_ret
  exact ⟨rfl, B1⟩
set_option maxHeartbeats 2000000 in
theorem sumAroundW_any (A : Option Addr) (c : Nat) (l : List (Int × Int)) (w : World) (fid : Nat) (f : Nat → Int) (h1 : 1 ≤ l.length) (hn : l.length ≤ 60) (hR : Rd w w.heap.size A l)
    (hcf : ∀ args W, (callFunc fid args).run Try.prog W = .ok (Next.enter fid args) W) (hf : ∀ i, i < l.length → -100000 ≤ f i ∧ f i ≤ 100000)
    (hK : ∀ i, i < l.length → ∀ W, Calls Try.prog fid #[.agg #[.int .i64 (vx l i).1, .int .i64 (vx l i).2, .int .i64 (vx l (i + l.length - 1)).1, .int .i64 (vx l (i + l.length - 1)).2, .int .i64 (vx l (i + 1)).1, .int .i64 (vx l (i + 1)).2]] W
      fun e w' => e = .returned (.int .i64 (f i)) ∧ Below W.heap.size W w') :
    Calls Try.prog 72 #[.slice A l.length c, .func (.func fid) #[] #[]] w fun e w' => e = .returned (.int .i64 (sumTo f l.length)) ∧ Below w.heap.size w w' := by
  have KC := Lib.hid (fun W (hb : Below w.heap.size w W) => cornersAroundW_any A c l W (by omega) (by omega) (rd_more (rd_below hR hb (Nat.le_refl _)) hb.size))
  have HB : Hid (∀ k, k ≤ l.length → -(100000 * (k : Int)) ≤ sumTo f k ∧ sumTo f k ≤ 100000 * (k : Int)) := Lib.hid (fun k hk => sumTo_bd k fun i hi => hf i (by omega))
  have HK := Lib.hid hK
  have HS : Hid (∀ k, sumTo f (k + 1) = sumTo f k + f k) := Lib.hid (fun k => rfl)
  have H0 : Hid (sumTo f 0 = 0) := Lib.hid rfl
  clear hR hf hK
  generalize hN : l.length = n at *
  have HN := Lib.hid hN
  clear hN
  go_enter Try.func72, Try.ntmps72
  go_wp2_with fail
  refine (KC.out w (Below.refl _ _)).mono ?_; rintro e w2 ⟨rfl, hb2, hSC⟩
  obtain ⟨g, hg⟩ : ∃ g, g = w.heap.size := ⟨_, rfl⟩
  rw [← hg] at hSC ⊢
  have hgs : g < w2.heap.size := hSC.1
  have CE : Hid (∀ W, Below w2.heap.size w2 W → ∀ i, i < n → (W.cell? ⟨g, i * 6, none⟩ = some (.int .i64 (vx l i).1) ∧ W.cell? ⟨g, i * 6 + 1, none⟩ = some (.int .i64 (vx l i).2) ∧ W.cell? ⟨g, i * 6 + 2, none⟩ = some (.int .i64 (vx l (i + n - 1)).1) ∧ W.cell? ⟨g, i * 6 + 3, none⟩ = some (.int .i64 (vx l (i + n - 1)).2) ∧ W.cell? ⟨g, i * 6 + 4, none⟩ = some (.int .i64 (vx l (i + 1)).1) ∧ W.cell? ⟨g, i * 6 + 5, none⟩ = some (.int .i64 (vx l (i + 1)).2))) := Lib.hid (fun W hW i hi => by
    obtain ⟨c0, c1, c2, c3, c4, c5⟩ := hSC.2.2 i hi
    have hc := (bcell hW).1
    exact ⟨(hc _ _ hgs).trans c0, (hc _ _ hgs).trans c1, (hc _ _ hgs).trans c2, (hc _ _ hgs).trans c3, (hc _ _ hgs).trans c4, (hc _ _ hgs).trans c5⟩)
  have TR : Hid (∀ W, Below w2.heap.size w2 W → Below w.heap.size w W) := Lib.hid (fun W hW => hb2.trans (hW.mono hb2.size))
  clear KC hb2 hSC hg
  go_wp2_with fail
  go_loopg [5, 11] n (fun gg s i wr => ∃ k : Nat, k ≤ n ∧ gg = n - k ∧ i = .int .i64 k ∧ s = .int .i64 (sumTo f k) ∧ Below w2.heap.size w2 wr)
  case atStart => exact ⟨0, Nat.zero_le _, rfl, rfl, by rw [H0.out], Below.refl _ _⟩
  case round =>
    obtain ⟨k, hk, hgg, rfl, rfl, hB⟩ := hrel
    rename World => wo
    have HGK := Lib.hid hgg
    clear hgg
    by_cases hlt : k < n
    · obtain ⟨x0, x1, x2, x3, x4, x5⟩ := CE.out wo hB k hlt
      have hzB := hB.size
      have hgo : g < wo.heap.size := by omega
      have T := Lib.hid (fun W => HK.out k hlt W)
      have e0 := HS.out k
      obtain ⟨b1, b2⟩ := HB.out (k + 1) (by omega)
      rw [e0] at b1 b2
      have E0 := Lib.hid e0
      clear e0
      generalize f k = t at *
      generalize hs : sumTo f k = s at *
      have HSS := Lib.hid hs
      clear hs
      have hsm : -9000000 ≤ s + t ∧ s + t ≤ 9000000 := by omega
      clear b1 b2
      obtain ⟨b1, b2⟩ := hsm
      go_wp2_with fail
      refine (T.out _).mono ?_; rintro e w3 ⟨rfl, hb3⟩
      have B3 := (Below.alloc hB hzB (.cells #[.int .i64 (vx l k).1, .int .i64 (vx l k).2, .int .i64 (vx l (k + n - 1)).1, .int .i64 (vx l (k + n - 1)).2, .int .i64 (vx l (k + 1)).1, .int .i64 (vx l (k + 1)).2] 49)).trans (hb3.mono (by simp; omega))
      clear x0 x1 x2 x3 x4 x5 hb3 T
      go_wp2_with fail
      go_roundg (n - (k + 1))
      case measure => have := HGK.out; omega
      case rel => exact ⟨k + 1, by omega, rfl, by go_num, by rw [E0.out], B3⟩
    · have hkn : n = k := by omega
      subst hkn
      have BB := Lib.hid (TR.out _ hB)
      go_wp2_with fail
      go_ret
      exact ⟨rfl, BB.out⟩
theorem sumAround_any (A : Option Addr) (c : Nat) (l : List (Int × Int)) (w : World) (fid : Nat) (f : Nat → Int) (h1 : 1 ≤ l.length) (hn : l.length ≤ 10) (hR : Rd w w.heap.size A l)
    (hcf : ∀ args W, (callFunc fid args).run Try.prog W = .ok (Next.enter fid args) W) (hf : ∀ i, i < l.length → -100000 ≤ f i ∧ f i ≤ 100000)
    (hK : ∀ i, i < l.length → ∀ W, Calls Try.prog fid #[.agg #[.int .i64 (vx l i).1, .int .i64 (vx l i).2, .int .i64 (vx l (i + l.length - 1)).1, .int .i64 (vx l (i + l.length - 1)).2, .int .i64 (vx l (i + 1)).1, .int .i64 (vx l (i + 1)).2]] W
      fun e w' => e = .returned (.int .i64 (f i)) ∧ Below W.heap.size W w') :
    Calls Try.prog 72 #[.slice A l.length c, .func (.func fid) #[] #[]] w fun e w' => e = .returned (.int .i64 (sumTo f l.length)) ∧ Below w.heap.size w w' := sumAroundW_any A c l w fid f h1 (by omega) hR hcf hf hK
end Go.Proofs.Ytjkfdcjfoliboaa
/- plain mathematics: lines that do not meet -/
namespace Go.Proofs.Ytjkfdcjfoliboaa.MJ
set_option linter.unusedVariables false
set_option linter.unusedSimpArgs false
abbrev Pt := Int × Int
def tw (a b c : Pt) : Int := (b.1-a.1)*(c.2-a.2) - (c.1-a.1)*(b.2-a.2)
def cr (a b p : Pt) : Int :=
  if a.2 ≤ p.2 ∧ p.2 < b.2 ∧ 0 < tw a b p then 1
  else if b.2 ≤ p.2 ∧ p.2 < a.2 ∧ tw a b p < 0 then -1 else 0
def rh (a b z : Pt) : Int :=
  if b.2 < z.2 ∧ z.2 ≤ a.2 ∧ 0 < tw a b z then 1
  else if a.2 < z.2 ∧ z.2 ≤ b.2 ∧ tw a b z < 0 then -1 else 0

theorem tw_sum (a b c d : Pt) : tw a b c - tw a b d = tw c d b - tw c d a := by
  simp only [tw]; grind
theorem tw_y (a b c d : Pt) : tw c d b * a.2 - tw c d a * b.2 + tw a b d * c.2 - tw a b c * d.2 = 0 := by
  simp only [tw]; grind
theorem tw_x (a b c d : Pt) : tw c d b * a.1 - tw c d a * b.1 + tw a b d * c.1 - tw a b c * d.1 = 0 := by
  simp only [tw]; grind
theorem tw_swap (a b p : Pt) : tw b a p = - tw a b p := by simp only [tw]; grind
theorem cr_swap (a b p : Pt) : cr b a p = - cr a b p := by
  unfold cr; rw [tw_swap a b p]; split <;> split <;> (try split) <;> omega
theorem rh_swap (a b p : Pt) : rh b a p = - rh a b p := by
  unfold rh; rw [tw_swap a b p]; split <;> split <;> (try split) <;> omega

def on (a b p : Pt) : Prop := tw a b p = 0 ∧ min a.1 b.1 ≤ p.1 ∧ p.1 ≤ max a.1 b.1 ∧ min a.2 b.2 ≤ p.2 ∧ p.2 ≤ max a.2 b.2
def meets (a b c d : Pt) : Prop := on c d a ∨ on c d b ∨ on a b c ∨ on a b d ∨
  (tw a b c * tw a b d < 0 ∧ tw c d a * tw c d b < 0)

-- the sign pack of two segments that do not meet
theorem btw {P Q x y : Int} (hP : 0 < P) (hQ : 0 < Q) (h : P * x + Q * y = 0) : (x ≤ 0 ∧ 0 ≤ y) ∨ (0 ≤ x ∧ y ≤ 0) := by
  rcases Int.lt_trichotomy x 0 with hx | hx | hx
  · left; refine ⟨by omega, ?_⟩
    have := Int.mul_neg_of_pos_of_neg hP hx
    rcases Int.lt_or_le y 0 with hy | hy
    · have := Int.mul_neg_of_pos_of_neg hQ hy; omega
    · exact hy
  · subst hx; rcases Int.lt_or_le 0 y with hy | hy
    · have := Int.mul_pos hQ hy; omega
    · right; omega
  · right; refine ⟨by omega, ?_⟩
    have := Int.mul_pos hP hx
    rcases Int.lt_or_le 0 y with hy | hy
    · have := Int.mul_pos hQ hy; omega
    · exact hy
theorem on_of (a b c d : Pt) (hC : tw a b c = 0) (h : tw c d a * tw c d b < 0) : on a b c := by
  have hx := tw_x a b c d
  have hy := tw_y a b c d
  have hs := tw_sum a b c d
  rw [hC] at hx hy hs
  rcases Int.lt_trichotomy (tw c d a) 0 with hA | hA | hA
  · have hB : 0 < tw c d b := by
      rcases Int.lt_or_le 0 (tw c d b) with hB | hB
      · exact hB
      · have := Int.mul_nonneg_of_nonpos_of_nonpos (Int.le_of_lt hA) hB; omega
    have h1 := btw (P := tw c d b) (Q := - tw c d a) (x := a.1 - c.1) (y := b.1 - c.1) hB (by omega) (by grind)
    have h2 := btw (P := tw c d b) (Q := - tw c d a) (x := a.2 - c.2) (y := b.2 - c.2) hB (by omega) (by grind)
    refine ⟨hC, ?_, ?_, ?_, ?_⟩ <;> omega
  · rw [hA] at h; simp at h
  · have hB : tw c d b < 0 := by
      rcases Int.lt_or_le (tw c d b) 0 with hB | hB
      · exact hB
      · have := Int.mul_nonneg (Int.le_of_lt hA) hB; omega
    have h1 := btw (P := - tw c d b) (Q := tw c d a) (x := a.1 - c.1) (y := b.1 - c.1) (by omega) hA (by grind)
    have h2 := btw (P := - tw c d b) (Q := tw c d a) (x := a.2 - c.2) (y := b.2 - c.2) (by omega) hA (by grind)
    refine ⟨hC, ?_, ?_, ?_, ?_⟩ <;> omega
/-- a point level with a slanted segment's span and on its line lies on it -/
theorem on_of_level (a b p : Pt) (h : tw a b p = 0) (h1 : (a.2 ≤ p.2 ∧ p.2 ≤ b.2) ∨ (b.2 ≤ p.2 ∧ p.2 ≤ a.2)) (hne : a.2 ≠ b.2) : on a b p := by
  refine ⟨h, ?_⟩
  have e : (b.2 - a.2) * (p.1 - a.1) = (b.1 - a.1) * (p.2 - a.2) := by unfold tw at h; grind
  have e2 : (b.2 - a.2) * (b.1 - p.1) = (b.1 - a.1) * (b.2 - p.2) := by unfold tw at h; grind
  have key : ∀ P Q R S : Int, 0 < P → 0 ≤ S → P * Q = R * S → (0 ≤ R → 0 ≤ Q) ∧ (R ≤ 0 → Q ≤ 0) := by
    intro P Q R S hP hS h
    constructor
    · intro hR
      rcases Int.lt_or_le Q 0 with hq | hq
      · have := Int.mul_neg_of_pos_of_neg hP hq; have := Int.mul_nonneg hR hS; omega
      · exact hq
    · intro hR
      rcases Int.lt_or_le 0 Q with hq | hq
      · have := Int.mul_pos hP hq; have := Int.mul_nonneg (Int.neg_nonneg.2 hR) hS; rw [Int.neg_mul] at this; omega
      · exact hq
  rcases h1 with h1 | h1
  · have k1 := key _ _ _ _ (by omega) (by omega) e
    have k2 := key _ _ _ _ (by omega) (by omega) e2
    omega
  · have k1 := key (a.2 - b.2) (p.1 - a.1) (b.1 - a.1) (a.2 - p.2) (by omega) (by omega) (by grind)
    have k2 := key (a.2 - b.2) (b.1 - p.1) (b.1 - a.1) (p.2 - b.2) (by omega) (by omega) (by grind)
    omega

structure Packs (A B C D : Int) : Prop where
  ab : A * B < 0 → 0 < C * D
  cd : C * D < 0 → 0 < A * B
theorem packs {a b c d : Pt} (h : ¬ meets a b c d) : Packs (tw c d a) (tw c d b) (tw a b c) (tw a b d) := by
  unfold meets at h
  constructor
  · intro hAB
    rcases Int.lt_trichotomy (tw a b c * tw a b d) 0 with hc | hc | hc
    · exact absurd (Or.inr (Or.inr (Or.inr (Or.inr ⟨hc, hAB⟩)))) h
    · rcases Int.mul_eq_zero.1 hc with h0 | h0
      · exact absurd (Or.inr (Or.inr (Or.inl (on_of a b c d h0 hAB)))) h
      · refine absurd (Or.inr (Or.inr (Or.inr (Or.inl (on_of a b d c h0 ?_))))) h
        rw [tw_swap c d a, tw_swap c d b, Int.neg_mul_neg]; exact hAB
    · exact hc
  · intro hCD
    rcases Int.lt_trichotomy (tw c d a * tw c d b) 0 with hc | hc | hc
    · exact absurd (Or.inr (Or.inr (Or.inr (Or.inr ⟨hCD, hc⟩)))) h
    · rcases Int.mul_eq_zero.1 hc with h0 | h0
      · exact absurd (Or.inl (on_of c d a b h0 hCD)) h
      · refine absurd (Or.inr (Or.inl (on_of c d b a h0 ?_))) h
        rw [tw_swap a b c, tw_swap a b d, Int.neg_mul_neg]; exact hCD
    · exact hc


theorem pos_of_mul {x y : Int} (h : 0 < x * y) (hy : 0 < y) : 0 < x := by
  rcases Int.lt_or_le 0 x with h1 | h1
  · exact h1
  · have := Int.mul_nonneg (Int.neg_nonneg.2 h1) (Int.le_of_lt hy); rw [Int.neg_mul] at this; omega
theorem nonneg_of_mul {x y : Int} (h : 0 ≤ x * y) (hy : 0 < y) : 0 ≤ x := by
  rcases Int.lt_or_le x 0 with h1 | h1
  · have := Int.mul_neg_of_neg_of_pos h1 hy; omega
  · exact h1
theorem cd_ {A B C D ya yb yc yd : Int} (hs : C - D = B - A) (hy : B * ya - A * yb + D * yc - C * yd = 0) : B * (yd - ya) + A * (yb - yd) + D * (yd - yc) = 0 := by grind
theorem cc_ {A B C D ya yb yc yd : Int} (hs : C - D = B - A) (hy : B * ya - A * yb + D * yc - C * yd = 0) : B * (ya - yc) + A * (yc - yb) + C * (yc - yd) = 0 := by grind
theorem cb_ {A B C D ya yb yc yd : Int} (hs : C - D = B - A) (hy : B * ya - A * yb + D * yc - C * yd = 0) : B * (ya - yb) + D * (yc - yb) + C * (yb - yd) = 0 := by grind
theorem ca_ {A B C D ya yb yc yd : Int} (hs : C - D = B - A) (hy : B * ya - A * yb + D * yc - C * yd = 0) : A * (ya - yb) + D * (yc - ya) + C * (ya - yd) = 0 := by grind
/-- a and b level with cd: both on one side -/
theorem rr_ {A B C D ya yb yc yd : Int} (hs : C - D = B - A) (hy : B * ya - A * yb + D * yc - C * yd = 0) (p1 : A * B < 0 → 0 < C * D) (h1 : yc ≤ ya) (h2 : ya < yd) (h3 : yc ≤ yb) (h4 : yb < yd) (hA : 0 < A) (hB : B < 0) : False := by
  have hCD := p1 (Int.mul_neg_of_pos_of_neg hA hB)
  have e1 := cd_ hs hy
  have e2 := cc_ hs hy
  have m1 := Int.mul_neg_of_neg_of_pos hB (show 0 < yd - ya by omega)
  have m2 := Int.mul_neg_of_pos_of_neg hA (show yb - yd < 0 by omega)
  have hD : 0 < D := pos_of_mul (y := yd - yc) (by omega) (by omega)
  have m3 := Int.mul_nonneg (show 0 ≤ -B by omega) (show 0 ≤ ya - yc by omega)
  have m4 := Int.mul_nonneg (show 0 ≤ A by omega) (show 0 ≤ yb - yc by omega)
  have hC : 0 ≤ -C := nonneg_of_mul (y := yd - yc) (by grind) (by omega)
  have := Int.mul_nonneg hC (Int.le_of_lt hD); rw [Int.neg_mul] at this; omega

theorem rs_ {A B C D ya yb yc yd : Int} (hs : C - D = B - A) (hy : B * ya - A * yb + D * yc - C * yd = 0) (p2 : C * D < 0 → 0 < A * B) (h1 : yc ≤ ya) (h2 : ya < yd) (h3 : yd ≤ yb) (hA : 0 < A) (hD : 0 < D) : False := by
  have e1 := ca_ hs hy
  have e2 := cd_ hs hy
  have m1 := Int.mul_neg_of_pos_of_neg hA (show ya - yb < 0 by omega)
  have m2 := Int.mul_nonneg (show 0 ≤ D by omega) (show 0 ≤ ya - yc by omega)
  have hC : 0 < -C := pos_of_mul (y := yd - ya) (by grind) (by omega)
  have hAB := p2 (Int.mul_neg_of_neg_of_pos (show C < 0 by omega) hD)
  have hB : 0 < B := pos_of_mul (y := A) (by grind) hA
  have m3 := Int.mul_pos hB (show 0 < yd - ya by omega)
  have m4 := Int.mul_nonneg (show 0 ≤ A by omega) (show 0 ≤ yb - yd by omega)
  have m5 := Int.mul_pos hD (show 0 < yd - yc by omega)
  omega
theorem sr_ {A B C D ya yb yc yd : Int} (hs : C - D = B - A) (hy : B * ya - A * yb + D * yc - C * yd = 0) (p1 : A * B < 0 → 0 < C * D) (h1 : ya < yc) (h2 : yc ≤ yb) (h3 : yb < yd) (hB : 0 < B) (hC : 0 < C) : False := by
  have e1 := cc_ hs hy
  have e2 := cb_ hs hy
  have m1 := Int.mul_neg_of_pos_of_neg hB (show ya - yc < 0 by omega)
  have m2 := Int.mul_neg_of_pos_of_neg hC (show yc - yd < 0 by omega)
  have hA : 0 < -A := by
    have h0 : 0 ≤ yb - yc := by omega
    rcases Int.lt_or_le A 0 with h | h
    · omega
    · have := Int.mul_nonneg h h0; grind
  have hCD := p1 (Int.mul_neg_of_neg_of_pos (show A < 0 by omega) hB)
  have hD : 0 < D := pos_of_mul (y := C) (by grind) hC
  have m3 := Int.mul_neg_of_pos_of_neg hB (show ya - yb < 0 by omega)
  have m4 := Int.mul_nonneg (show 0 ≤ D by omega) (show 0 ≤ yb - yc by omega)
  have m5 := Int.mul_neg_of_pos_of_neg hC (show yb - yd < 0 by omega)
  grind
theorem ss_ {A B C D ya yb yc yd : Int} (hs : C - D = B - A) (hy : B * ya - A * yb + D * yc - C * yd = 0) (p2 : C * D < 0 → 0 < A * B) (h1 : ya < yc) (h2 : yc ≤ yb) (h3 : ya < yd) (h4 : yd ≤ yb) (hC : C < 0) (hD : 0 < D) : False := by
  have hAB := p2 (Int.mul_neg_of_neg_of_pos hC hD)
  have e1 := ca_ hs hy
  have e2 := cb_ hs hy
  have m1 := Int.mul_pos hD (show 0 < yc - ya by omega)
  have m2 := Int.mul_pos_of_neg_of_neg hC (show ya - yd < 0 by omega)
  have hA : 0 < A := pos_of_mul (y := yb - ya) (by grind) (by omega)
  have hB : 0 < B := pos_of_mul (y := A) (by grind) hA
  have m3 := Int.mul_neg_of_pos_of_neg hB (show ya - yb < 0 by omega)
  have m4 := Int.mul_nonneg (show 0 ≤ D by omega) (show 0 ≤ yb - yc by omega)
  have m5 := Int.mul_nonneg (show 0 ≤ -C by omega) (show 0 ≤ yb - yd by omega)
  grind
theorem Packs.neg {A B C D : Int} (h : Packs A B C D) : Packs (-A) (-B) (-C) (-D) :=
  ⟨fun x => by rw [Int.neg_mul_neg] at *; exact h.ab x, fun x => by rw [Int.neg_mul_neg] at *; exact h.cd x⟩

theorem cr_up {c d : Pt} (h : c.2 ≤ d.2) (p : Pt) : cr c d p = if c.2 ≤ p.2 ∧ p.2 < d.2 ∧ 0 < tw c d p then 1 else 0 := by
  unfold cr; split
  · rfl
  · rw [if_neg (by omega)]
theorem rh_up {a b : Pt} (h : a.2 ≤ b.2) (z : Pt) : rh a b z = if a.2 < z.2 ∧ z.2 ≤ b.2 ∧ tw a b z < 0 then -1 else 0 := by
  unfold rh; rw [if_neg (by omega)]

theorem cell_up (a b c d : Pt) (hab : a.2 ≤ b.2) (hcd : c.2 ≤ d.2) (h : ¬ meets a b c d) : cr c d b - cr c d a = rh a b d - rh a b c := by
  have P := packs h
  have hs := tw_sum a b c d
  have hy := tw_y a b c d
  have nA : ¬ on c d a := fun x => h (Or.inl x)
  have nB : ¬ on c d b := fun x => h (Or.inr (Or.inl x))
  have nC : ¬ on a b c := fun x => h (Or.inr (Or.inr (Or.inl x)))
  have nD : ¬ on a b d := fun x => h (Or.inr (Or.inr (Or.inr (Or.inl x))))
  have zA : tw c d a = 0 → c.2 ≤ a.2 → a.2 ≤ d.2 → c.2 = d.2 := fun h0 h1 h2 => Classical.byContradiction fun hne => nA (on_of_level c d a h0 (Or.inl ⟨h1, h2⟩) hne)
  have zB : tw c d b = 0 → c.2 ≤ b.2 → b.2 ≤ d.2 → c.2 = d.2 := fun h0 h1 h2 => Classical.byContradiction fun hne => nB (on_of_level c d b h0 (Or.inl ⟨h1, h2⟩) hne)
  have zC : tw a b c = 0 → a.2 ≤ c.2 → c.2 ≤ b.2 → a.2 = b.2 := fun h0 h1 h2 => Classical.byContradiction fun hne => nC (on_of_level a b c h0 (Or.inl ⟨h1, h2⟩) hne)
  have zD : tw a b d = 0 → a.2 ≤ d.2 → d.2 ≤ b.2 → a.2 = b.2 := fun h0 h1 h2 => Classical.byContradiction fun hne => nD (on_of_level a b d h0 (Or.inl ⟨h1, h2⟩) hne)
  clear h nA nB nC nD
  rw [cr_up hcd, cr_up hcd, rh_up hab, rh_up hab]
  generalize tw c d a = A at *
  generalize tw c d b = B at *
  generalize tw a b c = C at *
  generalize tw a b d = D at *
  generalize a.2 = ya at *
  generalize b.2 = yb at *
  generalize c.2 = yc at *
  generalize d.2 = yd at *
  have N := P.neg
  have hs' : -C - -D = -B - -A := by omega
  have hy' : -B * ya - -A * yb + -D * yc - -C * yd = 0 := by grind
  by_cases ra : yc ≤ ya ∧ ya < yd
  · by_cases rb : yc ≤ yb ∧ yb < yd
    · have n1 : ¬ (0 < A ∧ B < 0) := fun ⟨u, v⟩ => rr_ hs hy P.ab ra.1 ra.2 rb.1 rb.2 u v
      have n2 : ¬ (A < 0 ∧ 0 < B) := fun ⟨u, v⟩ => rr_ hs' hy' N.ab ra.1 ra.2 rb.1 rb.2 (by omega) (by omega)
      (repeat' split) <;> omega
    · have n1 : ¬ (0 < A ∧ 0 < D) := fun ⟨u, v⟩ => rs_ hs hy P.cd ra.1 ra.2 (by omega) u v
      have n2 : ¬ (A < 0 ∧ D < 0) := fun ⟨u, v⟩ => rs_ hs' hy' N.cd ra.1 ra.2 (by omega) (by omega) (by omega)
      (repeat' split) <;> omega
  · by_cases rb : yc ≤ yb ∧ yb < yd
    · have n1 : ¬ (0 < B ∧ 0 < C) := fun ⟨u, v⟩ => sr_ hs hy P.ab (by omega) rb.1 rb.2 u v
      have n2 : ¬ (B < 0 ∧ C < 0) := fun ⟨u, v⟩ => sr_ hs' hy' N.ab (by omega) rb.1 rb.2 (by omega) (by omega)
      (repeat' split) <;> omega
    · by_cases sc : ya < yc ∧ yc ≤ yb
      · by_cases sd : ya < yd ∧ yd ≤ yb
        · have n1 : ¬ (C < 0 ∧ 0 < D) := fun ⟨u, v⟩ => ss_ hs hy P.cd sc.1 sc.2 sd.1 sd.2 u v
          have n2 : ¬ (0 < C ∧ D < 0) := fun ⟨u, v⟩ => ss_ hs' hy' N.cd sc.1 sc.2 sd.1 sd.2 (by omega) (by omega)
          (repeat' split) <;> omega
        · (repeat' split) <;> omega
      · (repeat' split) <;> omega
theorem on_swap {a b p : Pt} (h : on b a p) : on a b p := by
  unfold on at *; rw [tw_swap a b p] at h
  refine ⟨by omega, ?_, ?_, ?_, ?_⟩ <;> omega
theorem meets_swap1 {a b c d : Pt} (h : meets b a c d) : meets a b c d := by
  unfold meets at *
  rw [tw_swap a b c, tw_swap a b d, Int.neg_mul_neg, Int.mul_comm (tw c d b)] at h
  rcases h with h | h | h | h | h
  · exact .inr (.inl h)
  · exact .inl h
  · exact .inr (.inr (.inl (on_swap h)))
  · exact .inr (.inr (.inr (.inl (on_swap h))))
  · exact .inr (.inr (.inr (.inr h)))
theorem meets_swap2 {a b c d : Pt} (h : meets a b d c) : meets a b c d := by
  unfold meets at *
  rw [tw_swap c d a, tw_swap c d b, Int.neg_mul_neg, Int.mul_comm (tw a b d)] at h
  rcases h with h | h | h | h | h
  · exact .inl (on_swap h)
  · exact .inr (.inl (on_swap h))
  · exact .inr (.inr (.inr (.inl h)))
  · exact .inr (.inr (.inl h))
  · exact .inr (.inr (.inr (.inr h)))
theorem cell (a b c d : Pt) (h : ¬ meets a b c d) : cr c d b - cr c d a = rh a b d - rh a b c := by
  rcases Int.le_total a.2 b.2 with h1 | h1 <;> rcases Int.le_total c.2 d.2 with h2 | h2
  · exact cell_up a b c d h1 h2 h
  · have := cell_up a b d c h1 h2 (fun x => h (meets_swap2 x)); rw [cr_swap c d a, cr_swap c d b] at this; omega
  · have := cell_up b a c d h1 h2 (fun x => h (meets_swap1 x)); rw [rh_swap a b c, rh_swap a b d] at this; omega
  · have := cell_up b a d c h1 h2 (fun x => h (meets_swap1 (meets_swap2 x)))
    rw [cr_swap c d a, cr_swap c d b, rh_swap a b c, rh_swap a b d] at this; omega

def up (a b : Pt) : Int := if a.2 < b.2 then 1 else if b.2 < a.2 then 0 else if b.1 < a.1 then 1 else 0
/-- neighbours at a corner: if straight, the corner lies between them -/
def adj (a b c : Pt) : Prop := a ≠ b ∧ b ≠ c ∧
  (tw a b c = 0 → ((a.2 < b.2 ∧ b.2 < c.2) ∨ (c.2 < b.2 ∧ b.2 < a.2) ∨ (a.2 = b.2 ∧ b.2 = c.2 ∧ ((a.1 < b.1 ∧ b.1 < c.1) ∨ (c.1 < b.1 ∧ b.1 < a.1)))))
theorem tw_rot (a b c : Pt) : tw b c a = tw a b c := by simp only [tw]; grind
theorem tri (x y : Int) : (x < y ∧ ¬ y < x ∧ x ≤ y ∧ ¬ y ≤ x) ∨ (¬ x < y ∧ ¬ y < x ∧ x ≤ y ∧ y ≤ x) ∨ (¬ x < y ∧ y < x ∧ ¬ x ≤ y ∧ y ≤ x) := by omega
theorem local_ (a b c : Pt) (h : adj a b c) : rh b c a + cr a b c + up b c = rh a b c + cr b c a + up a b := by
  obtain ⟨h1, h2, h3⟩ := h
  have e1 : a.2 = b.2 → a.1 ≠ b.1 := fun e e' => h1 (Prod.ext e' e)
  have e2 : b.2 = c.2 → b.1 ≠ c.1 := fun e e' => h2 (Prod.ext e' e)
  have s1 : a.2 = b.2 → tw a b c = (b.1 - a.1) * (c.2 - b.2) := fun e => by unfold tw; rw [e]; grind
  have s2 : b.2 = c.2 → tw a b c = (b.1 - c.1) * (b.2 - a.2) := fun e => by unfold tw; rw [e]; grind
  have key : ∀ x y : Int, (0 < x → 0 < y → 0 < x * y) ∧ (x < 0 → y < 0 → 0 < x * y) ∧ (0 < x → y < 0 → x * y < 0) ∧ (x < 0 → 0 < y → x * y < 0) ∧ (y = 0 → x * y = 0) :=
    fun x y => ⟨Int.mul_pos, Int.mul_pos_of_neg_of_neg, Int.mul_neg_of_pos_of_neg, Int.mul_neg_of_neg_of_pos, fun e => by rw [e, Int.mul_zero]⟩
  have k1 := key (b.1 - a.1) (c.2 - b.2)
  have k2 := key (b.1 - c.1) (b.2 - a.2)
  have hrot := tw_rot a b c
  unfold rh cr up
  rw [hrot]
  generalize (b.1 - a.1) * (c.2 - b.2) = m1 at *
  generalize (b.1 - c.1) * (b.2 - a.2) = m2 at *
  generalize tw a b c = T at *
  clear key h1 h2 hrot
  rcases tri a.2 b.2 with ⟨a1, a2, a3, a4⟩ | ⟨a1, a2, a3, a4⟩ | ⟨a1, a2, a3, a4⟩ <;> rcases tri b.2 c.2 with ⟨b1, b2, b3, b4⟩ | ⟨b1, b2, b3, b4⟩ | ⟨b1, b2, b3, b4⟩ <;> rcases tri a.2 c.2 with ⟨c1, c2, c3, c4⟩ | ⟨c1, c2, c3, c4⟩ | ⟨c1, c2, c3, c4⟩ <;> rcases tri T 0 with ⟨d1, d2, d3, d4⟩ | ⟨d1, d2, d3, d4⟩ | ⟨d1, d2, d3, d4⟩
  all_goals
    try (simp only [a1, a2, a3, a4, b1, b2, b3, b4, c1, c2, c3, c4, d1, d2, and_true, and_false, if_false, if_true]; done)
  all_goals
    try (exfalso; clear e1 e2 k1 k2 s1 s2 h3; omega)
  all_goals
    (try simp only [a1, a2, a3, a4, b1, b2, b3, b4, c1, c2, c3, c4, d1, d2, and_true, and_false, if_false, if_true]); ((repeat' split) <;> omega)
end Go.Proofs.Ytjkfdcjfoliboaa.MJ
/- plain mathematics: around a polygon -/
namespace Go.Proofs.Ytjkfdcjfoliboaa.MJ
set_option linter.unusedVariables false
set_option linter.unusedSimpArgs false
/-- sums -/
def sm (f : Nat → Int) : Nat → Int
  | 0 => 0
  | n + 1 => sm f n + f n
theorem sm_congr {f g : Nat → Int} {n : Nat} (h : ∀ i, i < n → f i = g i) : sm f n = sm g n := by
  induction n with
  | zero => rfl
  | succ n ih => simp only [sm]; rw [ih (fun i hi => h i (by omega)), h n (by omega)]
theorem sm_add (f g : Nat → Int) (n : Nat) : sm (fun i => f i + g i) n = sm f n + sm g n := by
  induction n with
  | zero => rfl
  | succ n ih => simp only [sm]; omega
theorem sm_sub (f g : Nat → Int) (n : Nat) : sm (fun i => f i - g i) n = sm f n - sm g n := by
  induction n with
  | zero => rfl
  | succ n ih => simp only [sm]; omega
theorem sm_tele (f : Nat → Int) (n : Nat) : sm (fun i => f (i + 1) - f i) n = f n - f 0 := by
  induction n with
  | zero => simp [sm]
  | succ n ih => simp only [sm]; omega
theorem sm_head (f : Nat → Int) (n : Nat) : sm f (n + 1) = f 0 + sm (fun i => f (i + 1)) n := by
  induction n with
  | zero => simp [sm]
  | succ n ih => rw [sm, ih]; simp only [sm]; omega
theorem sm_zero {f : Nat → Int} {n : Nat} (h : ∀ i, i < n → f i = 0) : sm f n = 0 := by
  induction n with
  | zero => rfl
  | succ n ih => simp only [sm]; rw [ih (fun i hi => h i (by omega)), h n (by omega)]; rfl
/-- a window of one period, wherever it begins -/
theorem sm_shift {f : Nat → Int} {n : Nat} (hp : ∀ i, f (i + n) = f i) (s : Nat) : sm (fun i => f (s + i)) n = sm f n := by
  induction s with
  | zero => exact sm_congr fun i _ => by rw [Nat.zero_add]
  | succ s ih =>
    rw [← ih]
    have h1 := sm_head (fun i => f (s + i)) n
    have h2 : sm (fun i => f (s + i)) (n + 1) = sm (fun i => f (s + i)) n + f (s + n) := rfl
    have h3 := hp s
    have h4 : sm (fun i => f (s + (i + 1))) n = sm (fun i => f (s + 1 + i)) n := sm_congr fun i _ => by rw [Nat.add_comm i 1, Nat.add_assoc]
    simp only [Nat.add_zero] at h1
    omega

/-- a polygon that does not cross itself (straight corners let in), as a periodic row of points -/
structure Simple (v : Nat → Pt) (n : Nat) : Prop where
  three : 3 ≤ n
  per : ∀ i, v (i + n) = v i
  adj : ∀ i, adj (v i) (v (i + 1)) (v (i + 2))
  apart : ∀ i j, i + 2 ≤ j → j + 2 ≤ i + n → ¬ meets (v i) (v (i + 1)) (v j) (v (j + 1))
/-- crossings of the lines that do not end at corner k with its ray -/
def Fk (v : Nat → Pt) (n k : Nat) : Int := sm (fun j => cr (v (k + 1 + j)) (v (k + 2 + j)) (v k)) (n - 2)
/-- what is constant: how often the polygon goes round the points at its left side -/
def Ck (v : Nat → Pt) (n k : Nat) : Int :=
  Fk v n k + (rh (v k) (v (k + 1)) (v (k + n - 1)) + cr (v (k + n - 1)) (v k) (v (k + 1))) + up (v k) (v (k + 1))
theorem Ck_step {v : Nat → Pt} {n : Nat} (h : Simple v n) (k : Nat) : Ck v n (k + 1) = Ck v n k := by
  have h3 := h.three
  obtain ⟨m, rfl⟩ : ∃ m, n = m + 3 := ⟨n - 3, by omega⟩
  have hper := h.per k
  have hl := local_ (v k) (v (k + 1)) (v (k + 2)) (h.adj k)
  unfold Ck Fk
  have e0 : m + 3 - 2 = m + 1 := rfl
  have e1 : k + (m + 3) - 1 = k + m + 2 := by omega
  have e2 : k + 1 + (m + 3) - 1 = k + (m + 3) := by omega
  rw [e0, e1, e2, hper]
  have hF1 : sm (fun j => cr (v (k + 1 + 1 + j)) (v (k + 1 + 2 + j)) (v (k + 1))) (m + 1)
      = sm (fun j => cr (v (k + 2 + j)) (v (k + 3 + j)) (v (k + 1))) m + cr (v (k + m + 2)) (v k) (v (k + 1)) := by
    rw [sm]
    have a1 : k + 1 + 1 + m = k + m + 2 := by omega
    have a2 : k + 1 + 2 + m = k + (m + 3) := by omega
    rw [a1, a2, hper]
  have hF0 : sm (fun j => cr (v (k + 1 + j)) (v (k + 2 + j)) (v k)) (m + 1)
      = cr (v (k + 1)) (v (k + 2)) (v k) + sm (fun j => cr (v (k + 2 + j)) (v (k + 3 + j)) (v k)) m := by
    rw [sm_head]
    simp only [Nat.add_zero]
    congr 1
    exact sm_congr fun i _ => by
      rw [show k + 1 + (i + 1) = k + 2 + i by omega, show k + 2 + (i + 1) = k + 3 + i by omega]
  have hT : sm (fun j => cr (v (k + 2 + j)) (v (k + 3 + j)) (v (k + 1)) - cr (v (k + 2 + j)) (v (k + 3 + j)) (v k)) m
      = rh (v k) (v (k + 1)) (v (k + m + 2)) - rh (v k) (v (k + 1)) (v (k + 2)) := by
    have ht := sm_tele (fun j => rh (v k) (v (k + 1)) (v (k + 2 + j))) m
    simp only [Nat.add_zero] at ht
    rw [show k + 2 + m = k + m + 2 by omega] at ht
    rw [← ht]
    exact sm_congr fun j hj => by
      have := cell (v k) (v (k + 1)) (v (k + 2 + j)) (v (k + 3 + j)) (by
        have := h.apart k (k + 2 + j) (by omega) (by omega)
        rwa [show k + 2 + j + 1 = k + 3 + j by omega] at this)
      rw [this, show k + 2 + (j + 1) = k + 3 + j by omega]
  rw [sm_sub] at hT
  have hk : k + 1 + 1 = k + 2 := rfl
  have hk3 : k + 1 + 2 = k + 3 := rfl
  simp only [hk, hk3] at *
  rw [hF1, hF0]
  omega
/-! local facts at a corner -/
theorem cr_west {a b p : Pt} (ha : a.1 ≤ p.1) (hb : b.1 ≤ p.1) : cr a b p = 0 := by
  have e : tw a b p = (b.1 - p.1) * (p.2 - a.2) + (a.1 - p.1) * (b.2 - p.2) := by unfold tw; grind
  unfold cr
  split
  · rename_i h
    have := Int.mul_nonneg (show 0 ≤ p.1 - b.1 by omega) (show 0 ≤ p.2 - a.2 by omega)
    have := Int.mul_nonneg (show 0 ≤ p.1 - a.1 by omega) (show 0 ≤ b.2 - p.2 by omega)
    grind
  · split
    · rename_i h
      have := Int.mul_nonneg (show 0 ≤ p.1 - b.1 by omega) (show 0 ≤ a.2 - p.2 by omega)
      have := Int.mul_nonneg (show 0 ≤ p.1 - a.1 by omega) (show 0 ≤ p.2 - b.2 by omega)
      grind
    · rfl
theorem signs (x y : Int) : (0 < x → 0 < y → 0 < x * y) ∧ (x < 0 → y < 0 → 0 < x * y) ∧ (0 < x → y < 0 → x * y < 0) ∧ (x < 0 → 0 < y → x * y < 0) ∧ (y = 0 → x * y = 0) ∧ (x = 0 → x * y = 0) :=
  ⟨Int.mul_pos, Int.mul_pos_of_neg_of_neg, Int.mul_neg_of_pos_of_neg, Int.mul_neg_of_neg_of_pos, fun e => by rw [e, Int.mul_zero], fun e => by rw [e, Int.zero_mul]⟩
/-- the corner's own part -/
def co (a b c : Pt) : Int := rh b c a + cr a b c + up b c

structure Cor (a b c : Pt) (T : Int) : Prop where
  e1 : a.2 = b.2 → a.1 ≠ b.1
  e2 : b.2 = c.2 → b.1 ≠ c.1
  s1 : a.2 = b.2 → ((0 < b.1 - a.1 → 0 < c.2 - b.2 → 0 < T) ∧ (b.1 - a.1 < 0 → c.2 - b.2 < 0 → 0 < T) ∧ (0 < b.1 - a.1 → c.2 - b.2 < 0 → T < 0) ∧ (b.1 - a.1 < 0 → 0 < c.2 - b.2 → T < 0) ∧ (c.2 = b.2 → T = 0))
  s2 : b.2 = c.2 → ((0 < b.1 - c.1 → 0 < b.2 - a.2 → 0 < T) ∧ (b.1 - c.1 < 0 → b.2 - a.2 < 0 → 0 < T) ∧ (0 < b.1 - c.1 → b.2 - a.2 < 0 → T < 0) ∧ (b.1 - c.1 < 0 → 0 < b.2 - a.2 → T < 0) ∧ (b.2 = a.2 → T = 0))
  z : T = 0 → ((a.2 < b.2 ∧ b.2 < c.2) ∨ (c.2 < b.2 ∧ b.2 < a.2) ∨ (a.2 = b.2 ∧ b.2 = c.2 ∧ ((a.1 < b.1 ∧ b.1 < c.1) ∨ (c.1 < b.1 ∧ b.1 < a.1))))
theorem cor_of {a b c : Pt} (h : adj a b c) : Cor a b c (tw a b c) := by
  obtain ⟨h1, h2, h3⟩ := h
  refine ⟨fun e e' => h1 (Prod.ext e' e), fun e e' => h2 (Prod.ext e' e), fun e => ?_, fun e => ?_, h3⟩
  · have : tw a b c = (b.1 - a.1) * (c.2 - b.2) := by unfold tw; rw [e]; grind
    have k := signs (b.1 - a.1) (c.2 - b.2)
    rw [this]
    exact ⟨k.1, k.2.1, k.2.2.1, k.2.2.2.1, fun e => k.2.2.2.2.1 (by omega)⟩
  · have : tw a b c = (b.1 - c.1) * (b.2 - a.2) := by unfold tw; rw [e]; grind
    have k := signs (b.1 - c.1) (b.2 - a.2)
    rw [this]
    exact ⟨k.1, k.2.1, k.2.2.1, k.2.2.2.1, fun e => k.2.2.2.2.1 (by omega)⟩
/-- the corner's part, told by heights and the turn -/
def coT (a b c : Pt) (T : Int) : Int :=
  if a.2 < b.2 then (if b.2 < c.2 then 1 else if 0 < T then 1 else 0)
  else if b.2 < a.2 then (if b.2 < c.2 ∧ 0 < T then 1 else 0)
  else if b.2 < c.2 then 1 else if c.2 < b.2 then (if 0 < T then 1 else 0) else up b c
theorem co_tab {a b c : Pt} (h : adj a b c) : co a b c = coT a b c (tw a b c) := by
  have C := cor_of h
  have hrot := tw_rot a b c
  unfold co rh cr coT up
  rw [hrot]
  generalize tw a b c = T at *
  obtain ⟨e1, e2, s1, s2, z⟩ := C
  clear h hrot
  rcases tri a.2 b.2 with ⟨a1, a2, a3, a4⟩ | ⟨a1, a2, a3, a4⟩ | ⟨a1, a2, a3, a4⟩ <;> rcases tri b.2 c.2 with ⟨b1, b2, b3, b4⟩ | ⟨b1, b2, b3, b4⟩ | ⟨b1, b2, b3, b4⟩ <;> rcases tri a.2 c.2 with ⟨c1, c2, c3, c4⟩ | ⟨c1, c2, c3, c4⟩ | ⟨c1, c2, c3, c4⟩ <;> rcases tri T 0 with ⟨d1, d2, d3, d4⟩ | ⟨d1, d2, d3, d4⟩ | ⟨d1, d2, d3, d4⟩
  all_goals
    try (simp only [a1, a2, a3, a4, b1, b2, b3, b4, c1, c2, c3, c4, d1, d2, and_true, and_false, if_false, if_true, and_self]; done)
  all_goals
    try (exfalso; clear e1 e2 s1 s2 z; omega)
  all_goals
    (try simp only [a1, a2, a3, a4, b1, b2, b3, b4, c1, c2, c3, c4, d1, d2, and_true, and_false, if_false, if_true, and_self]); ((repeat' split) <;> omega)
theorem co_01 {a b c : Pt} (h : adj a b c) : co a b c = 0 ∨ co a b c = 1 := by
  rw [co_tab h]; unfold coT up; (repeat' split) <;> omega
theorem up_01 (a b : Pt) : up a b = 0 ∨ up a b = 1 := by unfold up; (repeat' split) <;> omega
/-- a point on the line behind a corner, strictly between by height -/
theorem tw_part {a b c x : Pt} (h : tw b c x = 0) : tw a b x * (c.2 - b.2) = tw a b c * (x.2 - b.2) := by
  have : tw a b x * (c.2 - b.2) - tw a b c * (x.2 - b.2) = (b.2 - a.2) * tw b c x := by unfold tw; grind
  rw [h] at this; omega
theorem sign_eq {p q r s : Int} (h : p * q = r * s) (hq : (0 < q ∧ 0 < s) ∨ (q < 0 ∧ s < 0)) : (0 < p ↔ 0 < r) ∧ (p < 0 ↔ r < 0) := by
  have k1 := signs p q
  have k2 := signs r s
  generalize p * q = m at *
  generalize r * s = m' at *
  omega
def Mid (b c x : Pt) : Prop := tw b c x = 0 ∧ ((b.2 < x.2 ∧ x.2 < c.2) ∨ (c.2 < x.2 ∧ x.2 < b.2))
theorem up_mid {b c x : Pt} (h : Mid b c x) : up b x = up b c := by
  obtain ⟨_, h⟩ := h
  unfold up; (repeat' split) <;> omega
theorem adj_mid {a b c x : Pt} (h : adj a b c) (hm : Mid b c x) : adj a b x := by
  obtain ⟨h1, h2, h3⟩ := h
  obtain ⟨hx, hm⟩ := hm
  have hs := sign_eq (tw_part (a := a) hx) (by omega)
  refine ⟨h1, fun e => by subst e; omega, fun e => ?_⟩
  have := h3 (by omega)
  omega
theorem co_mid {a b c x : Pt} (h : adj a b c) (hm : Mid b c x) : rh b x a + cr a b x = rh b c a + cr a b c := by
  have e1 := co_tab h
  have e2 := co_tab (adj_mid h hm)
  have hs := sign_eq (tw_part (a := a) hm.1) (by have := hm.2; omega)
  have hu := up_mid hm
  have h2 := hm.2
  have e : coT a b x (tw a b x) = coT a b c (tw a b c) := by
    unfold coT; rw [hu]; generalize tw a b x = T at *; generalize tw a b c = T' at *; generalize up b c = u at *
    (repeat' split) <;> omega
  unfold co at e1 e2
  omega
theorem co_west {a b c p : Pt} (h : adj a b c) (h2 : p.2 = b.2) (h1 : p.1 < b.1) : cr a b p + cr b c p - co a b c = 0 ∨ cr a b p + cr b c p - co a b c = -1 := by
  rw [co_tab h]
  have t1 : tw a b p = (b.1 - p.1) * (b.2 - a.2) := by unfold tw; rw [h2]; grind
  have t2 : tw b c p = (b.1 - p.1) * (c.2 - b.2) := by unfold tw; rw [h2]; grind
  have k1 := signs (b.1 - p.1) (b.2 - a.2)
  have k2 := signs (b.1 - p.1) (c.2 - b.2)
  have hu := up_01 b c
  unfold cr coT
  rw [t1, t2, h2]
  generalize (b.1 - p.1) * (b.2 - a.2) = m1 at *
  generalize (b.1 - p.1) * (c.2 - b.2) = m2 at *
  generalize tw a b c = T at *
  generalize up b c = u at *
  clear h t1 t2
  rcases tri a.2 b.2 with ⟨a1, a2, a3, a4⟩ | ⟨a1, a2, a3, a4⟩ | ⟨a1, a2, a3, a4⟩ <;> rcases tri b.2 c.2 with ⟨b1, b2, b3, b4⟩ | ⟨b1, b2, b3, b4⟩ | ⟨b1, b2, b3, b4⟩
  all_goals ((repeat' split) <;> omega)
theorem co_east {a b c : Pt} (h : adj a b c) (ha : a.1 ≤ b.1) (hc : c.1 ≤ b.1) : (0 < tw a b c → co a b c = 1) ∧ (tw a b c < 0 → co a b c = 0) := by
  rw [co_tab h]
  have t : tw a b c = (b.1 - a.1) * (c.2 - b.2) + (b.1 - c.1) * (b.2 - a.2) := by unfold tw; grind
  have k : ∀ x y : Int, 0 ≤ x → (0 ≤ y → 0 ≤ x * y) ∧ (y ≤ 0 → x * y ≤ 0) := fun x y hx => ⟨Int.mul_nonneg hx, fun hy => by have := Int.mul_nonneg hx (Int.neg_nonneg.2 hy); rw [Int.mul_neg] at this; omega⟩
  have k1 := k (b.1 - a.1) (c.2 - b.2) (by omega)
  have k2 := k (b.1 - c.1) (b.2 - a.2) (by omega)
  have z : a.2 = b.2 → b.2 = c.2 → tw a b c = 0 := fun e e' => by unfold tw; rw [e, e']; grind
  unfold coT
  generalize (b.1 - a.1) * (c.2 - b.2) = m1 at *
  generalize (b.1 - c.1) * (b.2 - a.2) = m2 at *
  generalize tw a b c = T at *
  generalize up b c = u at *
  constructor <;> intro hT <;> (repeat' split) <;> omega
end Go.Proofs.Ytjkfdcjfoliboaa.MJ
/- plain mathematics: what is left of a line -/
namespace Go.Proofs.Ytjkfdcjfoliboaa.MJ
set_option linter.unusedVariables false
set_option linter.unusedSimpArgs false
theorem mz {x y : Int} (h : x * y = 0) (hx : x ≠ 0) : y = 0 := by
  rcases Int.mul_eq_zero.1 h with h | h
  · exact absurd h hx
  · exact h
/-- the value of a line at a point of another one -/
theorem tw_conv2 (a b c d x : Pt) (h : tw a b x = 0) : tw c d x * (b.2 - a.2) = tw c d a * (b.2 - x.2) + tw c d b * (x.2 - a.2) := by
  have e : tw c d x * (b.2 - a.2) - tw c d a * (b.2 - x.2) - tw c d b * (x.2 - a.2) = (d.2 - c.2) * tw a b x := by unfold tw; grind
  rw [h] at e; omega
theorem tw_conv1 (a b c d x : Pt) (h : tw a b x = 0) : tw c d x * (b.1 - a.1) = tw c d a * (b.1 - x.1) + tw c d b * (x.1 - a.1) := by
  have e : tw c d x * (b.1 - a.1) - tw c d a * (b.1 - x.1) - tw c d b * (x.1 - a.1) = (d.1 - c.1) * tw a b x := by unfold tw; grind
  rw [h] at e; omega
theorem on_left (a b : Pt) : on a b a := by
  refine ⟨by unfold tw; grind, ?_, ?_, ?_, ?_⟩ <;> omega
theorem on_right (a b : Pt) : on a b b := by
  refine ⟨by unfold tw; grind, ?_, ?_, ?_, ?_⟩ <;> omega
theorem on_same {a x : Pt} (h : on a a x) : x = a := by
  obtain ⟨_, h1, h2, h3, h4⟩ := h
  exact Prod.ext (by omega) (by omega)
/-- weights of two numbers that are together 0 -/
theorem conv {A B s t : Int} (h : A * s + B * t = 0) (hs : (0 ≤ s ∧ 0 ≤ t) ∨ (s ≤ 0 ∧ t ≤ 0)) (hst : s + t ≠ 0) : ¬ 0 < A * B := by
  intro hp
  rcases Int.lt_trichotomy A 0 with hA | hA | hA
  · have hB : B < 0 := by
      rcases Int.lt_or_le B 0 with hB | hB
      · exact hB
      · have := Int.mul_nonneg (show 0 ≤ -A by omega) hB; rw [Int.neg_mul] at this; omega
    rcases hs with ⟨h1, h2⟩ | ⟨h1, h2⟩
    · have a1 := Int.mul_nonneg (show 0 ≤ -A by omega) h1
      have a2 := Int.mul_nonneg (show 0 ≤ -B by omega) h2
      rw [Int.neg_mul] at a1 a2
      have z1 : A * s = 0 := by omega
      have z2 : B * t = 0 := by omega
      have := mz z1 (by omega); have := mz z2 (by omega); omega
    · have a1 := Int.mul_nonneg (show 0 ≤ -A by omega) (show 0 ≤ -s by omega)
      have a2 := Int.mul_nonneg (show 0 ≤ -B by omega) (show 0 ≤ -t by omega)
      rw [Int.neg_mul_neg] at a1 a2
      have z1 : A * s = 0 := by omega
      have z2 : B * t = 0 := by omega
      have := mz z1 (by omega); have := mz z2 (by omega); omega
  · subst hA; rw [Int.zero_mul] at hp; omega
  · have hB : 0 < B := by
      rcases Int.lt_or_le 0 B with hB | hB
      · exact hB
      · have := Int.mul_nonneg (Int.le_of_lt hA) (show 0 ≤ -B by omega); rw [Int.mul_neg] at this; omega
    rcases hs with ⟨h1, h2⟩ | ⟨h1, h2⟩
    · have a1 := Int.mul_nonneg (Int.le_of_lt hA) h1
      have a2 := Int.mul_nonneg (Int.le_of_lt hB) h2
      have z1 : A * s = 0 := by omega
      have z2 : B * t = 0 := by omega
      have := mz z1 (by omega); have := mz z2 (by omega); omega
    · have a1 := Int.mul_nonneg (Int.le_of_lt hA) (show 0 ≤ -s by omega)
      have a2 := Int.mul_nonneg (Int.le_of_lt hB) (show 0 ≤ -t by omega)
      rw [Int.mul_neg] at a1 a2
      have z1 : A * s = 0 := by omega
      have z2 : B * t = 0 := by omega
      have := mz z1 (by omega); have := mz z2 (by omega); omega
/-- a point of a line between its ends is no more to one side than both of them -/
theorem on_between {a b c d x : Pt} (h : on a b x) (hx : tw c d x = 0) (hne : a ≠ b) : ¬ 0 < tw c d a * tw c d b := by
  obtain ⟨h0, h1, h2, h3, h4⟩ := h
  by_cases e : a.2 = b.2
  · have e1 : a.1 ≠ b.1 := fun e' => hne (Prod.ext e' e)
    have := tw_conv1 a b c d x h0
    rw [hx, Int.zero_mul] at this
    exact conv this.symm (by omega) (by omega)
  · have := tw_conv2 a b c d x h0
    rw [hx, Int.zero_mul] at this
    exact conv this.symm (by omega) (by omega)
theorem end_of {a b c d x : Pt} (h : on a b x) (hx : tw c d x = 0) (hA : tw c d a = 0) (hB : tw c d b ≠ 0) : x = a := by
  obtain ⟨h0, h1, h2, h3, h4⟩ := h
  have c1 := tw_conv1 a b c d x h0
  have c2 := tw_conv2 a b c d x h0
  rw [hx, hA, Int.zero_mul, Int.zero_mul, Int.zero_add] at c1 c2
  have := mz c1.symm hB
  have := mz c2.symm hB
  exact Prod.ext (by omega) (by omega)
theorem share {a b c d x : Pt} (h1 : on a b x) (h2 : on c d x) : meets a b c d := by
  refine Classical.byContradiction fun hm => ?_
  have nA : ¬ on c d a := fun x => hm (Or.inl x)
  have nB : ¬ on c d b := fun x => hm (Or.inr (Or.inl x))
  have nC : ¬ on a b c := fun x => hm (Or.inr (Or.inr (Or.inl x)))
  have nD : ¬ on a b d := fun x => hm (Or.inr (Or.inr (Or.inr (Or.inl x))))
  have P := packs hm
  by_cases eab : a = b
  · subst eab; rw [on_same h1] at h2; exact nA h2
  by_cases ecd : c = d
  · subst ecd; rw [on_same h2] at h1; exact nC h1
  have p1 := on_between h1 h2.1 eab
  have p2 := on_between h2 h1.1 ecd
  rcases Int.lt_trichotomy (tw c d a * tw c d b) 0 with hAB | hAB | hAB
  · exact p2 (P.ab hAB)
  · have z : tw c d a = 0 ∧ tw c d b = 0 := by
      rcases Int.mul_eq_zero.1 hAB with h0 | h0
      · by_cases hB : tw c d b = 0
        · exact ⟨h0, hB⟩
        · exact absurd (end_of h1 h2.1 h0 hB ▸ h2) nA
      · by_cases hA : tw c d a = 0
        · exact ⟨hA, h0⟩
        · exact absurd (end_of (on_swap h1) h2.1 h0 hA ▸ h2) nB
    obtain ⟨zA, zB⟩ := z
    have hs := tw_sum a b c d
    have hx := tw_x a b c d
    have hy := tw_y a b c d
    rw [zA, zB] at hs hx hy
    have eCD : tw a b c = tw a b d := by omega
    have k1 : tw a b c * (c.1 - d.1) = 0 := by rw [← eCD] at hx; grind
    have k2 : tw a b c * (c.2 - d.2) = 0 := by rw [← eCD] at hy; grind
    have zC : tw a b c = 0 := by
      refine Classical.byContradiction fun hC => ecd (Prod.ext ?_ ?_)
      · have := mz k1 hC; omega
      · have := mz k2 hC; omega
    have zD : tw a b d = 0 := by omega
    obtain ⟨g0, g1, g2, g3, g4⟩ := h1
    obtain ⟨f0, f1, f2, f3, f4⟩ := h2
    by_cases e2 : c.2 = d.2
    · have e1 : c.1 ≠ d.1 := fun e' => ecd (Prod.ext e' e2)
      have ya : a.2 = c.2 := by
        have : (d.1 - c.1) * (a.2 - c.2) = 0 := by unfold tw at zA; rw [← e2] at zA; grind
        have := mz this (by omega); omega
      have yb : b.2 = c.2 := by
        have : (d.1 - c.1) * (b.2 - c.2) = 0 := by unfold tw at zB; rw [← e2] at zB; grind
        have := mz this (by omega); omega
      unfold on at nA nB nC nD
      omega
    · have lev : ∀ p q : Pt, tw c d p = 0 → tw c d q = 0 → p.2 = q.2 → p = q := by
        intro p q hp hq hpq
        have : (d.2 - c.2) * (p.1 - q.1) = 0 := by unfold tw at hp hq; rw [hpq] at hp; grind
        have := mz this (by omega)
        exact Prod.ext (by omega) hpq
      have e3 : a.2 ≠ b.2 := fun e => eab (lev a b zA zB e)
      have oA : ¬ ((c.2 ≤ a.2 ∧ a.2 ≤ d.2) ∨ (d.2 ≤ a.2 ∧ a.2 ≤ c.2)) := fun w => nA (on_of_level c d a zA w e2)
      have oB : ¬ ((c.2 ≤ b.2 ∧ b.2 ≤ d.2) ∨ (d.2 ≤ b.2 ∧ b.2 ≤ c.2)) := fun w => nB (on_of_level c d b zB w e2)
      have oC : ¬ ((a.2 ≤ c.2 ∧ c.2 ≤ b.2) ∨ (b.2 ≤ c.2 ∧ c.2 ≤ a.2)) := fun w => nC (on_of_level a b c zC w e3)
      have oD : ¬ ((a.2 ≤ d.2 ∧ d.2 ≤ b.2) ∨ (b.2 ≤ d.2 ∧ d.2 ≤ a.2)) := fun w => nD (on_of_level a b d zD w e3)
      clear nA nB nC nD hs hx hy k1 k2 p1 p2 P hm g0 f0 hAB
      omega
  · exact p1 hAB
/-- a part of a line that begins where it does -/
theorem on_part {a b x c : Pt} (hx : on a b x) (h : on a x c) : on a b c := by
  obtain ⟨h0, h1, h2, h3, h4⟩ := hx
  obtain ⟨g0, g1, g2, g3, g4⟩ := h
  refine ⟨?_, by omega, by omega, by omega, by omega⟩
  by_cases e : x = a
  · subst e
    have e1 : c.1 = x.1 := by omega
    have e2 : c.2 = x.2 := by omega
    unfold tw; rw [e1, e2]; grind
  · have k1 : tw a b c * (x.1 - a.1) = 0 := by
      have : tw a b c * (x.1 - a.1) = tw a x c * (b.1 - a.1) + (c.1 - a.1) * tw a b x := by unfold tw; grind
      rw [h0, g0] at this; omega
    have k2 : tw a b c * (x.2 - a.2) = 0 := by
      have : tw a b c * (x.2 - a.2) = tw a x c * (b.2 - a.2) + (c.2 - a.2) * tw a b x := by unfold tw; grind
      rw [h0, g0] at this; omega
    refine Classical.byContradiction fun hC => e (Prod.ext ?_ ?_)
    · have := mz k1 hC; omega
    · have := mz k2 hC; omega
theorem mul_neg_iff {x y : Int} : x * y < 0 ↔ (0 < x ∧ y < 0) ∨ (x < 0 ∧ 0 < y) := by
  have k := signs x y
  generalize x * y = m at *
  omega
theorem mul_pos_iff' {x y : Int} : 0 < x * y ↔ (0 < x ∧ 0 < y) ∨ (x < 0 ∧ y < 0) := by
  have k := signs x y
  generalize x * y = m at *
  omega
theorem conv_pos {A B X s t : Int} (hst : (0 ≤ s ∧ 0 ≤ t ∧ s ≤ t) ∨ (s ≤ 0 ∧ t ≤ 0 ∧ t ≤ s)) (hs : s ≠ 0) (ht : t ≠ 0) (e : X * t = A * (t - s) + B * s) (hA : 0 < A) (hB : 0 < B) : 0 < X := by
  rcases hst with ⟨h1, h2, h3⟩ | ⟨h1, h2, h3⟩
  · have m1 := Int.mul_nonneg (Int.le_of_lt hA) (show 0 ≤ t - s by omega)
    have m2 := Int.mul_pos hB (show 0 < s by omega)
    exact pos_of_mul (y := t) (by omega) (by omega)
  · have m1 := Int.mul_nonneg (Int.le_of_lt hA) (show 0 ≤ -(t - s) by omega)
    have m2 := Int.mul_pos hB (show 0 < -s by omega)
    rw [Int.mul_neg] at m1 m2
    exact pos_of_mul (y := -t) (by rw [Int.mul_neg]; omega) (by omega)
theorem meets_part {a b x c d : Pt} (hx : on a b x) (h : meets a x c d) : meets a b c d := by
  rcases h with h | h | h | h | ⟨h, g⟩
  · exact .inl h
  · exact share hx h
  · exact .inr (.inr (.inl (on_part hx h)))
  · exact .inr (.inr (.inr (.inl (on_part hx h))))
  · refine Classical.byContradiction fun hm => ?_
    have P := packs hm
    obtain ⟨h0, h1, h2, h3, h4⟩ := hx
    have key : ∀ s t u : Int, t ≠ 0 → ((0 ≤ s ∧ 0 ≤ t ∧ s ≤ t) ∨ (s ≤ 0 ∧ t ≤ 0 ∧ t ≤ s)) →
        tw a x c * t = tw a b c * s → tw a x d * t = tw a b d * s → tw c d x * t = tw c d a * (t - s) + tw c d b * s → False := by
      intro s t _ ht hst e1 e2 e3
      generalize tw a x c = C' at *
      generalize tw a x d = D' at *
      generalize tw c d x = X at *
      generalize tw a b c = C at *
      generalize tw a b d = D at *
      generalize tw c d a = A at *
      generalize tw c d b = B at *
      have hs0 : s ≠ 0 := by
        intro e; subst e
        rw [Int.mul_zero] at e1
        have : C' = 0 := by
          rcases Int.mul_eq_zero.1 e1 with z | z
          · exact z
          · exact absurd z ht
        rw [this] at h; omega
      have q1 := sign_eq e1 (by omega)
      have q2 := sign_eq e2 (by omega)
      have hCD : C * D < 0 := by rw [mul_neg_iff] at h ⊢; omega
      have hAB := P.cd hCD
      rw [mul_pos_iff'] at hAB
      rw [mul_neg_iff] at g
      have c1 := conv_pos (A := A) (B := B) (X := X) hst hs0 ht e3
      have c2 := conv_pos (A := -A) (B := -B) (X := -X) hst hs0 ht (by rw [Int.neg_mul, Int.neg_mul, Int.neg_mul, e3]; omega)
      clear q1 q2 e1 e2 e3 h hCD P hm
      rcases g with g | g <;> rcases hAB with hAB | hAB
      · have := c1 hAB.1 hAB.2; omega
      · omega
      · omega
      · have := c2 (by omega) (by omega); omega
    by_cases e : a.2 = b.2
    · by_cases e' : a.1 = b.1
      · have : x = a := Prod.ext (by omega) (by omega)
        subst this
        have : tw x x c = 0 := by unfold tw; grind
        rw [this] at h; omega
      · refine key (x.1 - a.1) (b.1 - a.1) 0 (by omega) (by omega) ?_ ?_ ?_
        · have : tw a b c * (x.1 - a.1) = tw a x c * (b.1 - a.1) + (c.1 - a.1) * tw a b x := by unfold tw; grind
          rw [h0] at this; omega
        · have : tw a b d * (x.1 - a.1) = tw a x d * (b.1 - a.1) + (d.1 - a.1) * tw a b x := by unfold tw; grind
          rw [h0] at this; omega
        · have := tw_conv1 a b c d x h0
          rw [this, show b.1 - a.1 - (x.1 - a.1) = b.1 - x.1 by omega]
    · refine key (x.2 - a.2) (b.2 - a.2) 0 (by omega) (by omega) ?_ ?_ ?_
      · have : tw a b c * (x.2 - a.2) = tw a x c * (b.2 - a.2) + (c.2 - a.2) * tw a b x := by unfold tw; grind
        rw [h0] at this; omega
      · have : tw a b d * (x.2 - a.2) = tw a x d * (b.2 - a.2) + (d.2 - a.2) * tw a b x := by unfold tw; grind
        rw [h0] at this; omega
      · have := tw_conv2 a b c d x h0
        rw [this, show b.2 - a.2 - (x.2 - a.2) = b.2 - x.2 by omega]
/-- a polygon: no corner is straight -/
structure Poly (v : Nat → Pt) (n : Nat) : Prop extends Simple v n where
  turn : ∀ i, tw (v i) (v (i + 1)) (v (i + 2)) ≠ 0
/-- how often the lines go around a point -/
def WN (v : Nat → Pt) (n : Nat) (p : Pt) : Int := sm (fun j => cr (v j) (v (j + 1)) p) n
/-- what the lines that do not end at corner k bring to that -/
def Ot (v : Nat → Pt) (n k : Nat) (p : Pt) : Int := sm (fun j => cr (v (k + 1 + j)) (v (k + 2 + j)) p) (n - 2)
theorem WN_at {v : Nat → Pt} {n : Nat} (h : Simple v n) (k : Nat) (p : Pt) :
    WN v n p = cr (v k) (v (k + 1)) p + Ot v n k p + cr (v (k + n - 1)) (v k) p := by
  have h3 := h.three
  obtain ⟨m, rfl⟩ : ∃ m, n = m + 3 := ⟨n - 3, by omega⟩
  unfold WN Ot
  have hp : ∀ i, cr (v (i + (m + 3))) (v (i + (m + 3) + 1)) p = cr (v i) (v (i + 1)) p := fun i => by
    rw [show i + (m + 3) + 1 = i + 1 + (m + 3) by omega, h.per, h.per]
  rw [← sm_shift hp k, sm_head, show m + 3 - 2 = m + 1 from rfl, sm]
  rw [show k + (m + 1 + 1) + 1 = k + (m + 3) by omega, h.per, show k + (m + 3) - 1 = k + (m + 1 + 1) by omega]
  have : sm (fun i => cr (v (k + (i + 1))) (v (k + (i + 1) + 1)) p) (m + 1) = sm (fun j => cr (v (k + 1 + j)) (v (k + 2 + j)) p) (m + 1) :=
    sm_congr fun i _ => by rw [show k + (i + 1) + 1 = k + 2 + i by omega, show k + (i + 1) = k + 1 + i by omega]
  rw [this]
  simp only [Nat.add_zero]
  omega
theorem Ck_0 {v : Nat → Pt} {n : Nat} (h : Simple v n) (k : Nat) : Ck v n k = Ck v n 0 := by
  induction k with
  | zero => rfl
  | succ k ih => rw [Ck_step h k, ih]
/-- the side of a polygon: 1 or 0 -/
def Cs (v : Nat → Pt) (n : Nat) : Int := Ck v n 0
theorem Cs_at {v : Nat → Pt} {n : Nat} (h : Simple v n) (k : Nat) : Cs v n = Ot v n k (v k) + co (v (k + n - 1)) (v k) (v (k + 1)) := by
  have := Ck_0 h k
  unfold Cs
  rw [← this]
  unfold Ck co Fk Ot
  omega
theorem adj_at {v : Nat → Pt} {n : Nat} (h : Simple v n) (k : Nat) : adj (v (k + n - 1)) (v k) (v (k + 1)) := by
  have h3 := h.three
  have a := h.adj (k + n - 1)
  rw [show k + n - 1 + 1 = k + n by omega, show k + n - 1 + 2 = k + 1 + n by omega, h.per, h.per] at a
  exact a
theorem turn_at {v : Nat → Pt} {n : Nat} (h : Poly v n) (k : Nat) : tw (v (k + n - 1)) (v k) (v (k + 1)) ≠ 0 := by
  have h3 := h.three
  have a := h.turn (k + n - 1)
  rw [show k + n - 1 + 1 = k + n by omega, show k + n - 1 + 2 = k + 1 + n by omega, h.per, h.per] at a
  exact a
/-- a row has a greatest one -/
theorem most (f : Nat → Int) (n : Nat) (hn : 0 < n) : ∃ k, k < n ∧ ∀ j, j < n → f j ≤ f k := by
  induction n with
  | zero => omega
  | succ n ih =>
    by_cases h0 : n = 0
    · subst h0; exact ⟨0, by omega, fun j hj => by rw [show j = 0 by omega]; exact Int.le_refl _⟩
    · obtain ⟨k, hk, hm⟩ := ih (by omega)
      by_cases hc : f n ≤ f k
      · refine ⟨k, by omega, fun j hj => ?_⟩
        by_cases hj' : j = n
        · subst hj'; exact hc
        · exact hm j (by omega)
      · refine ⟨n, by omega, fun j hj => ?_⟩
        by_cases hj' : j = n
        · subst hj'; exact Int.le_refl _
        · have := hm j (by omega); omega
theorem per_mod {v : Nat → Pt} {n : Nat} (hp : ∀ i, v (i + n) = v i) (i : Nat) : v i = v (i % n) := by
  have : ∀ q r, v (r + n * q) = v r := by
    intro q
    induction q with
    | zero => intro r; rfl
    | succ q ih => intro r; rw [show r + n * (q + 1) = r + n * q + n by rw [Nat.mul_succ]; omega, hp, ih]
  have e := Nat.mod_add_div i n
  rw [← this (i / n) (i % n), e]
/-- the corner farthest east -/
theorem east {v : Nat → Pt} {n : Nat} (h : Simple v n) : ∃ k, k < n ∧ ∀ j, (v j).1 ≤ (v k).1 := by
  have h3 := h.three
  obtain ⟨k, hk, hm⟩ := most (fun j => (v j).1) n (by omega)
  exact ⟨k, hk, fun j => by rw [per_mod h.per j]; exact hm _ (Nat.mod_lt _ (by omega))⟩
theorem Cs_east {v : Nat → Pt} {n : Nat} (h : Simple v n) {k : Nat} (hk : ∀ j, (v j).1 ≤ (v k).1) : Cs v n = co (v (k + n - 1)) (v k) (v (k + 1)) := by
  rw [Cs_at h k]
  have : Ot v n k (v k) = 0 := sm_zero fun i _ => cr_west (hk _) (hk _)
  omega
theorem Cs_01 {v : Nat → Pt} {n : Nat} (h : Simple v n) : Cs v n = 0 ∨ Cs v n = 1 := by
  obtain ⟨k, _, hk⟩ := east h
  rw [Cs_east h hk]
  exact co_01 (adj_at h k)
theorem Cs_turn {v : Nat → Pt} {n : Nat} (h : Simple v n) {k : Nat} (hk : ∀ j, (v j).1 ≤ (v k).1) :
    (0 < tw (v (k + n - 1)) (v k) (v (k + 1)) → Cs v n = 1) ∧ (tw (v (k + n - 1)) (v k) (v (k + 1)) < 0 → Cs v n = 0) := by
  rw [Cs_east h hk]
  exact co_east (adj_at h k) (hk _) (hk _)

/-- strictly between the ends of a line -/
def In (a b x : Pt) : Prop := tw a b x = 0 ∧ ((a.2 < x.2 ∧ x.2 < b.2) ∨ (b.2 < x.2 ∧ x.2 < a.2) ∨ (a.2 = b.2 ∧ x.2 = a.2 ∧ ((a.1 < x.1 ∧ x.1 < b.1) ∨ (b.1 < x.1 ∧ x.1 < a.1))))
theorem on_in {a b x : Pt} (h : on a b x) : x = a ∨ x = b ∨ In a b x := by
  obtain ⟨h0, h1, h2, h3, h4⟩ := h
  by_cases e : a.2 = b.2
  · by_cases ea : x.1 = a.1
    · exact .inl (Prod.ext ea (by omega))
    · by_cases eb : x.1 = b.1
      · exact .inr (.inl (Prod.ext eb (by omega)))
      · exact .inr (.inr ⟨h0, by omega⟩)
  · have lev : ∀ q : Pt, tw a b q = 0 → x.2 = q.2 → x = q := by
      intro q hq hpq
      have : (b.2 - a.2) * (x.1 - q.1) = 0 := by unfold tw at h0 hq; rw [hpq] at h0; grind
      have := mz this (by omega)
      exact Prod.ext (by omega) hpq
    by_cases ea : x.2 = a.2
    · exact .inl (lev a (on_left a b).1 ea)
    · by_cases eb : x.2 = b.2
      · exact .inr (.inl (lev b (on_right a b).1 eb))
      · exact .inr (.inr ⟨h0, by omega⟩)
theorem in_on {a b x : Pt} (h : In a b x) : on a b x := by
  obtain ⟨h0, h1⟩ := h
  by_cases e : a.2 = b.2
  · exact ⟨h0, by omega, by omega, by omega, by omega⟩
  · exact on_of_level a b x h0 (by omega) e
theorem in_ne {a b x : Pt} (h : In a b x) : x ≠ a ∧ x ≠ b ∧ a ≠ b := by
  obtain ⟨h0, h1⟩ := h
  exact ⟨fun e => by subst e; omega, fun e => by subst e; omega, fun e => by subst e; omega⟩
/-- the line before a point in the middle: the same side as the corner behind -/
theorem tw_part1 {a b c x : Pt} (h : tw b c x = 0) : tw a b x * (c.1 - b.1) = tw a b c * (x.1 - b.1) := by
  have : tw a b x * (c.1 - b.1) - tw a b c * (x.1 - b.1) = (b.1 - a.1) * tw b c x := by unfold tw; grind
  rw [h] at this; omega
theorem in_side {a b c x : Pt} (h : In b c x) : (0 < tw a b x ↔ 0 < tw a b c) ∧ (tw a b x < 0 ↔ tw a b c < 0) := by
  obtain ⟨h0, h1⟩ := h
  by_cases e : b.2 = c.2
  · exact sign_eq (tw_part1 (a := a) h0) (by omega)
  · exact sign_eq (tw_part (a := a) h0) (by omega)
theorem in_swap {a b x : Pt} (h : In a b x) : In b a x := by
  unfold In at *
  rw [tw_swap a b x]
  omega
theorem co_in {a b c x : Pt} (h : adj a b c) (hm : In b c x) : rh b x a + cr a b x = rh b c a + cr a b c := by
  by_cases e : b.2 = c.2
  · have hs := in_side (a := a) hm
    have h2 : x.2 = b.2 := by have := hm.2; omega
    have r1 : rh b x a = 0 := by unfold rh; rw [h2, if_neg (by omega), if_neg (by omega)]
    have r2 : rh b c a = 0 := by unfold rh; rw [← e, if_neg (by omega), if_neg (by omega)]
    rw [r1, r2]
    unfold cr
    rw [h2, ← e]
    clear h hm r1 r2 h2 e
    generalize tw a b x = X at *
    generalize tw a b c = T at *
    (repeat' split) <;> omega
  · exact co_mid h ⟨hm.1, by have := hm.2; omega⟩
/-- the first part of a line stays away from the next line -/
theorem near_next {a b c x : Pt} (ht : tw a b c ≠ 0) (hx : In a b x) : ¬ meets a x b c := by
  have n1 : tw b c x ≠ 0 := by
    have := in_side (a := c) (in_swap hx)
    have e1 := tw_rot x b c
    have e2 : tw c b x = - tw b c x := tw_swap b c x
    have e3 : tw c b a = - tw a b c := by rw [tw_swap b c a, tw_rot a b c]
    omega
  have n2 : tw b c a ≠ 0 := by rw [tw_rot]; exact ht
  have zb : tw a x b = 0 := by
    have := hx.1
    have e : tw a x b = - tw a b x := by unfold tw; grind
    omega
  have nx := in_ne hx
  intro h
  rcases h with h | h | h | h | ⟨h, _⟩
  · exact n2 h.1
  · exact n1 h.1
  · have hb := on_part (in_on hx) h
    have hx' := hx.2
    obtain ⟨g0, g1, g2, g3, g4⟩ := h
    omega
  · have := (on_part (in_on hx) h).1
    exact ht this
  · rw [zb, Int.zero_mul] at h; omega
/-- lines apart from line k -/
theorem far_line {v : Nat → Pt} {n : Nat} (h : Poly v n) {k j : Nat} (h1 : k + 1 < j) (h2 : j + 2 ≤ k + n) : ¬ meets (v k) (v (k + 1)) (v j) (v (j + 1)) := h.apart k j (by omega) h2
/-- WHAT IS LEFT OF A LINE at a point in its middle -/
theorem mid_sum {v : Nat → Pt} {n : Nat} (h : Poly v n) (k : Nat) {x : Pt} (hx : In (v k) (v (k + 1)) x) :
    Ot v n k x + cr (v (k + n - 1)) (v k) x = Cs v n - up (v k) (v (k + 1)) := by
  have h3 := h.three
  have hc := Cs_at h.toSimple k
  have hm := co_in (adj_at h.toSimple k) hx
  unfold co at hc
  have hT : Ot v n k x - Ot v n k (v k) = rh (v k) x (v (k + n - 1)) - rh (v k) x (v (k + 1)) := by
    obtain ⟨m, rfl⟩ : ∃ m, n = m + 3 := ⟨n - 3, by omega⟩
    unfold Ot
    rw [← sm_sub]
    have ht := sm_tele (fun j => rh (v k) x (v (k + 1 + j))) (m + 1)
    simp only [Nat.add_zero] at ht
    rw [show k + (m + 3) - 1 = k + 1 + (m + 1) by omega, ← ht]
    refine sm_congr fun j hj => ?_
    rw [show k + 1 + (j + 1) = k + 2 + j by omega]
    refine cell (v k) x (v (k + 1 + j)) (v (k + 2 + j)) ?_
    by_cases e : j = 0
    · subst e
      exact near_next (h.turn k) hx
    · intro w
      have := meets_part (in_on hx) w
      rw [show k + 2 + j = k + 1 + j + 1 by omega] at this
      exact far_line h (by omega) (by omega) this
  have z : rh (v k) x (v (k + 1)) = 0 := by
    have zb : tw (v k) x (v (k + 1)) = 0 := by
      have := hx.1
      have e : tw (v k) x (v (k + 1)) = - tw (v k) (v (k + 1)) x := by unfold tw; grind
      omega
    unfold rh
    rw [zb, if_neg (by omega), if_neg (by omega)]
  omega
/-- at a point on a line, counted to the one side -/
theorem WN_in {v : Nat → Pt} {n : Nat} (h : Poly v n) (k : Nat) {x : Pt} (hx : In (v k) (v (k + 1)) x) : WN v n x = Cs v n - up (v k) (v (k + 1)) := by
  have := mid_sum h k hx
  have w := WN_at h.toSimple k x
  have z : cr (v k) (v (k + 1)) x = 0 := by unfold cr; rw [hx.1, if_neg (by omega), if_neg (by omega)]
  omega
theorem cr_left (a b : Pt) : cr a b a = 0 := by unfold cr; rw [(on_left a b).1, if_neg (by omega), if_neg (by omega)]
theorem cr_right (a b : Pt) : cr a b b = 0 := by unfold cr; rw [(on_right a b).1, if_neg (by omega), if_neg (by omega)]
theorem WN_corner {v : Nat → Pt} {n : Nat} (h : Poly v n) (k : Nat) : WN v n (v k) = Cs v n - co (v (k + n - 1)) (v k) (v (k + 1)) := by
  have w := WN_at h.toSimple k (v k)
  have := Cs_at h.toSimple k
  rw [cr_left, cr_right] at w
  omega
end Go.Proofs.Ytjkfdcjfoliboaa.MJ
/- plain mathematics: how often a polygon goes round a point -/
namespace Go.Proofs.Ytjkfdcjfoliboaa.MJ
set_option linter.unusedVariables false
set_option linter.unusedSimpArgs false
/-- on the lines of a polygon -/
def Bd (v : Nat → Pt) (x : Pt) : Prop := ∃ k, on (v k) (v (k + 1)) x
/-- moving level changes nothing as long as the line is not met -/
theorem cr_level {x p c d : Pt} (hl : x.2 = p.2) (h : ¬ meets x p c d) : cr c d p = cr c d x := by
  have := cell x p c d h
  have r1 : ∀ z, rh x p z = 0 := fun z => by unfold rh; rw [hl, if_neg (by omega), if_neg (by omega)]
  rw [r1, r1] at this
  omega
/-- all crossings with the level of a point are whole -/
def Whole (v : Nat → Pt) (p : Pt) : Prop := ∀ k, ((v k).2 < p.2 ∧ p.2 < (v (k + 1)).2) ∨ ((v (k + 1)).2 < p.2 ∧ p.2 < (v k).2) → ∃ y : Int, tw (v k) (v (k + 1)) (y, p.2) = 0
/-- the nearest point of the lines to the east -/
structure Near (v : Nat → Pt) (p x : Pt) : Prop where
  bd : Bd v x
  lev : x.2 = p.2
  lt : p.1 < x.1
  min : ∀ y, Bd v y → y.2 = p.2 → p.1 < y.1 → x.1 ≤ y.1
theorem near_or (v : Nat → Pt) (p : Pt) : (∃ x, Near v p x) ∨ ∀ y, Bd v y → y.2 = p.2 → ¬ p.1 < y.1 := by
  by_cases h : ∃ m : Nat, Bd v (p.1 + 1 + m, p.2)
  · left
    have hm : ∀ n : Nat, (∃ m : Nat, m ≤ n ∧ Bd v (p.1 + 1 + m, p.2)) → ∃ m : Nat, Bd v (p.1 + 1 + m, p.2) ∧ ∀ k : Nat, Bd v (p.1 + 1 + k, p.2) → m ≤ k := by
      intro n
      induction n with
      | zero => intro ⟨m, h1, h2⟩; exact ⟨m, h2, fun k _ => by omega⟩
      | succ n ih =>
        intro ⟨m, h1, h2⟩
        by_cases hc : ∃ m : Nat, m ≤ n ∧ Bd v (p.1 + 1 + m, p.2)
        · exact ih hc
        · refine ⟨m, h2, fun k hk => ?_⟩
          have : ¬ k ≤ n := fun hkn => hc ⟨k, hkn, hk⟩
          omega
    obtain ⟨m, hb⟩ := h
    obtain ⟨m, hb, hmin⟩ := hm m ⟨m, Nat.le_refl _, hb⟩
    refine ⟨_, hb, rfl, by show p.1 < p.1 + 1 + (m : Int); omega, fun y hy hl hlt => ?_⟩
    have e : y = (p.1 + 1 + ((y.1 - p.1 - 1).toNat : Nat), p.2) := Prod.ext (by show y.1 = p.1 + 1 + ((y.1 - p.1 - 1).toNat : Int); omega) hl
    have := hmin (y.1 - p.1 - 1).toNat (e ▸ hy)
    show p.1 + 1 + (m : Int) ≤ y.1
    omega
  · right
    intro y hy hl hlt
    refine h ⟨(y.1 - p.1 - 1).toNat, ?_⟩
    have e : y = (p.1 + 1 + ((y.1 - p.1 - 1).toNat : Nat), p.2) := Prod.ext (by show y.1 = p.1 + 1 + ((y.1 - p.1 - 1).toNat : Int); omega) hl
    exact e ▸ hy
theorem tw_lev (c d : Pt) (y : Int) (p : Pt) (h : tw c d (y, p.2) = 0) : tw c d p = (d.2 - c.2) * (y - p.1) := by
  unfold tw at *; grind
/-- between a point and the nearest point of the lines no line is met -/
theorem near_clear {v : Nat → Pt} {p x : Pt} (hN : Near v p x) (hp : ¬ Bd v p) (hw : Whole v p) {k : Nat} (hk : ¬ on (v k) (v (k + 1)) x) : ¬ meets x p (v k) (v (k + 1)) := by
  have bx : ∀ c, Bd v c → on x p c → c = x := by
    intro c hc ⟨h0, h1, h2, h3, h4⟩
    have e2 : c.2 = p.2 := by have := hN.lev; omega
    have hlt := hN.lt
    by_cases e : c.1 = p.1
    · exact absurd ((Prod.ext e e2 : c = p) ▸ hc) hp
    · have := hN.min c hc e2 (by omega)
      exact Prod.ext (by omega) (by rw [e2, hN.lev])
  have bc : Bd v (v k) := ⟨k, on_left _ _⟩
  have bd : Bd v (v (k + 1)) := ⟨k, on_right _ _⟩
  intro h
  rcases h with h | h | h | h | ⟨h, g⟩
  · exact hk h
  · exact hp ⟨k, h⟩
  · exact hk (bx _ bc h ▸ on_left _ _)
  · exact hk (bx _ bd h ▸ on_right _ _)
  · have hlev := hN.lev
    have hlt := hN.lt
    have t : ∀ z : Pt, tw x p z = (x.1 - p.1) * (x.2 - z.2) := fun z => by unfold tw; rw [hlev]; grind
    rw [mul_neg_iff, t, t] at h
    have s1 := signs (x.1 - p.1) (x.2 - (v k).2)
    have s2 := signs (x.1 - p.1) (x.2 - (v (k + 1)).2)
    have cross : ((v k).2 < p.2 ∧ p.2 < (v (k + 1)).2) ∨ ((v (k + 1)).2 < p.2 ∧ p.2 < (v k).2) := by
      generalize (x.1 - p.1) * (x.2 - (v k).2) = m1 at *
      generalize (x.1 - p.1) * (x.2 - (v (k + 1)).2) = m2 at *
      omega
    obtain ⟨y, hy⟩ := hw k cross
    have e1 := tw_lev _ _ y p hy
    have e2 := tw_lev _ _ y x (by rw [hlev]; exact hy)
    rw [mul_neg_iff, e1, e2] at g
    have k1 := signs ((v (k + 1)).2 - (v k).2) (y - p.1)
    have k2 := signs ((v (k + 1)).2 - (v k).2) (y - x.1)
    have hb : Bd v (y, p.2) := ⟨k, on_of_level _ _ _ hy (by show ((v k).2 ≤ p.2 ∧ p.2 ≤ (v (k + 1)).2) ∨ _; simp only []; omega) (by omega)⟩
    have hmin := hN.min (y, p.2) hb rfl
    simp only [] at hmin
    clear t h s1 s2
    generalize ((v (k + 1)).2 - (v k).2) * (y - p.1) = m1 at *
    generalize ((v (k + 1)).2 - (v k).2) * (y - x.1) = m2 at *
    omega
/-- a corner is on no other line -/
theorem corner_off {v : Nat → Pt} {n : Nat} (h : Poly v n) (k : Nat) {j : Nat} (h1 : k + 1 ≤ j) (h2 : j + 2 ≤ k + n) : ¬ on (v j) (v (j + 1)) (v k) := by
  intro w
  by_cases e : j = k + 1
  · subst e
    have := w.1
    rw [tw_rot] at this
    exact h.turn k this
  · exact far_line h (by omega) h2 (.inl w)
/-- the middle of a line is on no other line -/
theorem mid_off {v : Nat → Pt} {n : Nat} (h : Poly v n) (k : Nat) {x : Pt} (hx : In (v k) (v (k + 1)) x) {j : Nat} (h1 : k + 1 ≤ j) (h2 : j + 1 ≤ k + n) : ¬ on (v j) (v (j + 1)) x := by
  have h3 := h.three
  intro w
  by_cases e : j = k + 1
  · subst e
    have hs := in_side (a := v (k + 2)) (in_swap hx)
    have e1 : tw (v (k + 2)) (v (k + 1)) x = - tw (v (k + 1)) (v (k + 2)) x := tw_swap _ _ _
    have e2 : tw (v (k + 2)) (v (k + 1)) (v k) = - tw (v k) (v (k + 1)) (v (k + 2)) := by rw [tw_swap (v (k + 1)) (v (k + 2)), tw_rot]
    have := h.turn k
    have := w.1
    rw [show k + 1 + 1 = k + 2 from rfl] at this
    omega
  · by_cases e' : j + 1 = k + n
    · have hs := in_side (a := v (k + n - 1)) hx
      have ht := turn_at h k
      have := w.1
      rw [e', h.per, show j = k + n - 1 by omega] at this
      omega
    · exact far_line h (by omega) (by omega) (share (in_on hx) w)
/-- HOW OFTEN: a polygon goes round a point off its lines never, or once to its one side -/
theorem WN_off {v : Nat → Pt} {n : Nat} (h : Poly v n) {p : Pt} (hp : ¬ Bd v p) (hw : Whole v p) : WN v n p = 0 ∨ WN v n p = Cs v n ∨ WN v n p = Cs v n - 1 := by
  have h3 := h.three
  rcases near_or v p with ⟨x, hN⟩ | hno
  · right
    have ot : ∀ k, (∀ j, k + 1 ≤ j → j + 2 ≤ k + n → ¬ on (v j) (v (j + 1)) x) → Ot v n k p = Ot v n k x := by
      intro k hk
      unfold Ot
      refine sm_congr fun j hj => cr_level hN.lev ?_
      have := hk (k + 1 + j) (by omega) (by omega)
      rw [show k + 1 + j + 1 = k + 2 + j by omega] at this
      have := near_clear hN hp hw (k := k + 1 + j) (by rw [show k + 1 + j + 1 = k + 2 + j by omega]; exact this)
      rwa [show k + 1 + j + 1 = k + 2 + j by omega] at this
    have corner : ∀ k, x = v k → WN v n p = Cs v n ∨ WN v n p = Cs v n - 1 := by
      intro k e
      subst e
      have o := ot k (fun j h1 h2 => corner_off h k h1 h2)
      have c := Cs_at h.toSimple k
      have w := WN_at h.toSimple k p
      have := co_west (adj_at h.toSimple k) hN.lev.symm hN.lt
      omega
    obtain ⟨k, hk⟩ := hN.bd
    rcases on_in hk with e | e | hx
    · exact corner k e
    · exact corner (k + 1) e
    · have o := ot k (fun j h1 h2 => mid_off h k hx h1 (by omega))
      have m := mid_sum h k hx
      have w := WN_at h.toSimple k p
      have l : cr (v (k + n - 1)) (v k) p = cr (v (k + n - 1)) (v k) x := by
        have := mid_off h k hx (j := k + n - 1) (by omega) (by omega)
        have := near_clear hN hp hw this
        rw [show k + n - 1 + 1 = k + n by omega, h.per] at this
        exact cr_level hN.lev this
      have hlev := hN.lev
      have hlt := hN.lt
      by_cases e : (v k).2 = (v (k + 1)).2
      · exfalso
        have h2 := hx.2
        have bc : Bd v (v k) := ⟨k, on_left _ _⟩
        have bd : Bd v (v (k + 1)) := ⟨k, on_right _ _⟩
        have m1 := hN.min _ bc (by omega)
        have m2 := hN.min _ bd (by omega)
        refine hp ⟨k, ?_, by omega, by omega, by omega, by omega⟩
        unfold tw; rw [← e, show p.2 = (v k).2 by omega]; grind
      · have t : tw (v k) (v (k + 1)) p = ((v (k + 1)).2 - (v k).2) * (x.1 - p.1) := tw_lev _ _ x.1 p (by rw [← hlev]; exact hx.1)
        have s := signs ((v (k + 1)).2 - (v k).2) (x.1 - p.1)
        have h2 := hx.2
        have cu : cr (v k) (v (k + 1)) p = 2 * up (v k) (v (k + 1)) - 1 := by
          unfold cr up
          rw [t]
          generalize ((v (k + 1)).2 - (v k).2) * (x.1 - p.1) = M at *
          (repeat' split) <;> omega
        have := up_01 (v k) (v (k + 1))
        omega
  · left
    refine sm_zero fun j _ => ?_
    have bc : Bd v (v j) := ⟨j, on_left _ _⟩
    have bd : Bd v (v (j + 1)) := ⟨j, on_right _ _⟩
    have n1 := hno _ bc
    have n2 := hno _ bd
    have hy : ((v j).2 < p.2 ∧ p.2 < (v (j + 1)).2) ∨ ((v (j + 1)).2 < p.2 ∧ p.2 < (v j).2) → ∃ y : Int, y ≤ p.1 ∧ tw (v j) (v (j + 1)) p = ((v (j + 1)).2 - (v j).2) * (y - p.1) := by
      intro hc
      obtain ⟨y, hy⟩ := hw j hc
      have hb : Bd v (y, p.2) := ⟨j, on_of_level _ _ _ hy (by simp only []; omega) (by omega)⟩
      have := hno _ hb rfl
      simp only [] at this
      exact ⟨y, by omega, tw_lev _ _ y p hy⟩
    have t1 : (v j).2 = p.2 → tw (v j) (v (j + 1)) p = ((v (j + 1)).2 - (v j).2) * ((v j).1 - p.1) := fun e => by unfold tw; rw [← e]; grind
    have t2 : (v (j + 1)).2 = p.2 → tw (v j) (v (j + 1)) p = ((v (j + 1)).2 - (v j).2) * ((v (j + 1)).1 - p.1) := fun e => by unfold tw; rw [← e]; grind
    have key : ∀ z : Int, z ≤ p.1 → tw (v j) (v (j + 1)) p = ((v (j + 1)).2 - (v j).2) * (z - p.1) → cr (v j) (v (j + 1)) p = 0 := by
      intro z hz ht
      have a1 := Int.mul_nonneg (a := (v (j + 1)).2 - (v j).2) (b := p.1 - z)
      have a2 := Int.mul_nonneg (a := (v j).2 - (v (j + 1)).2) (b := p.1 - z)
      have b1 : ((v (j + 1)).2 - (v j).2) * (p.1 - z) = - tw (v j) (v (j + 1)) p := by rw [ht]; grind
      have b2 : ((v j).2 - (v (j + 1)).2) * (p.1 - z) = tw (v j) (v (j + 1)) p := by rw [ht]; grind
      rw [b1] at a1
      rw [b2] at a2
      unfold cr
      clear ht b1 b2 t1 t2 hy
      (repeat' split) <;> omega
    by_cases c1 : (v j).2 = p.2
    · exact key _ (by have := n1 c1; omega) (t1 c1)
    · by_cases c2 : (v (j + 1)).2 = p.2
      · exact key _ (by have := n2 c2; omega) (t2 c2)
      · by_cases c3 : ((v j).2 < p.2 ∧ p.2 < (v (j + 1)).2) ∨ ((v (j + 1)).2 < p.2 ∧ p.2 < (v j).2)
        · obtain ⟨y, h1, h2⟩ := hy c3
          exact key y h1 h2
        · unfold cr
          rw [if_neg (by omega), if_neg (by omega)]
def sc (M : Int) (p : Pt) : Pt := (M * p.1, M * p.2)
theorem tw_sc (M : Int) (a b c : Pt) : tw (sc M a) (sc M b) (sc M c) = M * M * tw a b c := by unfold tw sc; grind
theorem sc_lt {M : Int} (hM : 0 < M) (x y : Int) : M * x < M * y ↔ x < y := ⟨fun h => Int.lt_of_mul_lt_mul_left h (Int.le_of_lt hM), fun h => Int.mul_lt_mul_of_pos_left h hM⟩
theorem sc_le {M : Int} (hM : 0 < M) (x y : Int) : M * x ≤ M * y ↔ x ≤ y := by
  have := sc_lt hM y x
  omega
theorem sc_inj {M : Int} (hM : 0 < M) {p q : Pt} (h : sc M p = sc M q) : p = q := by
  have h1 : M * p.1 = M * q.1 := congrArg Prod.fst h
  have h2 : M * p.2 = M * q.2 := congrArg Prod.snd h
  exact Prod.ext (Int.eq_of_mul_eq_mul_left (by omega) h1) (Int.eq_of_mul_eq_mul_left (by omega) h2)
theorem mm_pos {M : Int} (hM : 0 < M) : 0 < M * M := Int.mul_pos hM hM
theorem tw_sc_pos {M : Int} (hM : 0 < M) (a b c : Pt) : 0 < tw (sc M a) (sc M b) (sc M c) ↔ 0 < tw a b c := by
  rw [tw_sc]
  have := mm_pos hM
  constructor
  · intro h; rw [Int.mul_comm] at h; exact pos_of_mul h this
  · intro h; exact Int.mul_pos this h
theorem tw_sc_neg {M : Int} (hM : 0 < M) (a b c : Pt) : tw (sc M a) (sc M b) (sc M c) < 0 ↔ tw a b c < 0 := by
  have := tw_sc_pos hM b a c
  rw [tw_swap (sc M a) (sc M b), tw_swap a b] at this
  omega
theorem tw_sc_zero {M : Int} (hM : 0 < M) (a b c : Pt) : tw (sc M a) (sc M b) (sc M c) = 0 ↔ tw a b c = 0 := by
  have h1 := tw_sc_pos hM a b c
  have h2 := tw_sc_neg hM a b c
  omega
theorem cr_sc {M : Int} (hM : 0 < M) (a b p : Pt) : cr (sc M a) (sc M b) (sc M p) = cr a b p := by
  unfold cr
  simp only [tw_sc_pos hM, tw_sc_neg hM, show ∀ q, (sc M q).2 = M * q.2 from fun _ => rfl, sc_le hM, sc_lt hM]
theorem rh_sc {M : Int} (hM : 0 < M) (a b p : Pt) : rh (sc M a) (sc M b) (sc M p) = rh a b p := by
  unfold rh
  simp only [tw_sc_pos hM, tw_sc_neg hM, show ∀ q, (sc M q).2 = M * q.2 from fun _ => rfl, sc_le hM, sc_lt hM]
theorem up_sc {M : Int} (hM : 0 < M) (a b : Pt) : up (sc M a) (sc M b) = up a b := by
  unfold up
  simp only [show ∀ q, (sc M q).2 = M * q.2 from fun _ => rfl, show ∀ q, (sc M q).1 = M * q.1 from fun _ => rfl, sc_lt hM]
theorem on_sc {M : Int} (hM : 0 < M) (a b p : Pt) : on (sc M a) (sc M b) (sc M p) ↔ on a b p := by
  unfold on
  rw [tw_sc_zero hM]
  have k : ∀ x y z : Int, (min (M * x) (M * y) ≤ M * z ↔ min x y ≤ z) ∧ (M * z ≤ max (M * x) (M * y) ↔ z ≤ max x y) := by
    intro x y z
    have a1 := sc_le hM x z
    have a2 := sc_le hM y z
    have a3 := sc_le hM z x
    have a4 := sc_le hM z y
    omega
  have k1 := k a.1 b.1 p.1
  have k2 := k a.2 b.2 p.2
  show (_ ∧ min (M * a.1) (M * b.1) ≤ M * p.1 ∧ M * p.1 ≤ max (M * a.1) (M * b.1) ∧ min (M * a.2) (M * b.2) ≤ M * p.2 ∧ M * p.2 ≤ max (M * a.2) (M * b.2)) ↔ _
  rw [k1.1, k1.2, k2.1, k2.2]
theorem meets_sc {M : Int} (hM : 0 < M) (a b c d : Pt) : meets (sc M a) (sc M b) (sc M c) (sc M d) ↔ meets a b c d := by
  unfold meets
  rw [on_sc hM, on_sc hM, on_sc hM, on_sc hM]
  have : ∀ x y : Int, M * M * x * (M * M * y) < 0 ↔ x * y < 0 := by
    intro x y
    have e : M * M * x * (M * M * y) = (M * M) * (M * M) * (x * y) := by grind
    rw [e]
    have h := mm_pos (mm_pos hM)
    have := signs (M * M * (M * M)) (x * y)
    generalize M * M * (M * M) * (x * y) = m at *
    omega
  rw [tw_sc, tw_sc, tw_sc, tw_sc, this, this]
theorem adj_sc {M : Int} (hM : 0 < M) {a b c : Pt} (h : adj a b c) : adj (sc M a) (sc M b) (sc M c) := by
  obtain ⟨h1, h2, h3⟩ := h
  refine ⟨fun e => h1 (sc_inj hM e), fun e => h2 (sc_inj hM e), fun e => ?_⟩
  have := h3 ((tw_sc_zero hM _ _ _).1 e)
  have e2 : ∀ q : Pt, (sc M q).2 = M * q.2 := fun _ => rfl
  have e1 : ∀ q : Pt, (sc M q).1 = M * q.1 := fun _ => rfl
  rw [e2, e2, e2, e1, e1, e1, sc_lt hM, sc_lt hM, sc_lt hM, sc_lt hM, sc_lt hM, sc_lt hM, sc_lt hM, sc_lt hM]
  rcases this with h | h | ⟨h, h', h''⟩
  · exact .inl h
  · exact .inr (.inl h)
  · exact .inr (.inr ⟨by rw [h], by rw [h'], h''⟩)
theorem poly_sc {M : Int} (hM : 0 < M) {v : Nat → Pt} {n : Nat} (h : Poly v n) : Poly (fun i => sc M (v i)) n :=
  { three := h.three
    per := fun i => by rw [h.per]
    adj := fun i => adj_sc hM (h.adj i)
    apart := fun i j h1 h2 w => h.apart i j h1 h2 ((meets_sc hM _ _ _ _).1 w)
    turn := fun i w => h.turn i ((tw_sc_zero hM _ _ _).1 w) }
theorem Cs_sc {M : Int} (hM : 0 < M) (v : Nat → Pt) (n : Nat) : Cs (fun i => sc M (v i)) n = Cs v n := by
  unfold Cs Ck Fk
  simp only [cr_sc hM, rh_sc hM, up_sc hM]
theorem WN_sc {M : Int} (hM : 0 < M) (v : Nat → Pt) (n : Nat) (p : Pt) : WN (fun i => sc M (v i)) n (sc M p) = WN v n p := by
  unfold WN
  simp only [cr_sc hM]
theorem Bd_sc {M : Int} (hM : 0 < M) (v : Nat → Pt) (p : Pt) : Bd (fun i => sc M (v i)) (sc M p) ↔ Bd v p := by
  unfold Bd
  simp only [on_sc hM]
/-- a number that all heights divide -/
theorem heights {v : Nat → Pt} {n : Nat} (h : Simple v n) : ∃ M : Int, 0 < M ∧ ∀ k, (v (k + 1)).2 - (v k).2 ≠ 0 → ((v (k + 1)).2 - (v k).2) ∣ M := by
  have h3 := h.three
  have : ∀ m : Nat, ∃ M : Int, 0 < M ∧ ∀ k, k < m → (v (k + 1)).2 - (v k).2 ≠ 0 → ((v (k + 1)).2 - (v k).2) ∣ M := by
    intro m
    induction m with
    | zero => exact ⟨1, by omega, fun k hk => by omega⟩
    | succ m ih =>
      obtain ⟨M, hM, hd⟩ := ih
      by_cases e : (v (m + 1)).2 - (v m).2 = 0
      · refine ⟨M, hM, fun k hk he => ?_⟩
        by_cases ek : k = m
        · subst ek; exact absurd e he
        · exact hd k (by omega) he
      · have step : ∀ f : Int, 0 < f → ((v (m + 1)).2 - (v m).2) ∣ f → ∃ M : Int, 0 < M ∧ ∀ k, k < m + 1 → (v (k + 1)).2 - (v k).2 ≠ 0 → ((v (k + 1)).2 - (v k).2) ∣ M := by
          intro f hf hfd
          refine ⟨M * f, Int.mul_pos hM hf, fun k hk he => ?_⟩
          by_cases ek : k = m
          · subst ek; exact Int.dvd_trans hfd (Int.dvd_mul_left _ _)
          · exact Int.dvd_trans (hd k (by omega) he) (Int.dvd_mul_right _ _)
        by_cases hp : 0 < (v (m + 1)).2 - (v m).2
        · exact step _ hp (Int.dvd_refl _)
        · exact step (-((v (m + 1)).2 - (v m).2)) (by omega) ⟨-1, by omega⟩
  obtain ⟨M, hM, hd⟩ := this n
  refine ⟨M, hM, fun k he => ?_⟩
  have e1 : v k = v (k % n) := per_mod h.per k
  have e2 : v (k + 1) = v (k % n + 1) := by
    rw [per_mod h.per (k + 1), per_mod h.per (k % n + 1), Nat.mod_add_mod]
  rw [e1, e2] at he ⊢
  exact hd _ (Nat.mod_lt _ (by omega)) he
/-- JORDAN: off its lines a polygon goes round a point never, or once to its one side -/
theorem jordan {v : Nat → Pt} {n : Nat} (h : Poly v n) {p : Pt} (hp : ¬ Bd v p) : WN v n p = 0 ∨ WN v n p = Cs v n ∨ WN v n p = Cs v n - 1 := by
  obtain ⟨M, hM, hd⟩ := heights h.toSimple
  have k := WN_off (poly_sc hM h) (p := sc M p) (fun w => hp ((Bd_sc hM v p).1 w)) (by
    intro k hc
    have hc' : (v (k + 1)).2 - (v k).2 ≠ 0 := by
      intro e
      have e' : (v (k + 1)).2 = (v k).2 := by omega
      simp only [sc, e'] at hc
      omega
    obtain ⟨q, hq⟩ := hd k hc'
    refine ⟨M * (v k).1 + q * ((v (k + 1)).1 - (v k).1) * (p.2 - (v k).2), ?_⟩
    unfold tw sc
    simp only []
    grind)
  rw [WN_sc hM, Cs_sc hM] at k
  exact k
end Go.Proofs.Ytjkfdcjfoliboaa.MJ

