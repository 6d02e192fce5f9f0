/- joined: N O Q S Sax Zh El Zi Zl T U Hm V W X Zn -/
import Derived.Test.YtieimijkkjhegaaZListInside1
import Derived.LoopTactic
import Derived.Laws.MakeOwn
import Derived.OwnWalk
import Derived.Deep.LoopGhost
import Derived.Deep.CutRange
import Derived.BigRegion
import Derived.StillTailTactics
/- lists of points in memory: how they read; a list of the laws' package made one of the program's -/
namespace Go.Proofs.Ytieimijkkjhegaa
open Go.ChangeShapes Go.WideShapes Go.ChangeAt Go.RowKit Go.Joins
set_option linter.unusedVariables false
set_option linter.unusedSimpArgs false
set_option maxRecDepth 4000
/-- the slice's cells from address A on hold the points l; they lie below block B -/
def Rd (w : World) (B : Nat) (A : Option Addr) (l : List (Int × Int)) : Prop :=
  0 < l.length → ∃ b off, A = some ⟨b, off, none⟩ ∧ b < B ∧ ∀ i p, l[i]? = some p →
    w.cell? ⟨b, off + i * 2, none⟩ = some (.int .i64 p.1) ∧ w.cell? ⟨b, off + i * 2 + 1, none⟩ = some (.int .i64 p.2)
theorem rd_keep {w w' : World} {B : Nat} {A : Option Addr} {l : List (Int × Int)} (h : Rd w B A l) (hk : ∀ b o, b < B → w'.cell? ⟨b, o, none⟩ = w.cell? ⟨b, o, none⟩) : Rd w' B A l := by
  intro hl
  obtain ⟨b, off, e, hb, hc⟩ := h hl
  exact ⟨b, off, e, hb, fun i p hp => by rw [hk _ _ hb, hk _ _ hb]; exact hc i p hp⟩
theorem rd_below {w w' : World} {B B' : Nat} {A : Option Addr} {l : List (Int × Int)} (h : Rd w B A l) (hb : Below B' w w') (hB : B ≤ B') : Rd w' B A l :=
  rd_keep h fun b o hlt => hb.cell (p := ⟨b, o, none⟩) (by show b < B'; omega)
theorem rd_more {w : World} {B B' : Nat} {A : Option Addr} {l : List (Int × Int)} (h : Rd w B A l) (hB : B ≤ B') : Rd w B' A l := by
  intro hl
  obtain ⟨b, off, e, hb, hc⟩ := h hl
  exact ⟨b, off, e, by omega, hc⟩
theorem szPegS_any (A : Option Addr) (n c : Nat) (m : Int) (w : World) (hn : n ≤ 9223372036854775807) (h1 : 0 ≤ m) (h2 : m ≤ 1000000000) :
    Calls Try.prog 15 #[.slice A n c, .int .i64 m] w fun e w' => e = .returned (.int .i64 (if m - n < 0 then -1 else m - n)) ∧ w = w' := by
  by_cases h : m - n < 0
  · rw [if_pos h]
    go_enter Try.func15, Try.ntmps15
    go_wp2_with fail
    go_ret
    exact ⟨rfl, rfl⟩
  · rw [if_neg h]
    go_enter Try.func15, Try.ntmps15
    go_wp2_with fail
    go_ret
    exact ⟨rfl, rfl⟩
theorem peg_info : (Try.prog.info? 42).map (fun i => (i.zero, i.size, i.bytes)) = some (some (.agg #[.int .i64 0, .int .i64 0]), 2, 16) := by kernel_rfl
/-- a new block of points: number g, the first k of them set -/
def Set (w : World) (g n k : Nat) (l : List (Int × Int)) : Prop :=
  g < w.heap.size ∧ (∀ i, i < n → (∃ u, w.cell? ⟨g, i * 2, none⟩ = some u) ∧ (∃ u, w.cell? ⟨g, i * 2 + 1, none⟩ = some u) ∧ w.frozen? ⟨g, i * 2, none⟩ = false ∧ w.frozen? ⟨g, i * 2 + 1, none⟩ = false) ∧
    ∀ i p, i < k → l[i]? = some p → w.cell? ⟨g, i * 2, none⟩ = some (.int .i64 p.1) ∧ w.cell? ⟨g, i * 2 + 1, none⟩ = some (.int .i64 p.2)
theorem set_new (w : World) (t : TypeId) (n : Nat) (l : List (Int × Int)) : Set (w.alloc (.cells (madeCells #[.int .i64 0, .int .i64 0] (n * 2)) t)) w.heap.size n 0 l := by
  refine ⟨by simp, fun i hi => ?_, fun i p h => absurd h (Nat.not_lt_zero _)⟩
  have hs := size_madeCells #[.int .i64 0, .int .i64 0] (n * 2)
  have hb : ∀ j, j < n * 2 → ∃ u, (w.alloc (.cells (madeCells #[.int .i64 0, .int .i64 0] (n * 2)) t)).cell? ⟨w.heap.size, j, none⟩ = some u := fun j hj =>
    ⟨_, by rw [cell_of_row (w.alloc _) w.heap.size j _ t (0, 0) (heap_alloc_new w _)]; exact Array.getElem?_eq_getElem (by omega)⟩
  refine ⟨hb _ (by omega), hb _ (by omega), ?_, ?_⟩ <;> (rw [frozen?_alloc_cells]; simp [World.frozen?])
theorem set_below {w w' : World} {g n k : Nat} {l : List (Int × Int)} (h : Set w g n k l) (hb : Below w.heap.size w w') : Set w' g n k l := by
  obtain ⟨h1, h2, h3⟩ := h
  have hc := (bcell hb).1
  have hf := (bcell hb).2
  have hz := hb.size
  exact ⟨by omega, fun i hi => by rw [hc _ _ h1, hc _ _ h1, hf _ _ h1, hf _ _ h1]; exact h2 i hi, fun i p hi hp => by rw [hc _ _ h1, hc _ _ h1]; exact h3 i p hi hp⟩
theorem set_store {w : World} {g n k : Nat} {l : List (Int × Int)} (h : Set w g n k l) (hk : k < n) {p : Int × Int} (hp : l[k]? = some p) :
    Set ((w.setCell ⟨g, k * 2, none⟩ (.int .i64 p.1)).setCell ⟨g, k * 2 + 1, none⟩ (.int .i64 p.2)) g n (k + 1) l := by
  obtain ⟨h1, h2, h3⟩ := h
  have so : ∀ (W : World) (o o' : Nat) (u v : Value), (W.cell? ⟨g, o, none⟩ = some u) → ∃ u', (W.setCell ⟨g, o', none⟩ v).cell? ⟨g, o, none⟩ = some u' := fun W o o' u v h => cell?_setCell_some h
  have ne : ∀ (W : World) (o o' : Nat) (v : Value), o' ≠ o → (W.setCell ⟨g, o', none⟩ v).cell? ⟨g, o, none⟩ = W.cell? ⟨g, o, none⟩ := fun W o o' v h =>
    World.cell?_setCell_other W _ _ _ (fun e => h (by injection e))
  have sm : ∀ (W : World) (o : Nat) (u v : Value), W.cell? ⟨g, o, none⟩ = some u → (W.setCell ⟨g, o, none⟩ v).cell? ⟨g, o, none⟩ = some v := fun W o u v h => World.cell?_setCell_same W _ _ h
  refine ⟨by simpa [World.setCell] using h1, fun i hi => ?_, fun i q hi hq => ?_⟩
  · obtain ⟨⟨u1, e1⟩, ⟨u2, e2⟩, f1, f2⟩ := h2 i hi
    obtain ⟨u3, e3⟩ := so w _ (k * 2) u1 (.int .i64 p.1) e1
    obtain ⟨u4, e4⟩ := so w _ (k * 2) u2 (.int .i64 p.1) e2
    refine ⟨so _ _ _ u3 _ e3, so _ _ _ u4 _ e4, ?_, ?_⟩
    · rw [World.frozen?_setCell, World.frozen?_setCell]; exact f1
    · rw [World.frozen?_setCell, World.frozen?_setCell]; exact f2
  · by_cases hik : i = k
    · subst hik
      rw [hp] at hq
      injection hq with hq
      subst hq
      obtain ⟨⟨u1, e1⟩, ⟨u2, e2⟩, _, _⟩ := h2 i hk
      have e2' : (w.setCell ⟨g, i * 2, none⟩ (.int .i64 p.1)).cell? ⟨g, i * 2 + 1, none⟩ = some u2 := by rw [ne _ _ _ _ (by omega)]; exact e2
      exact ⟨by rw [ne _ _ _ _ (by omega)]; exact sm _ _ _ _ e1, sm _ _ _ _ e2'⟩
    · rw [ne _ _ _ _ (by omega), ne _ _ _ _ (by omega), ne _ _ _ _ (by omega), ne _ _ _ _ (by omega)]
      exact h3 i q (by omega) hq
theorem toPegS_any (A : Option Addr) (c : Nat) (l : List (Int × Int)) (w : World) (hn : l.length ≤ 1048576) (hR : Rd w w.heap.size A l) :
    Calls Try.prog 17 #[.slice A l.length c] w fun e w' => e = .returned (.slice (some ⟨w.heap.size, 0, none⟩) l.length l.length) ∧ Below w.heap.size w w' ∧ Set w' w.heap.size l.length l.length l := by
  obtain ⟨i0, hi0, hz0, hz1, hz2⟩ := info_parts peg_info
  have hmk := fun W => run_make (P := Try.prog) W 26 42 i0 _ Try.underlying26 hi0 hz0 .i64 .i64 (l.length : Int) (l.length : Int) (by omega) (by omega) (by rw [hz2]; omega) (by omega)
  have HR := Lib.hid hR
  clear hR
  generalize hN : l.length = n at *
  have HN := Lib.hid hN
  clear hN
  go_enter Try.func17, Try.ntmps17
  go_wp2_with fail
  have hS0 := set_new w 42 n l
  have hB0 : Below w.heap.size w (w.alloc (.cells (madeCells #[.int .i64 0, .int .i64 0] (n * 2)) 42)) := (Below.refl _ _).alloc (Nat.le_refl _) _
  go_loopw [4] (fun i wr => ∃ k : Nat, i = .int .i64 k ∧ k ≤ n ∧ Below w.heap.size w wr ∧ Set wr w.heap.size n k l) (fun i _ => n - (intOf i).toNat)
  case atStart => exact ⟨0, rfl, Nat.zero_le _, hB0, hS0⟩
  case round =>
    obtain ⟨k, rfl, hk, hB, hS⟩ := hrel
    by_cases hlt : k < n
    · have hget : ∃ p, l[k]? = some p := ⟨_, List.getElem?_eq_getElem (by have := HN.out; omega)⟩
      obtain ⟨p, hp⟩ := hget
      obtain ⟨b, off, hA, hb, hcell⟩ := HR.out (by have := HN.out; omega)
      subst hA
      obtain ⟨hc1, hc2⟩ := hcell k p hp
      have hq1 : wr.cell? ⟨b, off + k * 2, none⟩ = some (.int .i64 p.1) := (hB.cell (p := ⟨b, off + k * 2, none⟩) hb).trans hc1
      have hq2 : wr.cell? ⟨b, off + k * 2 + 1, none⟩ = some (.int .i64 p.2) := (hB.cell (p := ⟨b, off + k * 2 + 1, none⟩) hb).trans hc2
      have HC := Lib.hid hcell
      have HP := Lib.hid hp
      have HS := Lib.hid hS
      clear hcell hp hS hc1 hc2 hS0 hB0 hmk
      go_wp2_with fail
      refine (toPeg_any _ _ _).mono ?_; rintro e w1 ⟨rfl, hb1⟩
      have S1 := set_below HS.out hb1
      have B1 := hB.trans (hb1.mono hB.size)
      obtain ⟨g1, g2, g3⟩ := S1
      obtain ⟨⟨u1, d1⟩, ⟨u2, d2⟩, d3, d4⟩ := g2 k hlt
      have HS1 := Lib.hid (show Set w1 w.heap.size n k l from ⟨g1, g2, g3⟩)
      clear g2 g3 HS
      go_wp2_with fail
      have S2 := set_store HS1.out hlt HP.out
      have B2 := (B1.setCell (p := ⟨w.heap.size, k * 2, none⟩) (Nat.le_refl _) (.int .i64 p.1)).setCell (p := ⟨w.heap.size, k * 2 + 1, none⟩) (Nat.le_refl _) (.int .i64 p.2)
      go_roundw
      case rel => first | exact ⟨k + 1, by go_num, by omega, B2, S2⟩ | ((repeat apply Exists.intro); exact ⟨⟨k + 1, by go_num, by omega, B2, S2⟩, rfl⟩)
      case measure => simp [intOf]; omega
    · have hkn : k = n := by omega
      subst hkn
      go_wp2_with fail
      go_ret
      exact ⟨rfl, hB, hS⟩
end Go.Proofs.Ytieimijkkjhegaa
/- two lists of points held against each other -/
namespace Go.Proofs.Ytieimijkkjhegaa
open Go.ChangeShapes Go.WideShapes Go.ChangeAt Go.RowKit Go.Joins
set_option linter.unusedVariables false
set_option linter.unusedSimpArgs false
set_option maxRecDepth 4000
theorem eqPeg_any (a1 a2 b1 b2 : Int) (w : World) :
    Calls Try.prog 33 #[.agg #[.int .i64 a1, .int .i64 a2], .agg #[.int .i64 b1, .int .i64 b2]] w fun e w' => e = .returned (.bool (decide ((a1, a2) = (b1, b2)))) ∧ Below w.heap.size w w' := by
  by_cases h1 : a1 = b1
  · by_cases h2 : a2 = b2
    · subst h1 h2
      go_enter Try.func33, Try.ntmps33
      go_wp2_with fail
      go_ret
      exact ⟨ret_bool (by simp), (by repeat (first | exact Below.refl _ _ | assumption | apply Below.drew | refine Below.alloc ?_ (by simp <;> omega) _))⟩
    · subst h1
      go_enter Try.func33, Try.ntmps33
      go_wp2_with fail
      go_ret
      exact ⟨ret_bool (by simp [h2]), (by repeat (first | exact Below.refl _ _ | assumption | apply Below.drew | refine Below.alloc ?_ (by simp <;> omega) _))⟩
  · go_enter Try.func33, Try.ntmps33
    go_wp2_with fail
    go_ret
    exact ⟨ret_bool (by simp [h1]), (by repeat (first | exact Below.refl _ _ | assumption | apply Below.drew | refine Below.alloc ?_ (by simp <;> omega) _))⟩
theorem eq_at {l m : List (Int × Int)} (h : l.length = m.length) : l = m ↔ ∀ (k : Nat) (p q : Int × Int), l[k]? = some p → m[k]? = some q → p = q := by
  constructor
  · rintro rfl k p q hp hq
    rw [hp] at hq; injection hq
  · intro H
    apply List.ext_getElem h
    intro i h1 h2
    exact H i _ _ (List.getElem?_eq_getElem h1) (List.getElem?_eq_getElem h2)
/-- the same so far -/
def Same (l m : List (Int × Int)) (k : Nat) : Prop := ∀ i p q, i < k → l[i]? = some p → m[i]? = some q → p = q
theorem eqPegS_any (A B : Option Addr) (c d : Nat) (l m : List (Int × Int)) (w : World) (hn : l.length ≤ 1048576) (hm : m.length ≤ 1048576) (hA : Rd w w.heap.size A l) (hB : Rd w w.heap.size B m) :
    Calls Try.prog 19 #[.slice A l.length c, .slice B m.length d] w fun e w' => e = .returned (.bool (decide (l = m))) ∧ Below w.heap.size w w' := by
  by_cases hl : l.length = m.length
  · have HL := Lib.hid hl
    have RA := Lib.hid hA
    have RB := Lib.hid hB
    clear hA hB
    rw [← hl] at hm ⊢
    clear hl
    generalize hN : l.length = n at *
    have HN := Lib.hid hN
    clear hN
    go_enter Try.func19, Try.ntmps19
    go_wp2_with fail
    go_loopw [5] (fun i wr => ∃ k : Nat, i = .int .i64 k ∧ k ≤ n ∧ Below w.heap.size w wr ∧ Hid (Same l m k)) (fun i _ => n - (intOf i).toNat)
    case atStart => exact ⟨0, rfl, Nat.zero_le _, Below.refl _ _, Lib.hid (fun i p q h => absurd h (Nat.not_lt_zero _))⟩
    case round =>
      obtain ⟨k, rfl, hk, hBel, hS⟩ := hrel
      by_cases hlt : k < n
      · have hg1 : ∃ p, l[k]? = some p := ⟨_, List.getElem?_eq_getElem (by have := HN.out; omega)⟩
        have hg2 : ∃ q, m[k]? = some q := ⟨_, List.getElem?_eq_getElem (by have := HN.out; have := HL.out; omega)⟩
        obtain ⟨p, hp⟩ := hg1
        obtain ⟨q, hq⟩ := hg2
        obtain ⟨b, off, hA, hb, hcA⟩ := RA.out (by have := HN.out; omega)
        obtain ⟨b', off', hA', hb', hcB⟩ := RB.out (by have := HN.out; have := HL.out; omega)
        subst hA hA'
        have k0 : ∀ W, Below w.heap.size w W → (Below w.heap.size w W ∧ W.cell? ⟨b, off + k * 2, none⟩ = some (.int .i64 p.1) ∧ W.cell? ⟨b, off + k * 2 + 1, none⟩ = some (.int .i64 p.2) ∧ W.cell? ⟨b', off' + k * 2, none⟩ = some (.int .i64 q.1) ∧ W.cell? ⟨b', off' + k * 2 + 1, none⟩ = some (.int .i64 q.2)) := fun W hW =>
          ⟨hW, (hW.cell (p := ⟨b, off + k * 2, none⟩) hb).trans (hcA k p hp).1, (hW.cell (p := ⟨b, off + k * 2 + 1, none⟩) hb).trans (hcA k p hp).2, (hW.cell (p := ⟨b', off' + k * 2, none⟩) hb').trans (hcB k q hq).1, (hW.cell (p := ⟨b', off' + k * 2 + 1, none⟩) hb').trans (hcB k q hq).2⟩
        have K0 := Lib.hid k0
        have kp : ∀ W W', (Below w.heap.size w W ∧ W.cell? ⟨b, off + k * 2, none⟩ = some (.int .i64 p.1) ∧ W.cell? ⟨b, off + k * 2 + 1, none⟩ = some (.int .i64 p.2) ∧ W.cell? ⟨b', off' + k * 2, none⟩ = some (.int .i64 q.1) ∧ W.cell? ⟨b', off' + k * 2 + 1, none⟩ = some (.int .i64 q.2)) → Below W.heap.size W W' → (Below w.heap.size w W' ∧ W'.cell? ⟨b, off + k * 2, none⟩ = some (.int .i64 p.1) ∧ W'.cell? ⟨b, off + k * 2 + 1, none⟩ = some (.int .i64 p.2) ∧ W'.cell? ⟨b', off' + k * 2, none⟩ = some (.int .i64 q.1) ∧ W'.cell? ⟨b', off' + k * 2 + 1, none⟩ = some (.int .i64 q.2)) := fun W W' h hb => k0 W' (h.1.trans (hb.mono h.1.size))
        have KP := Lib.hid kp
        clear kp
        have HP := Lib.hid hp
        have HQ := Lib.hid hq
        clear k0 hcA hcB hp hq
        by_cases hpq : p = q
        · have EQ := Lib.hid (fun W => (eqPeg_any p.1 p.2 q.1 q.2 W).mono fun e w' h => (show e = .returned (.bool true) ∧ Below W.heap.size W w' from ⟨h.1.trans (ret_bool (by simp [hpq])), h.2⟩))
          have hS2 : Hid (Same l m (k + 1)) := Lib.hid (fun i p' q' h hp' hq' => by
            by_cases hik : i = k
            · subst hik
              have e1 := HP.out
              have e2 := HQ.out
              rw [hp'] at e1
              rw [hq'] at e2
              injection e1 with e1
              injection e2 with e2
              rw [e1, e2, hpq]
            · exact hS.out i p' q' (by omega) hp' hq')
          clear hpq hS
          go_wp2_with fail
          refine wp_region_B (fun W => Below w.heap.size w W ∧ W.cell? ⟨b, off + k * 2, none⟩ = some (.int .i64 p.1) ∧ W.cell? ⟨b, off + k * 2 + 1, none⟩ = some (.int .i64 p.2) ∧ W.cell? ⟨b', off' + k * 2, none⟩ = some (.int .i64 q.1) ∧ W.cell? ⟨b', off' + k * 2 + 1, none⟩ = some (.int .i64 q.2)) (by kernel_rfl) (K0.out _ hBel.drew) ?_
          first | refine wpB_skip 0 rfl (by kernel_rfl) (by kernel_rfl) (by kernel_rfl) (by rfl) ?_ | (refine wpB_text 0 (v := ?_) rfl (by kernel_rfl) (by kernel_rfl) (by kernel_rfl) (by rfl) (fun W hW => ?_) ?_; rotate_left; (obtain ⟨k1, k2, k3, k4, k5⟩ := hW;  go_simp; refine comes_v ?_; exact ⟨k1, k2, k3, k4, k5⟩))
          (try simp only [Act.put, List.setIfInBounds_toArray, List.set_cons_zero, List.set_cons_succ])
          first | refine wpB_skip 1 rfl (by kernel_rfl) (by kernel_rfl) (by kernel_rfl) (by rfl) ?_ | (refine wpB_text 1 (v := ?_) rfl (by kernel_rfl) (by kernel_rfl) (by kernel_rfl) (by rfl) (fun W hW => ?_) ?_; rotate_left; (obtain ⟨k1, k2, k3, k4, k5⟩ := hW;  go_simp; refine comes_v ?_; exact ⟨k1, k2, k3, k4, k5⟩))
          (try simp only [Act.put, List.setIfInBounds_toArray, List.set_cons_zero, List.set_cons_succ])
          first | refine wpB_skip 2 rfl (by kernel_rfl) (by kernel_rfl) (by kernel_rfl) (by rfl) ?_ | (refine wpB_text 2 (v := ?_) rfl (by kernel_rfl) (by kernel_rfl) (by kernel_rfl) (by rfl) (fun W hW => ?_) ?_; rotate_left; (obtain ⟨k1, k2, k3, k4, k5⟩ := hW;  go_simp; refine comes_v ?_; exact ⟨k1, k2, k3, k4, k5⟩))
          (try simp only [Act.put, List.setIfInBounds_toArray, List.set_cons_zero, List.set_cons_succ])
          first | refine wpB_skip 3 rfl (by kernel_rfl) (by kernel_rfl) (by kernel_rfl) (by rfl) ?_ | (refine wpB_text 3 (v := ?_) rfl (by kernel_rfl) (by kernel_rfl) (by kernel_rfl) (by rfl) (fun W hW => ?_) ?_; rotate_left; (obtain ⟨k1, k2, k3, k4, k5⟩ := hW;  go_simp; refine comes_v ?_; exact ⟨k1, k2, k3, k4, k5⟩))
          (try simp only [Act.put, List.setIfInBounds_toArray, List.set_cons_zero, List.set_cons_succ])
          first | refine wpB_skip 4 rfl (by kernel_rfl) (by kernel_rfl) (by kernel_rfl) (by rfl) ?_ | (refine wpB_text 4 (v := ?_) rfl (by kernel_rfl) (by kernel_rfl) (by kernel_rfl) (by rfl) (fun W hW => ?_) ?_; rotate_left; (obtain ⟨k1, k2, k3, k4, k5⟩ := hW;  go_simp; refine comes_v ?_; exact ⟨k1, k2, k3, k4, k5⟩))
          (try simp only [Act.put, List.setIfInBounds_toArray, List.set_cons_zero, List.set_cons_succ])
          first | refine wpB_skip 5 rfl (by kernel_rfl) (by kernel_rfl) (by kernel_rfl) (by rfl) ?_ | (refine wpB_text 5 (v := ?_) rfl (by kernel_rfl) (by kernel_rfl) (by kernel_rfl) (by rfl) (fun W hW => ?_) ?_; rotate_left; (obtain ⟨k1, k2, k3, k4, k5⟩ := hW;  go_simp; refine comes_v ?_; exact ⟨k1, k2, k3, k4, k5⟩))
          (try simp only [Act.put, List.setIfInBounds_toArray, List.set_cons_zero, List.set_cons_succ])
          first | refine wpB_skip 6 rfl (by kernel_rfl) (by kernel_rfl) (by kernel_rfl) (by rfl) ?_ | (refine wpB_text 6 (v := ?_) rfl (by kernel_rfl) (by kernel_rfl) (by kernel_rfl) (by rfl) (fun W hW => ?_) ?_; rotate_left; (obtain ⟨k1, k2, k3, k4, k5⟩ := hW;  go_simp; refine comes_v ?_; exact ⟨k1, k2, k3, k4, k5⟩))
          (try simp only [Act.put, List.setIfInBounds_toArray, List.set_cons_zero, List.set_cons_succ])
          first | refine wpB_skip 7 rfl (by kernel_rfl) (by kernel_rfl) (by kernel_rfl) (by rfl) ?_ | (refine wpB_text 7 (v := ?_) rfl (by kernel_rfl) (by kernel_rfl) (by kernel_rfl) (by rfl) (fun W hW => ?_) ?_; rotate_left; (obtain ⟨k1, k2, k3, k4, k5⟩ := hW;  go_simp; refine comes_v ?_; exact ⟨k1, k2, k3, k4, k5⟩))
          (try simp only [Act.put, List.setIfInBounds_toArray, List.set_cons_zero, List.set_cons_succ])
          first | refine wpB_skip 8 rfl (by kernel_rfl) (by kernel_rfl) (by kernel_rfl) (by rfl) ?_ | (refine wpB_text 8 (v := .bool true) rfl (by kernel_rfl) (by kernel_rfl) (by kernel_rfl) (by rfl) (fun W hW => ?_) ?_; (obtain ⟨k1, k2, k3, k4, k5⟩ := hW;  go_simp; exact comes_c ( EQ.out _) (fun wn hbn => KP.out _ _ ⟨k1, k2, k3, k4, k5⟩ hbn)))
          (try simp only [Act.put, List.setIfInBounds_toArray, List.set_cons_zero, List.set_cons_succ])
          first | refine wpB_skip 9 rfl (by kernel_rfl) (by kernel_rfl) (by kernel_rfl) (by rfl) ?_ | (refine wpB_text 9 (v := ?_) rfl (by kernel_rfl) (by kernel_rfl) (by kernel_rfl) (by rfl) (fun W hW => ?_) ?_; rotate_left; (obtain ⟨k1, k2, k3, k4, k5⟩ := hW;  go_simp; refine comes_v ?_; exact ⟨k1, k2, k3, k4, k5⟩))
          (try simp only [Act.put, List.setIfInBounds_toArray, List.set_cons_zero, List.set_cons_succ])
          refine wpB_done (by kernel_rfl) ?_ _
          intro W hW; obtain ⟨k1, k2, k3, k4, k5⟩ := hW
          go_wp2_with fail
          go_roundw
          case rel => first | exact ⟨k + 1, by go_num, by omega, k1, hS2⟩ | ((repeat apply Exists.intro); exact ⟨⟨k + 1, by go_num, by omega, k1, hS2⟩, rfl⟩)
          case measure => simp [intOf]; omega
        · have EQ := Lib.hid (fun W => (eqPeg_any p.1 p.2 q.1 q.2 W).mono fun e w' h => (show e = .returned (.bool false) ∧ Below W.heap.size W w' from ⟨h.1.trans (ret_bool (decide_eq_false hpq)), h.2⟩))
          have hne : Hid (¬ l = m) := Lib.hid (fun e => hpq (by have e1 := HP.out; rw [e, HQ.out] at e1; injection e1 with e1; exact e1.symm))
          clear hpq hS
          go_wp2_with fail
          refine wp_region_B (fun W => Below w.heap.size w W ∧ W.cell? ⟨b, off + k * 2, none⟩ = some (.int .i64 p.1) ∧ W.cell? ⟨b, off + k * 2 + 1, none⟩ = some (.int .i64 p.2) ∧ W.cell? ⟨b', off' + k * 2, none⟩ = some (.int .i64 q.1) ∧ W.cell? ⟨b', off' + k * 2 + 1, none⟩ = some (.int .i64 q.2)) (by kernel_rfl) (K0.out _ hBel.drew) ?_
          first | refine wpB_skip 0 rfl (by kernel_rfl) (by kernel_rfl) (by kernel_rfl) (by rfl) ?_ | (refine wpB_text 0 (v := ?_) rfl (by kernel_rfl) (by kernel_rfl) (by kernel_rfl) (by rfl) (fun W hW => ?_) ?_; rotate_left; (obtain ⟨k1, k2, k3, k4, k5⟩ := hW;  go_simp; refine comes_v ?_; exact ⟨k1, k2, k3, k4, k5⟩))
          (try simp only [Act.put, List.setIfInBounds_toArray, List.set_cons_zero, List.set_cons_succ])
          first | refine wpB_skip 1 rfl (by kernel_rfl) (by kernel_rfl) (by kernel_rfl) (by rfl) ?_ | (refine wpB_text 1 (v := ?_) rfl (by kernel_rfl) (by kernel_rfl) (by kernel_rfl) (by rfl) (fun W hW => ?_) ?_; rotate_left; (obtain ⟨k1, k2, k3, k4, k5⟩ := hW;  go_simp; refine comes_v ?_; exact ⟨k1, k2, k3, k4, k5⟩))
          (try simp only [Act.put, List.setIfInBounds_toArray, List.set_cons_zero, List.set_cons_succ])
          first | refine wpB_skip 2 rfl (by kernel_rfl) (by kernel_rfl) (by kernel_rfl) (by rfl) ?_ | (refine wpB_text 2 (v := ?_) rfl (by kernel_rfl) (by kernel_rfl) (by kernel_rfl) (by rfl) (fun W hW => ?_) ?_; rotate_left; (obtain ⟨k1, k2, k3, k4, k5⟩ := hW;  go_simp; refine comes_v ?_; exact ⟨k1, k2, k3, k4, k5⟩))
          (try simp only [Act.put, List.setIfInBounds_toArray, List.set_cons_zero, List.set_cons_succ])
          first | refine wpB_skip 3 rfl (by kernel_rfl) (by kernel_rfl) (by kernel_rfl) (by rfl) ?_ | (refine wpB_text 3 (v := ?_) rfl (by kernel_rfl) (by kernel_rfl) (by kernel_rfl) (by rfl) (fun W hW => ?_) ?_; rotate_left; (obtain ⟨k1, k2, k3, k4, k5⟩ := hW;  go_simp; refine comes_v ?_; exact ⟨k1, k2, k3, k4, k5⟩))
          (try simp only [Act.put, List.setIfInBounds_toArray, List.set_cons_zero, List.set_cons_succ])
          first | refine wpB_skip 4 rfl (by kernel_rfl) (by kernel_rfl) (by kernel_rfl) (by rfl) ?_ | (refine wpB_text 4 (v := ?_) rfl (by kernel_rfl) (by kernel_rfl) (by kernel_rfl) (by rfl) (fun W hW => ?_) ?_; rotate_left; (obtain ⟨k1, k2, k3, k4, k5⟩ := hW;  go_simp; refine comes_v ?_; exact ⟨k1, k2, k3, k4, k5⟩))
          (try simp only [Act.put, List.setIfInBounds_toArray, List.set_cons_zero, List.set_cons_succ])
          first | refine wpB_skip 5 rfl (by kernel_rfl) (by kernel_rfl) (by kernel_rfl) (by rfl) ?_ | (refine wpB_text 5 (v := ?_) rfl (by kernel_rfl) (by kernel_rfl) (by kernel_rfl) (by rfl) (fun W hW => ?_) ?_; rotate_left; (obtain ⟨k1, k2, k3, k4, k5⟩ := hW;  go_simp; refine comes_v ?_; exact ⟨k1, k2, k3, k4, k5⟩))
          (try simp only [Act.put, List.setIfInBounds_toArray, List.set_cons_zero, List.set_cons_succ])
          first | refine wpB_skip 6 rfl (by kernel_rfl) (by kernel_rfl) (by kernel_rfl) (by rfl) ?_ | (refine wpB_text 6 (v := ?_) rfl (by kernel_rfl) (by kernel_rfl) (by kernel_rfl) (by rfl) (fun W hW => ?_) ?_; rotate_left; (obtain ⟨k1, k2, k3, k4, k5⟩ := hW;  go_simp; refine comes_v ?_; exact ⟨k1, k2, k3, k4, k5⟩))
          (try simp only [Act.put, List.setIfInBounds_toArray, List.set_cons_zero, List.set_cons_succ])
          first | refine wpB_skip 7 rfl (by kernel_rfl) (by kernel_rfl) (by kernel_rfl) (by rfl) ?_ | (refine wpB_text 7 (v := ?_) rfl (by kernel_rfl) (by kernel_rfl) (by kernel_rfl) (by rfl) (fun W hW => ?_) ?_; rotate_left; (obtain ⟨k1, k2, k3, k4, k5⟩ := hW;  go_simp; refine comes_v ?_; exact ⟨k1, k2, k3, k4, k5⟩))
          (try simp only [Act.put, List.setIfInBounds_toArray, List.set_cons_zero, List.set_cons_succ])
          first | refine wpB_skip 8 rfl (by kernel_rfl) (by kernel_rfl) (by kernel_rfl) (by rfl) ?_ | (refine wpB_text 8 (v := .bool false) rfl (by kernel_rfl) (by kernel_rfl) (by kernel_rfl) (by rfl) (fun W hW => ?_) ?_; (obtain ⟨k1, k2, k3, k4, k5⟩ := hW;  go_simp; exact comes_c ( EQ.out _) (fun wn hbn => KP.out _ _ ⟨k1, k2, k3, k4, k5⟩ hbn)))
          (try simp only [Act.put, List.setIfInBounds_toArray, List.set_cons_zero, List.set_cons_succ])
          first | refine wpB_skip 9 rfl (by kernel_rfl) (by kernel_rfl) (by kernel_rfl) (by rfl) ?_ | (refine wpB_text 9 (v := ?_) rfl (by kernel_rfl) (by kernel_rfl) (by kernel_rfl) (by rfl) (fun W hW => ?_) ?_; rotate_left; (obtain ⟨k1, k2, k3, k4, k5⟩ := hW;  go_simp; refine comes_v ?_; exact ⟨k1, k2, k3, k4, k5⟩))
          (try simp only [Act.put, List.setIfInBounds_toArray, List.set_cons_zero, List.set_cons_succ])
          refine wpB_done (by kernel_rfl) ?_ _
          intro W hW; obtain ⟨k1, k2, k3, k4, k5⟩ := hW
          go_wp2_with fail
          go_ret
          exact ⟨ret_bool (decide_eq_false hne.out).symm, k1⟩
      · have hkn : k = n := by omega
        subst hkn
        go_wp2_with fail
        go_ret
        exact ⟨ret_bool (decide_eq_true ((eq_at (by have := HN.out; have := HL.out; omega)).2 (fun i p q hp hq => hS.out i p q (by have := (List.getElem?_eq_some_iff.1 hp).1; have := HN.out; omega) hp hq))).symm, hBel⟩
  · have hne : ¬ l = m := fun e => hl (by rw [e])
    have HH : decide (((l.length : Nat) : Int) = ((m.length : Nat) : Int)) = false := by simp; omega
    rw [decide_eq_false hne]
    go_enter Try.func19, Try.ntmps19
    go_wp2_with fail
    go_ret
    exact ⟨rfl, Below.refl _ _⟩
end Go.Proofs.Ytieimijkkjhegaa
/- contract: the model's test of a polygon -/
namespace Go.Proofs.Ytieimijkkjhegaa
open Go.ChangeShapes Go.WideShapes Go.ChangeAt Go.RowKit Go.Joins
set_option linter.unusedVariables false
set_option linter.unusedSimpArgs false
set_option maxRecDepth 4000
/-- corner number i, round and round -/
def vx (l : List (Int × Int)) (i : Nat) : Int × Int := (l[i % l.length]?).getD (0, 0)
def isPg (p : Int × Int) : Bool := isPegB p.1 p.2
def twP (a b c : Int × Int) : Int := twI a.1 a.2 b.1 b.2 c.1 c.2
def meP (a b c d : Int × Int) : Bool := meetB a.1 a.2 b.1 b.2 c.1 c.2 d.1 d.2
/-- what a polygon is -/
structure Good (l : List (Int × Int)) : Prop where
  few : 3 ≤ l.length ∧ l.length ≤ 10
  pegs : ∀ i, i < l.length → isPg (vx l i) = true
  diff : ∀ i j, j < i → i < l.length → vx l i ≠ vx l j
  turn : ∀ i, i < l.length → twP (vx l i) (vx l (i + 1)) (vx l (i + 2)) ≠ 0
  apart : ∀ i k, i + 2 ≤ k → k < l.length → k + 1 < l.length + i → meP (vx l i) (vx l (i + 1)) (vx l k) (vx l (k + 1)) = false
noncomputable def goodB (l : List (Int × Int)) : Bool := @decide (Good l) (Classical.propDecidable _)
theorem goodB_true {l : List (Int × Int)} (h : Good l) : goodB l = true := by unfold goodB; exact @decide_eq_true _ (Classical.propDecidable _) h
theorem goodB_false {l : List (Int × Int)} (h : ¬ Good l) : goodB l = false := by unfold goodB; exact @decide_eq_false _ (Classical.propDecidable _) h
theorem vx_get {l : List (Int × Int)} {i : Nat} (h : i < l.length) : l[i]? = some (vx l i) := by
  unfold vx; rw [Nat.mod_eq_of_lt h, List.getElem?_eq_getElem h]; rfl
theorem vx_mod {l : List (Int × Int)} (i : Nat) (h : 0 < l.length) : l[i % l.length]? = some (vx l i) := by
  unfold vx; rw [List.getElem?_eq_getElem (Nat.mod_lt _ h)]; rfl
/-- the first k corners are different pegs -/
def Fine (l : List (Int × Int)) (k : Nat) : Prop := ∀ i, i < k → isPg (vx l i) = true ∧ ∀ j, j < i → vx l i ≠ vx l j
/-- the corners below k turn, and their lines meet none behind -/
def Apart (l : List (Int × Int)) (m : Nat) : Prop := ∀ i, i < m → twP (vx l i) (vx l (i + 1)) (vx l (i + 2)) ≠ 0 ∧ ∀ k, i + 2 ≤ k → k < l.length → k + 1 < l.length + i → meP (vx l i) (vx l (i + 1)) (vx l k) (vx l (k + 1)) = false
def Turns (l : List (Int × Int)) (k : Nat) : Prop := twP (vx l k) (vx l (k + 1)) (vx l (k + 2)) ≠ 0
theorem vx_per (l : List (Int × Int)) (i : Nat) : vx l (i % l.length) = vx l i := by unfold vx; rw [Nat.mod_mod]
end Go.Proofs.Ytieimijkkjhegaa
/- plain mathematics: sums around a polygon -/
namespace Go.Proofs.Ytieimijkkjhegaa
open Go.ChangeShapes Go.WideShapes Go.ChangeAt Go.RowKit Go.Joins
set_option linter.unusedVariables false
set_option linter.unusedSimpArgs false
set_option maxRecDepth 4000
def cr (p q : Int × Int) : Int := p.1 * q.2 - q.1 * p.2
/-- f at corner 0, .., at corner k - 1, together -/
def sumTo (f : Nat → Int) : Nat → Int
  | 0 => 0
  | k + 1 => sumTo f k + f k
theorem sumTo_bd {f : Nat → Int} {m : Int} : ∀ (k : Nat), (∀ i, i < k → -m ≤ f i ∧ f i ≤ m) → -(m * k) ≤ sumTo f k ∧ sumTo f k ≤ m * k
  | 0, _ => by simp [sumTo]
  | k + 1, h => by
    have ih := sumTo_bd k (fun i hi => h i (by omega))
    have hk := h k (by omega)
    have e : m * ((k + 1 : Nat) : Int) = m * (k : Int) + m := by rw [Int.natCast_add, Int.mul_add]; simp
    rw [e]
    unfold sumTo
    omega
theorem sumTo_same {f g : Nat → Int} : ∀ (k : Nat), (∀ i, i < k → f i = g i) → sumTo f k = sumTo g k
  | 0, _ => rfl
  | k + 1, h => by unfold sumTo; rw [sumTo_same k (fun i hi => h i (by omega)), h k (by omega)]
def Sh (l : List (Int × Int)) (k : Nat) : Int := sumTo (fun i => cr (vx l i) (vx l (i + 1))) k
/-- twice the area -/
def areaN (l : List (Int × Int)) : Int := Sh l l.length
/-- the triangles from corner 0 to those below corner i, together -/
def fanTo (l : List (Int × Int)) (i : Nat) : Int := Sh l (i - 1) + cr (vx l (i - 1)) (vx l 0)
theorem fan_two (l : List (Int × Int)) : fanTo l 2 = 0 := by
  unfold fanTo Sh sumTo sumTo cr; simp; omega
theorem fan_step (l : List (Int × Int)) (i : Nat) (h : 2 ≤ i) : fanTo l (i + 1) = fanTo l i + twP (vx l 0) (vx l (i - 1)) (vx l i) := by
  obtain ⟨j, rfl⟩ : ∃ j, i = j + 1 := ⟨i - 1, by omega⟩
  have e1 : j + 1 + 1 - 1 = j + 1 := by omega
  have e2 : j + 1 - 1 = j := by omega
  unfold fanTo
  rw [e1, e2]
  have : Sh l (j + 1) = Sh l j + cr (vx l j) (vx l (j + 1)) := rfl
  rw [this]
  unfold twP twI cr
  grind
theorem fan_all (l : List (Int × Int)) (h : 3 ≤ l.length) : fanTo l l.length = areaN l := by
  unfold areaN fanTo
  obtain ⟨j, hj⟩ : ∃ j, l.length = j + 1 := ⟨l.length - 1, by omega⟩
  rw [hj]
  have e : j + 1 - 1 = j := by omega
  rw [e]
  have h1 : Sh l (j + 1) = Sh l j + cr (vx l j) (vx l (j + 1)) := rfl
  have h2 : vx l (j + 1) = vx l 0 := by rw [← hj]; unfold vx; simp
  rw [h1, h2]
theorem cr_bd {p q : Int × Int} (hp : isPg p = true) (hq : isPg q = true) : -3200 ≤ cr p q ∧ cr p q ≤ 3200 := by
  unfold isPg isPegB at hp hq
  simp only [Bool.and_eq_true, decide_eq_true_eq] at hp hq
  have h1 := mul_bd (x := p.1) (y := q.2) (m := 40) (n := 40) (by omega) (by omega) (by omega) (by omega)
  have h2 := mul_bd (x := q.1) (y := p.2) (m := 40) (n := 40) (by omega) (by omega) (by omega) (by omega)
  unfold cr
  omega
theorem vx_pg {l : List (Int × Int)} (h : ∀ i, i < l.length → isPg (vx l i) = true) (h0 : 0 < l.length) (i : Nat) : isPg (vx l i) = true := by
  rw [← vx_per]; exact h _ (Nat.mod_lt _ h0)
theorem good_pos {l : List (Int × Int)} (h : Good l) : 0 < l.length := by have := h.few.1; omega
theorem sh_bd {l : List (Int × Int)} (h : ∀ i, i < l.length → isPg (vx l i) = true) (h0 : 0 < l.length) (k : Nat) : -(3200 * (k : Int)) ≤ Sh l k ∧ Sh l k ≤ 3200 * (k : Int) :=
  sumTo_bd k fun i _ => cr_bd (vx_pg h h0 i) (vx_pg h h0 (i + 1))
theorem fan_bdW {l : List (Int × Int)} (h : ∀ i, i < l.length → isPg (vx l i) = true) (h0 : 0 < l.length) (i : Nat) (hi : i ≤ 60) : -400000 ≤ fanTo l i ∧ fanTo l i ≤ 400000 := by
  have h1 := sh_bd h h0 (i - 1)
  have h2 := cr_bd (vx_pg h h0 (i - 1)) (vx_pg h h0 0)
  unfold fanTo
  omega
theorem fan_bd {l : List (Int × Int)} (h : ∀ i, i < l.length → isPg (vx l i) = true) (h0 : 0 < l.length) (i : Nat) (hi : i ≤ 10) : -40000 ≤ fanTo l i ∧ fanTo l i ≤ 40000 := by
  have h1 := sh_bd h h0 (i - 1)
  have h2 := cr_bd (vx_pg h h0 (i - 1)) (vx_pg h h0 0)
  unfold fanTo
  omega
/-- how many steps the lines have together -/
def Rn (l : List (Int × Int)) (k : Nat) : Int := sumTo (fun i => stepN (vx l i).1 (vx l i).2 (vx l (i + 1)).1 (vx l (i + 1)).2) k
def onN (l : List (Int × Int)) : Int := Rn l l.length
theorem rn_bd {l : List (Int × Int)} (h : ∀ i, i < l.length → isPg (vx l i) = true) (h0 : 0 < l.length) (k : Nat) : -(160 * (k : Int)) ≤ Rn l k ∧ Rn l k ≤ 160 * (k : Int) :=
  sumTo_bd k fun i _ => by
    have := stepN_bd (a1 := (vx l i).1) (a2 := (vx l i).2) (b1 := (vx l (i + 1)).1) (b2 := (vx l (i + 1)).2) (vx_pg h h0 i) (vx_pg h h0 (i + 1))
    omega
/-- the told number of points inside -/
def insN (l : List (Int × Int)) : Int := ((areaN l).natAbs + 2 - onN l).tdiv 2
end Go.Proofs.Ytieimijkkjhegaa
/- what a call may read of a list of points -/
namespace Go.Proofs.Ytieimijkkjhegaa
open Go.ChangeShapes Go.WideShapes Go.ChangeAt Go.RowKit Go.Joins
set_option linter.unusedVariables false
set_option linter.unusedSimpArgs false
set_option maxRecDepth 4000
theorem bt_keep {w W W' : World} (h : Below w.heap.size w W) (hb : Below W.heap.size W W') : Below w.heap.size w W' := h.trans (hb.mono h.size)
/-- what a call may read of a list of points -/
def Pts (w : World) (b off n : Nat) (l : List (Int × Int)) : Prop :=
  ∀ W, Below w.heap.size w W → ∀ i, i < n → W.cell? ⟨b, off + i * 2, none⟩ = some (.int .i64 (vx l i).1) ∧ W.cell? ⟨b, off + i * 2 + 1, none⟩ = some (.int .i64 (vx l i).2)
theorem pts_of {w : World} {A : Option Addr} {l : List (Int × Int)} (h0 : 0 < l.length) (hR : Rd w w.heap.size A l) : ∃ b off, A = some ⟨b, off, none⟩ ∧ b < w.heap.size ∧ Hid (Pts w b off l.length l) := by
  obtain ⟨b, off, e, hb, hc⟩ := hR h0
  refine ⟨b, off, e, hb, Lib.hid fun W hW i hi => ?_⟩
  have h1 := hc i _ (vx_get hi)
  exact ⟨(hW.cell (p := ⟨b, off + i * 2, none⟩) hb).trans h1.1, (hW.cell (p := ⟨b, off + i * 2 + 1, none⟩) hb).trans h1.2⟩
theorem pgs_sz {l : List (Int × Int)} (h : ∀ i, i < l.length → isPg (vx l i) = true) (i : Nat) (h0 : 0 < l.length) : Sz (vx l i).1 (vx l i).2 := sz_of (vx_pg h h0 i)
end Go.Proofs.Ytieimijkkjhegaa
/- plain mathematics: what the told polygons are, as rows of points that come round -/
namespace Go.Proofs.Ytieimijkkjhegaa
open Go.ChangeShapes Go.WideShapes Go.ChangeAt Go.RowKit Go.Joins
set_option linter.unusedVariables false
set_option linter.unusedSimpArgs false
set_option maxRecDepth 4000
theorem tw_is (a b c : Int × Int) : MJ.tw a b c = twP a b c := by unfold MJ.tw twP twI; grind
theorem on_is (a b p : Int × Int) : onB a.1 a.2 b.1 b.2 p.1 p.2 = true ↔ MJ.on a b p := by
  rw [onB_eq]
  unfold MJ.on
  rw [tw_is]
  simp only [Bool.and_eq_true, decide_eq_true_eq, twP]
  omega
theorem me_is (a b c d : Int × Int) : meP a b c d = true ↔ MJ.meets a b c d := by
  unfold meP meetB MJ.meets
  simp only [Bool.or_eq_true, decide_eq_true_eq]
  rw [on_is, on_is, on_is, on_is, tw_is, tw_is, tw_is, tw_is]
  unfold twP
  constructor
  · rintro ((((h | h) | h) | h) | h)
    · exact .inr (.inr (.inl h))
    · exact .inr (.inr (.inr (.inl h)))
    · exact .inl h
    · exact .inr (.inl h)
    · exact .inr (.inr (.inr (.inr h)))
  · rintro (h | h | h | h | h)
    · exact .inl (.inl (.inr h))
    · exact .inl (.inr h)
    · exact .inl (.inl (.inl (.inl h)))
    · exact .inl (.inl (.inl (.inr h)))
    · exact .inr h
theorem meets_comm {a b c d : Int × Int} (h : MJ.meets a b c d) : MJ.meets c d a b := by
  rcases h with h | h | h | h | h
  · exact .inr (.inr (.inl h))
  · exact .inr (.inr (.inr (.inl h)))
  · exact .inl h
  · exact .inr (.inl h)
  · exact .inr (.inr (.inr (.inr ⟨h.2, h.1⟩)))
theorem vx_addN (l : List (Int × Int)) (i : Nat) : vx l (i + l.length) = vx l i := by unfold vx; rw [Nat.add_mod_right]
theorem vx_add1 (l : List (Int × Int)) (i k : Nat) : vx l (i % l.length + k) = vx l (i + k) := by
  rw [← vx_per l (i % l.length + k), ← vx_per l (i + k), Nat.mod_add_mod]
theorem vx_mul (l : List (Int × Int)) (p k : Nat) : vx l (l.length * p + k) = vx l k := by unfold vx; rw [Nat.mul_add_mod]
theorem good_ne {l : List (Int × Int)} (hg : Good l) (i : Nat) : vx l i ≠ vx l (i + 1) := by
  have h3 := hg.few.1
  rw [← vx_per l i, ← vx_add1 l i 1]
  have hm : i % l.length < l.length := Nat.mod_lt _ (by omega)
  by_cases h : i % l.length + 1 < l.length
  · exact (hg.diff _ _ (by omega) h).symm
  · have e : i % l.length + 1 = 0 + l.length := by omega
    rw [e, vx_addN]
    exact hg.diff _ _ (by omega) hm
theorem good_turn {l : List (Int × Int)} (hg : Good l) (i : Nat) : twP (vx l i) (vx l (i + 1)) (vx l (i + 2)) ≠ 0 := by
  have h3 := hg.few.1
  rw [← vx_per l i, ← vx_add1 l i 1, ← vx_add1 l i 2]
  exact hg.turn _ (Nat.mod_lt _ (by omega))
theorem good_poly {l : List (Int × Int)} (hg : Good l) : MJ.Poly (vx l) l.length := by
  have h3 := hg.few.1
  refine { three := h3, per := vx_addN l, adj := fun i => ⟨good_ne hg i, good_ne hg (i + 1), fun h => absurd (by rw [tw_is] at h; exact h) (good_turn hg i)⟩, apart := fun i j h1 h2 h => ?_, turn := fun i h => good_turn hg i (by rw [tw_is] at h; exact h) }
  obtain ⟨p, r, e, hr⟩ : ∃ p r, i = l.length * p + r ∧ r < l.length := ⟨i / l.length, i % l.length, (Nat.div_add_mod i l.length).symm, Nat.mod_lt _ (by omega)⟩
  obtain ⟨k, rfl⟩ : ∃ k, j = l.length * p + k := ⟨j - l.length * p, by omega⟩
  subst e
  rw [Nat.add_assoc, Nat.add_assoc, vx_mul, vx_mul, vx_mul, vx_mul] at h
  by_cases hk : k < l.length
  · have := hg.apart r k (by omega) hk (by omega)
    rw [← me_is, this] at h
    cases h
  · obtain ⟨m, rfl⟩ : ∃ m, k = m + l.length := ⟨k - l.length, by omega⟩
    rw [show m + l.length + 1 = m + 1 + l.length by omega, vx_addN, vx_addN] at h
    have := hg.apart m r (by omega) hr (by omega)
    have h' := meets_comm h
    rw [← me_is, this] at h'
    cases h'
theorem sumTo_is (f : Nat → Int) (n : Nat) : sumTo f n = MJ.sm f n := by
  induction n with
  | zero => rfl
  | succ n ih => unfold sumTo MJ.sm; rw [ih]
theorem area_is (l : List (Int × Int)) : areaN l = MJ.Ar (vx l) l.length := sumTo_is _ _
theorem good_box {l : List (Int × Int)} (hg : Good l) (i : Nat) : MJ.InBox 40 (vx l i) := by
  have := vx_pg hg.pegs (good_pos hg) i
  unfold isPg isPegB at this
  simp only [Bool.and_eq_true, decide_eq_true_eq] at this
  exact ⟨by omega, by omega, by omega, by omega⟩
/-- all corners turn to the left -/
def leftAll (l : List (Int × Int)) : Prop := ∀ i, i < l.length → 0 < twP (vx l i) (vx l (i + 1)) (vx l (i + 2))
def rightAll (l : List (Int × Int)) : Prop := ∀ i, i < l.length → twP (vx l i) (vx l (i + 1)) (vx l (i + 2)) < 0
theorem all_i {l : List (Int × Int)} {P : Int → Prop} (h0 : 0 < l.length) (h : ∀ i, i < l.length → P (twP (vx l i) (vx l (i + 1)) (vx l (i + 2)))) (i : Nat) : P (twP (vx l i) (vx l (i + 1)) (vx l (i + 2))) := by
  have := h (i % l.length) (Nat.mod_lt _ h0)
  rw [vx_per, vx_add1, vx_add1] at this
  exact this
theorem left_area {l : List (Int × Int)} (hg : Good l) (h : leftAll l) : 0 < areaN l := by
  rw [area_is]
  exact MJ.all_left (good_poly hg) (good_box hg) fun i => by rw [tw_is]; exact all_i (P := fun x => 0 < x) (good_pos hg) h i
theorem right_area {l : List (Int × Int)} (hg : Good l) (h : rightAll l) : areaN l < 0 := by
  rw [area_is]
  exact MJ.all_right (good_poly hg) (good_box hg) fun i => by rw [tw_is]; exact all_i (P := fun x => x < 0) (good_pos hg) h i
end Go.Proofs.Ytieimijkkjhegaa
/- contract: the sign of a number -/
namespace Go.Proofs.Ytieimijkkjhegaa
open Go.ChangeShapes Go.WideShapes Go.ChangeAt Go.RowKit Go.Joins
set_option linter.unusedVariables false
set_option linter.unusedSimpArgs false
set_option maxRecDepth 4000
theorem l1Sign_any (n : Int) (w : World) :
    Calls Try.prog 132 #[.int .i64 n] w fun e w' => e = .returned (.int .i64 (sgn n)) ∧ w = w' := by
  have s1 : 0 < n → sgn n = 1 := fun h => by unfold sgn; rw [if_pos h]
  have s2 : n < 0 → sgn n = -1 := fun h => by unfold sgn; rw [if_neg (by omega), if_pos h]
  have s3 : n = 0 → sgn n = 0 := fun h => by unfold sgn; rw [if_neg (by omega), if_neg (by omega)]
  have S1 := Lib.hid s1
  have S2 := Lib.hid s2
  have S3 := Lib.hid s3
  clear s1 s2 s3
  rcases Int.lt_trichotomy n 0 with h | h | h
  all_goals
    go_enter Try.func132, Try.ntmps132
    go_wp2
    go_ret
    exact ⟨ret_int (by first | (rw [S1.out (by omega)]; done) | (rw [S2.out (by omega)]; done) | (rw [S3.out (by omega)]; done)), rfl⟩
end Go.Proofs.Ytieimijkkjhegaa
/- plain: when all corners turn to one side -/
namespace Go.Proofs.Ytieimijkkjhegaa
open Go.ChangeShapes Go.WideShapes Go.ChangeAt Go.RowKit Go.Joins
set_option linter.unusedVariables false
set_option linter.unusedSimpArgs false
set_option maxRecDepth 4000
def tN (l : List (Int × Int)) (i : Nat) : Int := twP (vx l i) (vx l (i + 1)) (vx l (i + 2))
/-- all corners turn to the area's side -/
def Cvx (l : List (Int × Int)) : Prop := ∀ i, i < l.length → sgn (tN l i) = sgn (areaN l)
noncomputable def convB (l : List (Int × Int)) : Bool := @decide (Cvx l) (Classical.propDecidable _)
theorem convB_true {l : List (Int × Int)} (h : Cvx l) : convB l = true := by unfold convB; exact @decide_eq_true _ (Classical.propDecidable _) h
theorem convB_false {l : List (Int × Int)} (h : ¬ Cvx l) : convB l = false := by unfold convB; exact @decide_eq_false _ (Classical.propDecidable _) h
/-- the program's way: all turn as the first one does -/
def tB (l : List (Int × Int)) (i : Nat) : Int := twP (vx l (i + l.length - 1)) (vx l i) (vx l (i + 1))
theorem tB_tN {l : List (Int × Int)} (h0 : 0 < l.length) (i : Nat) : tB l i = tN l (i + l.length - 1) := by
  unfold tB tN
  rw [show i + l.length - 1 + 1 = i + l.length by omega, show i + l.length - 1 + 2 = i + 1 + l.length by omega, vx_addN, vx_addN]
theorem tN_add (l : List (Int × Int)) (i : Nat) : tN l (i + l.length) = tN l i := by
  unfold tN
  rw [show i + l.length + 1 = i + 1 + l.length by omega, show i + l.length + 2 = i + 2 + l.length by omega, vx_addN, vx_addN, vx_addN]
theorem tN_tB {l : List (Int × Int)} (h0 : 0 < l.length) (i : Nat) : tN l i = tB l (i + 1) := by
  rw [tB_tN h0, show i + 1 + l.length - 1 = i + l.length by omega, tN_add]
theorem tB_mod {l : List (Int × Int)} (h0 : 0 < l.length) (i : Nat) : tB l (i % l.length) = tB l i := by
  have e : ∀ q r, tB l (r + l.length * q) = tB l r := by
    intro q
    induction q with
    | zero => intro r; rfl
    | succ q ih =>
      intro r
      rw [← ih r, tB_tN h0, tB_tN h0, show r + l.length * (q + 1) + l.length - 1 = r + l.length * q + l.length - 1 + l.length by rw [Nat.mul_succ]; omega, tN_add]
  have := Nat.mod_add_div i l.length
  rw [← e (i / l.length) (i % l.length), this]
theorem tB_ne {l : List (Int × Int)} (hg : Good l) (i : Nat) : tB l i ≠ 0 := by
  rw [tB_tN (good_pos hg)]; exact good_turn hg _
theorem cvx_same {l : List (Int × Int)} (hg : Good l) (h : ∀ i, i < l.length → (0 < tB l i ↔ 0 < tB l 0)) : Cvx l := by
  have h0 := good_pos hg
  have all : ∀ i, 0 < tB l i ↔ 0 < tB l 0 := fun i => by rw [← tB_mod h0 i]; exact h _ (Nat.mod_lt _ h0)
  by_cases hp : 0 < tB l 0
  · have hl : leftAll l := fun i _ => by show 0 < tN l i; rw [tN_tB h0]; exact (all _).2 hp
    have ha := left_area hg hl
    intro i hi
    have := hl i hi
    change 0 < tN l i at this
    unfold sgn
    rw [if_pos ha, if_pos this]
  · have hl : rightAll l := fun i _ => by
      show tN l i < 0
      rw [tN_tB h0]
      have h1 := tB_ne hg (i + 1)
      have h2 := mt (all (i + 1)).1 hp
      omega
    have ha := right_area hg hl
    intro i hi
    have := hl i hi
    change tN l i < 0 at this
    unfold sgn
    rw [if_neg (by omega), if_pos this, if_neg (by omega), if_pos ha]
theorem same_cvx {l : List (Int × Int)} (hg : Good l) (h : Cvx l) (i : Nat) : 0 < tB l i ↔ 0 < tB l 0 := by
  have h0 := good_pos hg
  have all : ∀ i, sgn (tB l i) = sgn (areaN l) := by
    intro i
    rw [← tB_mod h0, tB_tN h0]
    have e : i % l.length + l.length - 1 = (i % l.length + l.length - 1) % l.length + l.length * ((i % l.length + l.length - 1) / l.length) := (Nat.mod_add_div _ _).symm
    have m : ∀ q r, tN l (r + l.length * q) = tN l r := by
      intro q
      induction q with
      | zero => intro r; rfl
      | succ q ih => intro r; rw [← ih r, show r + l.length * (q + 1) = r + l.length * q + l.length by rw [Nat.mul_succ]; omega, tN_add]
    rw [e, m]
    exact h _ (Nat.mod_lt _ h0)
  have e := (all i).trans (all 0).symm
  unfold sgn at e
  constructor
  · intro hp
    rw [if_pos hp] at e
    by_cases h1 : 0 < tB l 0
    · exact h1
    · rw [if_neg h1] at e; split at e <;> omega
  · intro hp
    rw [if_pos hp] at e
    by_cases h1 : 0 < tB l i
    · exact h1
    · rw [if_neg h1] at e; split at e <;> omega
end Go.Proofs.Ytieimijkkjhegaa
/- plain: where a point is; contract: the model's search -/
namespace Go.Proofs.Ytieimijkkjhegaa
open Go.ChangeShapes Go.WideShapes Go.ChangeAt Go.RowKit Go.Joins
set_option linter.unusedVariables false
set_option linter.unusedSimpArgs false
set_option maxRecDepth 4000
/-- where a point is: 1 inside, 0 on the lines, -1 otherwise -/
noncomputable def whN (l : List (Int × Int)) (p : Int × Int) : Int := @ite _ (MJ.Bd (vx l) p) (Classical.propDecidable _) 0 (if MJ.WN (vx l) l.length p = 0 then -1 else 1)
theorem whN_on {l : List (Int × Int)} {p : Int × Int} (h : MJ.Bd (vx l) p) : whN l p = 0 := by unfold whN; exact @if_pos _ (Classical.propDecidable _) h _ _ _
theorem whN_off {l : List (Int × Int)} {p : Int × Int} (h : ¬ MJ.Bd (vx l) p) : whN l p = if MJ.WN (vx l) l.length p = 0 then -1 else 1 := by unfold whN; exact @if_neg _ (Classical.propDecidable _) h _ _ _
def onE (l : List (Int × Int)) (p : Int × Int) (k : Nat) : Bool := onB (vx l k).1 (vx l k).2 (vx l (k + 1)).1 (vx l (k + 1)).2 p.1 p.2
theorem onE_bd {l : List (Int × Int)} {p : Int × Int} {k : Nat} (h : onE l p k = true) : MJ.Bd (vx l) p := ⟨k, (on_is _ _ _).1 h⟩
theorem off_bd {l : List (Int × Int)} {p : Int × Int} (h0 : 0 < l.length) (h : ∀ k, k < l.length → onE l p k = false) : ¬ MJ.Bd (vx l) p := by
  rintro ⟨k, hk⟩
  have e := h (k % l.length) (Nat.mod_lt _ h0)
  unfold onE at e
  rw [vx_per, vx_add1, ((on_is _ _ _).2 hk)] at e
  cases e
/-- a line's crossing -/
def crN (l : List (Int × Int)) (p : Int × Int) (k : Nat) : Int := MJ.cr (vx l k) (vx l (k + 1)) p
def xsN (l : List (Int × Int)) (p : Int × Int) (k : Nat) : Int := MJ.sm (fun j => crN l p j * crN l p j) k
def wnN (l : List (Int × Int)) (p : Int × Int) (k : Nat) : Int := MJ.sm (crN l p) k
theorem whN_wn {l : List (Int × Int)} {p : Int × Int} (h0 : 0 < l.length) (h : ∀ k, k < l.length → onE l p k = false) : whN l p = if wnN l p l.length = 0 then -1 else 1 := whN_off (off_bd h0 h)
theorem whN_xs {l : List (Int × Int)} {p : Int × Int} (hg : Good l) (h : ∀ k, k < l.length → onE l p k = false) : whN l p = if xsN l p l.length % 2 = 1 then 1 else -1 := by
  have hb := off_bd (good_pos hg) h
  rw [whN_off hb]
  have o := MJ.odd_iff (good_poly hg) hb
  change _ ↔ xsN l p l.length % 2 = 1 at o
  by_cases h1 : MJ.WN (vx l) l.length p = 0
  · rw [if_pos h1, if_neg (fun w => (o.2 w) h1)]
  · rw [if_neg h1, if_pos (o.1 h1)]
/-- the crossing as the model tells it -/
theorem cr_low {a b p : Int × Int} (h : a.2 ≤ b.2) : (MJ.cr a b p = 1 ↔ (a.2 ≤ p.2 ∧ p.2 < b.2 ∧ 0 < twP a b p)) ∧ (¬ (a.2 ≤ p.2 ∧ p.2 < b.2 ∧ 0 < twP a b p) → MJ.cr a b p = 0) := by
  rw [MJ.cr_up h, tw_is]
  by_cases c : a.2 ≤ p.2 ∧ p.2 < b.2 ∧ 0 < twP a b p
  · rw [if_pos c]; exact ⟨⟨fun _ => c, fun _ => rfl⟩, fun w => absurd c w⟩
  · rw [if_neg c]; exact ⟨⟨fun w => by omega, fun w => absurd w c⟩, fun _ => rfl⟩
theorem cr_high {a b p : Int × Int} (h : b.2 < a.2) : (MJ.cr a b p = -1 ↔ (b.2 ≤ p.2 ∧ p.2 < a.2 ∧ 0 < twP b a p)) ∧ (¬ (b.2 ≤ p.2 ∧ p.2 < a.2 ∧ 0 < twP b a p) → MJ.cr a b p = 0) := by
  have := cr_low (a := b) (b := a) (p := p) (by omega)
  rw [MJ.cr_swap a b p] at this
  constructor
  · rw [← this.1]; omega
  · intro w; have := this.2 w; omega
theorem xs_step1 {l : List (Int × Int)} {p : Int × Int} {k : Nat} (h : crN l p k = 1 ∨ crN l p k = -1) : decide (xsN l p (k + 1) % 2 = 1) = !decide (xsN l p k % 2 = 1) := by
  have e : xsN l p (k + 1) = xsN l p k + 1 := by
    show xsN l p k + crN l p k * crN l p k = _
    rcases h with h | h <;> rw [h] <;> rfl
  rw [e, Bool.eq_iff_iff]
  simp only [decide_eq_true_eq, Bool.not_eq_true', decide_eq_false_iff_not]
  omega
theorem xs_step0 {l : List (Int × Int)} {p : Int × Int} {k : Nat} (h : crN l p k = 0) : decide (xsN l p (k + 1) % 2 = 1) = decide (xsN l p k % 2 = 1) := by
  have e : xsN l p (k + 1) = xsN l p k := by
    show xsN l p k + crN l p k * crN l p k = _
    rw [h]; omega
  rw [e]
/-- two blocks of a point each are written anew -/
theorem two_set {wb wc : World} {g h : Nat} {a1 a2 b1 b2 : Int} {u1 u2 u3 u4 : Value} (hne : g ≠ h) (hg : wb.heap.size ≤ g) (hh : wb.heap.size ≤ h) (hB : Below wb.heap.size wb wc)
    (c1 : wc.cell? ⟨g, 0, none⟩ = some u1) (c2 : wc.cell? ⟨g, 1, none⟩ = some u2) (c3 : wc.cell? ⟨h, 0, none⟩ = some u3) (c4 : wc.cell? ⟨h, 1, none⟩ = some u4) :
    ∃ w4, w4 = (((wc.setCell ⟨g, 0, none⟩ (.int .i64 b1)).setCell ⟨g, 1, none⟩ (.int .i64 b2)).setCell ⟨h, 0, none⟩ (.int .i64 a1)).setCell ⟨h, 1, none⟩ (.int .i64 a2) ∧
      Below wb.heap.size wb w4 ∧ w4.heap.size = wc.heap.size ∧ w4.cell? ⟨g, 0, none⟩ = some (.int .i64 b1) ∧ w4.cell? ⟨g, 1, none⟩ = some (.int .i64 b2) ∧ w4.cell? ⟨h, 0, none⟩ = some (.int .i64 a1) ∧ w4.cell? ⟨h, 1, none⟩ = some (.int .i64 a2) ∧
      (∀ x o, x < wb.heap.size → w4.cell? ⟨x, o, none⟩ = wb.cell? ⟨x, o, none⟩) := by
  have ne : ∀ (W : World) (x y : Nat) (o o' : Nat) (v : Value), (x ≠ y ∨ o ≠ o') → (W.setCell ⟨x, o, none⟩ v).cell? ⟨y, o', none⟩ = W.cell? ⟨y, o', none⟩ := fun W x y o o' v h =>
    World.cell?_setCell_other W _ _ _ (fun e => by injection e with e1 e2; rcases h with h | h; exact h e1; exact h e2)
  have sm : ∀ (W : World) (x o : Nat) (u v : Value), W.cell? ⟨x, o, none⟩ = some u → (W.setCell ⟨x, o, none⟩ v).cell? ⟨x, o, none⟩ = some v := fun W x o u v h => World.cell?_setCell_same W _ _ h
  have B4 : Below wb.heap.size wb ((((wc.setCell ⟨g, 0, none⟩ (.int .i64 b1)).setCell ⟨g, 1, none⟩ (.int .i64 b2)).setCell ⟨h, 0, none⟩ (.int .i64 a1)).setCell ⟨h, 1, none⟩ (.int .i64 a2)) :=
    Below.setCell (Below.setCell (Below.setCell (Below.setCell hB hg _) hg _) hh _) hh _
  refine ⟨_, rfl, B4, by simp [World.setCell], ?_, ?_, ?_, ?_, fun x o hx => (bcell B4).1 x o hx⟩
  · rw [ne _ _ _ _ _ _ (.inl (Ne.symm hne)), ne _ _ _ _ _ _ (.inl (Ne.symm hne)), ne _ _ _ _ _ _ (.inr (by omega))]; exact sm _ _ _ _ _ c1
  · rw [ne _ _ _ _ _ _ (.inl (Ne.symm hne)), ne _ _ _ _ _ _ (.inl (Ne.symm hne))]; exact sm _ _ _ u2 _ (by rw [ne _ _ _ _ _ _ (.inr (by omega))]; exact c2)
  · rw [ne _ _ _ _ _ _ (.inr (by omega))]; exact sm _ _ _ u3 _ (by rw [ne _ _ _ _ _ _ (.inl hne), ne _ _ _ _ _ _ (.inl hne)]; exact c3)
  · exact sm _ _ _ u4 _ (by rw [ne _ _ _ _ _ _ (.inr (by omega)), ne _ _ _ _ _ _ (.inl hne), ne _ _ _ _ _ _ (.inl hne)]; exact c4)
end Go.Proofs.Ytieimijkkjhegaa
/- contracts: the model's IsPolygon; arePegs -/
namespace Go.Proofs.Ytieimijkkjhegaa
open Go.ChangeShapes Go.WideShapes Go.ChangeAt Go.RowKit Go.Joins
set_option linter.unusedVariables false
set_option linter.unusedSimpArgs false
set_option maxRecDepth 4000
/-- all of them are pegs -/
def pegsB (l : List (Int × Int)) : Bool := l.all isPg
theorem pegsB_iff (l : List (Int × Int)) : pegsB l = true ↔ ∀ i, i < l.length → isPg (vx l i) = true := by
  unfold pegsB
  rw [List.all_eq_true]
  constructor
  · intro h i hi
    exact h _ (List.mem_of_getElem? (vx_get hi))
  · intro h p hp
    obtain ⟨i, hi, rfl⟩ := List.mem_iff_getElem.1 hp
    have := h i hi
    have e := vx_get hi
    rw [List.getElem?_eq_getElem hi] at e
    injection e with e
    rw [e]; exact this
theorem arePegs_any (A : Option Addr) (c : Nat) (l : List (Int × Int)) (w : World) (hn : l.length ≤ 1048576) (hR : Rd w w.heap.size A l) :
    Calls Try.prog 109 #[.slice A l.length c] w fun e w' => e = .returned (.bool (pegsB l)) ∧ Below w.heap.size w w' := by
  have HR := Lib.hid hR
  clear hR
  have HI := Lib.hid (pegsB_iff l)
  have HF := Lib.hid (fun h : ¬ pegsB l = true => (by simpa using h : pegsB l = false))
  generalize hN : l.length = n at *
  have HN := Lib.hid hN
  clear hN
  go_enter Try.func109, Try.ntmps109
  go_wp2_with fail
  go_loopg [7] n (fun g i wr => ∃ k : Nat, k ≤ n ∧ g = n - k ∧ i = .int .i64 k ∧ Below w.heap.size w wr ∧ Hid (∀ j, j < k → isPg (vx l j) = true))
  case atStart => exact ⟨0, Nat.zero_le _, rfl, rfl, Below.refl _ _, Lib.hid (fun i h => absurd h (Nat.not_lt_zero _))⟩
  case round =>
    obtain ⟨k, hk, hg, rfl, hB, hF⟩ := hrel
    rename World => wo
    have HGK := Lib.hid hg
    clear hg
    by_cases hlt : k < n
    · obtain ⟨b, off, hA, hb, hcell⟩ := HR.out (by have := HN.out; omega)
      subst hA
      obtain ⟨hc1, hc2⟩ := hcell k _ (vx_get (by have := HN.out; omega))
      clear hcell HR
      have hq1 : wo.cell? ⟨b, off + k * 2, none⟩ = some (.int .i64 (vx l k).1) := (hB.cell (p := ⟨b, off + k * 2, none⟩) hb).trans hc1
      have hq2 : wo.cell? ⟨b, off + k * 2 + 1, none⟩ = some (.int .i64 (vx l k).2) := (hB.cell (p := ⟨b, off + k * 2 + 1, none⟩) hb).trans hc2
      clear hc1 hc2
      have K1 := Lib.hid (fun W => implIsPeg_any (vx l k).1 (vx l k).2 W)
      have hzB := hB.size
      by_cases hpg : isPegB (vx l k).1 (vx l k).2 = true
      · rw [hpg] at K1
        have hF2 : Hid (∀ j, j < k + 1 → isPg (vx l j) = true) := Lib.hid (fun j hj => by
          by_cases hjk : j = k
          · subst hjk; exact hpg
          · exact hF.out j (by omega))
        clear hpg hF
        go_wp2_with fail
        refine (K1.out _).mono ?_; rintro e w1 ⟨rfl, hb1⟩
        have B1 := (Below.alloc hB hzB (.cells #[.int .i64 (vx l k).1, .int .i64 (vx l k).2] 42)).trans (hb1.mono (by simp; omega))
        go_wp2_with fail
        go_roundg (n - (k + 1))
        case measure => have := HGK.out; omega
        case rel => exact ⟨k + 1, by omega, rfl, by go_num, B1, hF2⟩
      · have hpf : isPegB (vx l k).1 (vx l k).2 = false := by simpa using hpg
        rw [hpf] at K1
        have hng : Hid (pegsB l = false) := Lib.hid (HF.out (fun h => hpg (HI.out.1 h k (by have := HN.out; omega))))
        clear hpg hpf
        go_wp2_with fail
        refine (K1.out _).mono ?_; rintro e w1 ⟨rfl, hb1⟩
        have B1 := (Below.alloc hB hzB (.cells #[.int .i64 (vx l k).1, .int .i64 (vx l k).2] 42)).trans (hb1.mono (by simp; omega))
        go_wp2_with fail
        go_ret
        exact ⟨ret_bool hng.out.symm, B1⟩
    · have hkn : n = k := by omega
      subst hkn
      have hy : Hid (pegsB l = true) := Lib.hid (HI.out.2 (fun i hi => hF.out i (by have := HN.out; omega)))
      go_wp2_with fail
      go_ret
      exact ⟨ret_bool hy.out.symm, hB⟩
end Go.Proofs.Ytieimijkkjhegaa
/- contract: the corners of a polygon, each with both beside it -/
namespace Go.Proofs.Ytieimijkkjhegaa
open Go.ChangeShapes Go.WideShapes Go.ChangeAt Go.RowKit Go.Joins
set_option linter.unusedVariables false
set_option linter.unusedSimpArgs false
set_option maxRecDepth 4000
theorem corner_info : (Try.prog.info? 122).map (fun i => (i.zero, i.size, i.bytes)) = some (some (.agg #[.int .i64 0, .int .i64 0, .int .i64 0, .int .i64 0, .int .i64 0, .int .i64 0]), 6, 48) := by kernel_rfl
/-- a new block of n corners: the first k of them set -/
def SetC (w : World) (g n k : Nat) (l : List (Int × Int)) : Prop :=
  g < w.heap.size ∧ (∀ j, j < n * 6 → (∃ u, w.cell? ⟨g, j, none⟩ = some u) ∧ w.frozen? ⟨g, j, none⟩ = false) ∧
    ∀ i, i < k → w.cell? ⟨g, i * 6, none⟩ = some (.int .i64 (vx l i).1) ∧ w.cell? ⟨g, i * 6 + 1, none⟩ = some (.int .i64 (vx l i).2) ∧
      w.cell? ⟨g, i * 6 + 2, none⟩ = some (.int .i64 (vx l (i + n - 1)).1) ∧ w.cell? ⟨g, i * 6 + 3, none⟩ = some (.int .i64 (vx l (i + n - 1)).2) ∧
      w.cell? ⟨g, i * 6 + 4, none⟩ = some (.int .i64 (vx l (i + 1)).1) ∧ w.cell? ⟨g, i * 6 + 5, none⟩ = some (.int .i64 (vx l (i + 1)).2)
theorem setC_new (w : World) (t : TypeId) (n : Nat) (l : List (Int × Int)) : SetC (w.alloc (.cells (madeCells #[.int .i64 0, .int .i64 0, .int .i64 0, .int .i64 0, .int .i64 0, .int .i64 0] (n * 6)) t)) w.heap.size n 0 l := by
  have hs := size_madeCells #[.int .i64 0, .int .i64 0, .int .i64 0, .int .i64 0, .int .i64 0, .int .i64 0] (n * 6)
  refine ⟨by simp, fun j hj => ⟨⟨_, by rw [cell_of_row (w.alloc _) w.heap.size j _ t (0, 0) (heap_alloc_new w _)]; exact Array.getElem?_eq_getElem (by omega)⟩, ?_⟩, fun i h => absurd h (Nat.not_lt_zero _)⟩
  · rw [frozen?_alloc_cells]; simp [World.frozen?]
theorem setC_store {w : World} {g n k : Nat} {l : List (Int × Int)} (h : SetC w g n k l) (hk : k < n) (hl : l.length = n) :
    SetC ((((((w.setCell ⟨g, k * 6, none⟩ (.int .i64 (vx l k).1)).setCell ⟨g, k * 6 + 1, none⟩ (.int .i64 (vx l k).2)).setCell ⟨g, k * 6 + 2, none⟩ (.int .i64 (vx l ((k + n - 1) % n)).1)).setCell ⟨g, k * 6 + 3, none⟩ (.int .i64 (vx l ((k + n - 1) % n)).2)).setCell ⟨g, k * 6 + 4, none⟩ (.int .i64 (vx l ((k + 1) % n)).1)).setCell ⟨g, k * 6 + 5, none⟩ (.int .i64 (vx l ((k + 1) % n)).2)) g n (k + 1) l := by
  obtain ⟨h1, h2, h3⟩ := h
  have ne : ∀ (W : World) (o o' : Nat) (v : Value), o' ≠ o → (W.setCell ⟨g, o', none⟩ v).cell? ⟨g, o, none⟩ = W.cell? ⟨g, o, none⟩ := fun W o o' v h =>
    World.cell?_setCell_other W _ _ _ (fun e => h (by injection e))
  have sm : ∀ (W : World) (o : Nat) (v : Value), (∃ u, W.cell? ⟨g, o, none⟩ = some u) → (W.setCell ⟨g, o, none⟩ v).cell? ⟨g, o, none⟩ = some v := fun W o v ⟨u, h⟩ => World.cell?_setCell_same W _ _ h
  have ex : ∀ (W : World) (o : Nat) (v : Value), (∀ j, j < n * 6 → ∃ u, W.cell? ⟨g, j, none⟩ = some u) → ∀ j, j < n * 6 → ∃ u, (W.setCell ⟨g, o, none⟩ v).cell? ⟨g, j, none⟩ = some u := fun W o v h j hj => by
    obtain ⟨u, hu⟩ := h j hj
    exact cell?_setCell_some hu
  have x0 : ∀ j, j < n * 6 → ∃ u, w.cell? ⟨g, j, none⟩ = some u := fun j hj => (h2 j hj).1
  have x1 := ex _ (k * 6) (.int .i64 (vx l k).1) x0
  have x2 := ex _ (k * 6 + 1) (.int .i64 (vx l k).2) x1
  have x3 := ex _ (k * 6 + 2) (.int .i64 (vx l ((k + n - 1) % n)).1) x2
  have x4 := ex _ (k * 6 + 3) (.int .i64 (vx l ((k + n - 1) % n)).2) x3
  have x5 := ex _ (k * 6 + 4) (.int .i64 (vx l ((k + 1) % n)).1) x4
  have x6 := ex _ (k * 6 + 5) (.int .i64 (vx l ((k + 1) % n)).2) x5
  refine ⟨by simpa [World.setCell] using h1, fun j hj => ⟨x6 j hj, ?_⟩, fun i hi => ?_⟩
  · simp only [World.frozen?_setCell]; exact (h2 j hj).2
  · by_cases hik : i = k
    · subst hik
      have p1 : vx l ((i + n - 1) % n) = vx l (i + n - 1) := by rw [← hl, vx_per]
      have p2 : vx l ((i + 1) % n) = vx l (i + 1) := by rw [← hl, vx_per]
      refine ⟨?_, ?_, ?_, ?_, ?_, ?_⟩
      · rw [ne _ _ _ _ (by omega), ne _ _ _ _ (by omega), ne _ _ _ _ (by omega), ne _ _ _ _ (by omega), ne _ _ _ _ (by omega)]; exact sm _ _ _ (x0 _ (by omega))
      · rw [ne _ _ _ _ (by omega), ne _ _ _ _ (by omega), ne _ _ _ _ (by omega), ne _ _ _ _ (by omega)]; exact sm _ _ _ (x1 _ (by omega))
      · rw [ne _ _ _ _ (by omega), ne _ _ _ _ (by omega), ne _ _ _ _ (by omega), ← p1]; exact sm _ _ _ (x2 _ (by omega))
      · rw [ne _ _ _ _ (by omega), ne _ _ _ _ (by omega), ← p1]; exact sm _ _ _ (x3 _ (by omega))
      · rw [ne _ _ _ _ (by omega), ← p2]; exact sm _ _ _ (x4 _ (by omega))
      · rw [← p2]; exact sm _ _ _ (x5 _ (by omega))
    · have hlt : i < k := by omega
      have all : ∀ r, r < 6 → ((((((w.setCell ⟨g, k * 6, none⟩ (.int .i64 (vx l k).1)).setCell ⟨g, k * 6 + 1, none⟩ (.int .i64 (vx l k).2)).setCell ⟨g, k * 6 + 2, none⟩ (.int .i64 (vx l ((k + n - 1) % n)).1)).setCell ⟨g, k * 6 + 3, none⟩ (.int .i64 (vx l ((k + n - 1) % n)).2)).setCell ⟨g, k * 6 + 4, none⟩ (.int .i64 (vx l ((k + 1) % n)).1)).setCell ⟨g, k * 6 + 5, none⟩ (.int .i64 (vx l ((k + 1) % n)).2)).cell? ⟨g, i * 6 + r, none⟩ = w.cell? ⟨g, i * 6 + r, none⟩ := fun r hr => by
        rw [ne _ _ _ _ (by omega), ne _ _ _ _ (by omega), ne _ _ _ _ (by omega), ne _ _ _ _ (by omega), ne _ _ _ _ (by omega), ne _ _ _ _ (by omega)]
      obtain ⟨c0, c1, c2, c3, c4, c5⟩ := h3 i hlt
      exact ⟨(all 0 (by omega)).trans c0, (all 1 (by omega)).trans c1, (all 2 (by omega)).trans c2, (all 3 (by omega)).trans c3, (all 4 (by omega)).trans c4, (all 5 (by omega)).trans c5⟩
theorem setC_below {w w' : World} {g n k : Nat} {l : List (Int × Int)} (h : SetC w g n k l) (hb : Below w.heap.size w w') : SetC w' g n k l := by
  obtain ⟨h1, h2, h3⟩ := h
  have hc := (bcell hb).1
  have hf := (bcell hb).2
  have hz := hb.size
  exact ⟨by omega, fun j hj => by rw [hc _ _ h1, hf _ _ h1]; exact h2 j hj, fun i hi => by
    rw [hc _ _ h1, hc _ _ h1, hc _ _ h1, hc _ _ h1, hc _ _ h1, hc _ _ h1]; exact h3 i hi⟩
theorem setC_drew {w : World} {g n k : Nat} {l : List (Int × Int)} (h : SetC w g n k l) : SetC w.drew g n k l := h
set_option maxHeartbeats 2000000 in
theorem cornersAroundW_any (A : Option Addr) (c : Nat) (l : List (Int × Int)) (w : World) (h1 : 1 ≤ l.length) (hn : l.length ≤ 60) (hR : Rd w w.heap.size A l) :
    Calls Try.prog 114 #[.slice A l.length c] w fun e w' => e = .returned (.slice (some ⟨w.heap.size, 0, none⟩) l.length l.length) ∧ Below w.heap.size w w' ∧ SetC w' w.heap.size l.length l.length l := by
  obtain ⟨i0, hi0, hz0, hz1, hz2⟩ := info_parts corner_info
  have hmk := fun W => run_make (P := Try.prog) W 128 122 i0 _ Try.underlying128 hi0 hz0 .i64 .i64 (l.length : Int) (l.length : Int) (by omega) (by omega) (by rw [hz2]; omega) (by omega)
  obtain ⟨b, off, rfl, hb, hcell⟩ := hR (by omega)
  have hC : ∀ i, i < l.length → w.cell? ⟨b, off + i * 2, none⟩ = some (.int .i64 (vx l i).1) ∧ w.cell? ⟨b, off + i * 2 + 1, none⟩ = some (.int .i64 (vx l i).2) := fun i hi => hcell i _ (vx_get hi)
  have HC := Lib.hid hC
  clear hR hC hcell
  generalize hN : l.length = n at *
  have HN := Lib.hid hN
  clear hN
  go_enter Try.func114, Try.ntmps114
  go_wp2_with fail
  have hS0 := setC_new w 122 n l
  have hB0 : Below w.heap.size w (w.alloc (.cells (madeCells #[.int .i64 0, .int .i64 0, .int .i64 0, .int .i64 0, .int .i64 0, .int .i64 0] (n * 6)) 122)) := (Below.refl _ _).alloc (Nat.le_refl _) _
  go_loopg [13] n (fun g i wr => ∃ k : Nat, k ≤ n ∧ g = n - k ∧ i = .int .i64 k ∧ Below w.heap.size w wr ∧ Hid (SetC wr w.heap.size n k l))
  case atStart => exact ⟨0, Nat.zero_le _, rfl, rfl, hB0, Lib.hid hS0⟩
  case round =>
    obtain ⟨k, hk, hg, rfl, hB, hS⟩ := hrel
    rename World => wo
    have HGK := Lib.hid hg
    clear hg hS0 hB0 hmk
    by_cases hlt : k < n
    · have hq1 : wo.cell? ⟨b, off + k * 2, none⟩ = some (.int .i64 (vx l k).1) := (hB.cell (p := ⟨b, off + k * 2, none⟩) hb).trans (HC.out k hlt).1
      have hq2 : wo.cell? ⟨b, off + k * 2 + 1, none⟩ = some (.int .i64 (vx l k).2) := (hB.cell (p := ⟨b, off + k * 2 + 1, none⟩) hb).trans (HC.out k hlt).2
      have hzB := hB.size
      have hbo : b < wo.heap.size := by omega
      have hgo := hS.out.1
      have m1 : (k + n - 1) % n < n := Nat.mod_lt _ (by omega)
      have m2 : (k + 1) % n < n := Nat.mod_lt _ (by omega)
      have q3 := (hB.cell (p := ⟨b, off + (k + n - 1) % n * 2, none⟩) hb).trans (HC.out _ m1).1
      have q4 := (hB.cell (p := ⟨b, off + (k + n - 1) % n * 2 + 1, none⟩) hb).trans (HC.out _ m1).2
      have q5 := (hB.cell (p := ⟨b, off + (k + 1) % n * 2, none⟩) hb).trans (HC.out _ m2).1
      have q6 := (hB.cell (p := ⟨b, off + (k + 1) % n * 2 + 1, none⟩) hb).trans (HC.out _ m2).2
      have st : ∀ j, j < 6 → (∃ u, wo.cell? ⟨w.heap.size, k * 6 + j, none⟩ = some u) ∧ wo.frozen? ⟨w.heap.size, k * 6 + j, none⟩ = false := fun j hj => hS.out.2.1 _ (by omega)
      obtain ⟨⟨u0, a0⟩, f0⟩ := st 0 (by omega)
      obtain ⟨⟨u1, a1⟩, f1⟩ := st 1 (by omega)
      obtain ⟨⟨u2, a2⟩, f2⟩ := st 2 (by omega)
      obtain ⟨⟨u3, a3⟩, f3⟩ := st 3 (by omega)
      obtain ⟨⟨u4, a4⟩, f4⟩ := st 4 (by omega)
      obtain ⟨⟨u5, a5⟩, f5⟩ := st 5 (by omega)
      clear st
      simp only [Nat.add_zero] at a0 f0
      go_wp2_with fail
      have e1 : IntKind.i64.wrap ((k : Int) + (n : Int)) = (k : Int) + (n : Int) := IntWalk.i64_in _ (by omega)
      have e2 : IntKind.i64.wrap ((k : Int) + (n : Int) - 1) = (k : Int) + (n : Int) - 1 := IntWalk.i64_in _ (by omega)
      have e3 : IntKind.i64.wrap ((k : Int) + 1) = (k : Int) + 1 := IntWalk.i64_in _ (by omega)
      have e4 : ¬ n = 0 := by omega
      have e5 : (0 : Int) ≤ ((k : Int) + 1) % (n : Int) := Int.emod_nonneg _ (by omega)
      have e6 : ((k : Int) + 1) % (n : Int) < (n : Int) := Int.emod_lt_of_pos _ (by omega)
      have e7 : ((k : Int) + 1).tmod (n : Int) = ((k : Int) + 1) % (n : Int) := Int.tmod_eq_emod_of_nonneg (by omega)
      have e8 : (((k : Int) + 1) % (n : Int)).toNat = (k + 1) % n := by rw [show ((k : Int) + 1) % (n : Int) = (((k + 1) % n : Nat) : Int) by simp]; exact Int.toNat_natCast _
      have e9 : (0 : Int) ≤ ((k : Int) + (n : Int) - 1) % (n : Int) := Int.emod_nonneg _ (by omega)
      have e10 : ((k : Int) + (n : Int) - 1) % (n : Int) < (n : Int) := Int.emod_lt_of_pos _ (by omega)
      have e11 : ((k : Int) + (n : Int) - 1).tmod (n : Int) = ((k : Int) + (n : Int) - 1) % (n : Int) := Int.tmod_eq_emod_of_nonneg (by omega)
      have e12 : (((k : Int) + (n : Int) - 1) % (n : Int)).toNat = (k + n - 1) % n := by rw [show ((k : Int) + (n : Int) - 1) % (n : Int) = (((k + n - 1) % n : Nat) : Int) by rw [Int.natCast_emod]; congr 1; omega]; exact Int.toNat_natCast _
      obtain ⟨W2, hW2⟩ : ∃ W2, W2 = wo.alloc (.cells #[.int .i64 (vx l k).1, .int .i64 (vx l k).2] 42) := ⟨_, rfl⟩
      have al : ∀ b' o, b' < wo.heap.size → W2.cell? ⟨b', o, none⟩ = wo.cell? ⟨b', o, none⟩ := fun b' o h => by rw [hW2]; exact World.cell?_alloc_lt wo _ _ h
      have r1 : W2.cell? ⟨wo.heap.size, 0, none⟩ = some (.int .i64 (vx l k).1) := by rw [hW2]; go_simp
      have r2 : W2.cell? ⟨wo.heap.size, 1, none⟩ = some (.int .i64 (vx l k).2) := by rw [hW2]; go_simp
      have r3 := (al _ _ hbo).trans q3
      have r4 := (al _ _ hbo).trans q4
      have r5 := (al _ _ hbo).trans q5
      have r6 := (al _ _ hbo).trans q6
      have b0 := (al _ _ hgo).trans a0
      have b1 := (al _ _ hgo).trans a1
      have b2 := (al _ _ hgo).trans a2
      have b3 := (al _ _ hgo).trans a3
      have b4 := (al _ _ hgo).trans a4
      have b5 := (al _ _ hgo).trans a5
      have fz : ∀ o, W2.frozen? ⟨w.heap.size, o, none⟩ = wo.frozen? ⟨w.heap.size, o, none⟩ := fun o => by rw [hW2]; exact frozen?_alloc_cells _ _ _ _
      have g0 := (fz _).trans f0
      have g1 := (fz _).trans f1
      have g2 := (fz _).trans f2
      have g3 := (fz _).trans f3
      have g4 := (fz _).trans f4
      have g5 := (fz _).trans f5
      rw [← hW2]
      have HW2 := Lib.hid hW2
      clear hW2 al fz q3 q4 q5 q6 a0 a1 a2 a3 a4 a5 f0 f1 f2 f3 f4 f5 hq1 hq2
      refine wp_region_still_tail 21 (by kernel_rfl) (by kernel_rfl) ?_
      change wpStill _ _ W2.drew (fun a' => wpList _ _ _ _ a' W2.drew) _ _
      simp only [List.take_succ_cons, List.take_zero, List.drop_succ_cons, List.drop_zero]
      repeat still_step
      try refine wpStill_nil ?_
      clear e1 e2 e3 e4 e5 e6 e7 e8 e9 e10 e11 e12
      have B2 : Below w.heap.size w W2 := by rw [HW2.out]; exact Below.alloc hB hzB _
      have S2 : SetC W2 w.heap.size n k l := by rw [HW2.out]; exact setC_below hS.out (Below.alloc (Below.refl _ _) (Nat.le_refl _) _)
      have S3 := Lib.hid (setC_drew (setC_store S2 hlt HN.out))
      have B3 := Lib.hid (Below.drew (Below.setCell (Below.setCell (Below.setCell (Below.setCell (Below.setCell (Below.setCell B2 (p := ⟨w.heap.size, k * 6, none⟩) (Nat.le_refl _) (.int .i64 (vx l k).1)) (p := ⟨w.heap.size, k * 6 + 1, none⟩) (Nat.le_refl _) (.int .i64 (vx l k).2)) (p := ⟨w.heap.size, k * 6 + 2, none⟩) (Nat.le_refl _) (.int .i64 (vx l ((k + n - 1) % n)).1)) (p := ⟨w.heap.size, k * 6 + 3, none⟩) (Nat.le_refl _) (.int .i64 (vx l ((k + n - 1) % n)).2)) (p := ⟨w.heap.size, k * 6 + 4, none⟩) (Nat.le_refl _) (.int .i64 (vx l ((k + 1) % n)).1)) (p := ⟨w.heap.size, k * 6 + 5, none⟩) (Nat.le_refl _) (.int .i64 (vx l ((k + 1) % n)).2)))
      clear S2 hS
      go_wp2_with fail
      go_roundg (n - (k + 1))
      case measure => have := HGK.out; omega
      case rel => exact ⟨k + 1, by omega, rfl, by go_num, B3.out, S3⟩
    · have hkn : n = k := by omega
      subst hkn
      go_wp2_with fail
      go_ret
      exact ⟨rfl, hB, hS.out⟩
theorem cornersAround_any (A : Option Addr) (c : Nat) (l : List (Int × Int)) (w : World) (h1 : 1 ≤ l.length) (hn : l.length ≤ 10) (hR : Rd w w.heap.size A l) :
    Calls Try.prog 114 #[.slice A l.length c] w fun e w' => e = .returned (.slice (some ⟨w.heap.size, 0, none⟩) l.length l.length) ∧ Below w.heap.size w w' ∧ SetC w' w.heap.size l.length l.length l := cornersAroundW_any A c l w h1 (by omega) hR
end Go.Proofs.Ytieimijkkjhegaa
/- contracts: do two lines cross, do two lines meet, the program -/
namespace Go.Proofs.Ytieimijkkjhegaa
open Go.ChangeShapes Go.WideShapes Go.ChangeAt Go.RowKit Go.Joins
set_option linter.unusedVariables false
set_option linter.unusedSimpArgs false
set_option maxRecDepth 4000
theorem linesCross_any (a1 a2 b1 b2 c1 c2 d1 d2 : Int) (w : World) (pa : isPegB a1 a2 = true) (pb : isPegB b1 b2 = true) (pc : isPegB c1 c2 = true) (pd : isPegB d1 d2 = true) :
    Calls Try.prog 141 #[.agg #[.int .i64 a1, .int .i64 a2], .agg #[.int .i64 b1, .int .i64 b2], .agg #[.int .i64 c1, .int .i64 c2], .agg #[.int .i64 d1, .int .i64 d2]] w fun e w' => e = .returned (.bool (decide (twI a1 a2 b1 b2 c1 c2 * twI a1 a2 b1 b2 d1 d2 < 0) && decide (twI c1 c2 d1 d2 a1 a2 * twI c1 c2 d1 d2 b1 b2 < 0))) ∧ Below w.heap.size w w' := by
  have ha := sz_of pa
  have hb := sz_of pb
  have hc := sz_of pc
  have hd := sz_of pd
  have T1 := Lib.hid (fun W => twiceThree_any a1 a2 b1 b2 c1 c2 W ha hb hc)
  have T2 := Lib.hid (fun W => twiceThree_any a1 a2 b1 b2 d1 d2 W ha hb hd)
  have T3 := Lib.hid (fun W => twiceThree_any c1 c2 d1 d2 a1 a2 W hc hd ha)
  have T4 := Lib.hid (fun W => twiceThree_any c1 c2 d1 d2 b1 b2 W hc hd hb)
  have q1 := tw_bd40 pa pb pc
  have q2 := tw_bd40 pa pb pd
  have q3 := tw_bd40 pc pd pa
  have q4 := tw_bd40 pc pd pb
  clear ha hb hc hd pa pb pc pd
  generalize twI a1 a2 b1 b2 c1 c2 = t1 at *
  generalize twI a1 a2 b1 b2 d1 d2 = t2 at *
  generalize twI c1 c2 d1 d2 a1 a2 = t3 at *
  generalize twI c1 c2 d1 d2 b1 b2 = t4 at *
  have r1 := mul_bd (m := 12800) (n := 12800) q1.1 q1.2 q2.1 q2.2
  have r2 := mul_bd (m := 12800) (n := 12800) q3.1 q3.2 q4.1 q4.2
  obtain ⟨p1, p2⟩ := r1
  obtain ⟨p3, p4⟩ := r2
  have e1 : IntKind.i64.wrap (t1 * t2) = t1 * t2 := IntWalk.i64_in _ (by omega)
  have e2 : IntKind.i64.wrap (t3 * t4) = t3 * t4 := IntWalk.i64_in _ (by omega)
  go_enter Try.func141, Try.ntmps141
  go_wp2_with fail
  by_cases hm : t1 * t2 < 0
  · have hd := decide_eq_true hm
    refine wp_region_B (fun W => Below w.heap.size w W ∧ w.heap.size + 3 < W.heap.size ∧ W.cell? ⟨w.heap.size, 0, none⟩ = some (.int .i64 a1) ∧ W.cell? ⟨w.heap.size, 1, none⟩ = some (.int .i64 a2) ∧ W.cell? ⟨w.heap.size + 1, 0, none⟩ = some (.int .i64 b1) ∧ W.cell? ⟨w.heap.size + 1, 1, none⟩ = some (.int .i64 b2) ∧ W.cell? ⟨w.heap.size + 2, 0, none⟩ = some (.int .i64 c1) ∧ W.cell? ⟨w.heap.size + 2, 1, none⟩ = some (.int .i64 c2) ∧ W.cell? ⟨w.heap.size + 3, 0, none⟩ = some (.int .i64 d1) ∧ W.cell? ⟨w.heap.size + 3, 1, none⟩ = some (.int .i64 d2)) (by kernel_rfl) (held4 (box4 w _ a1 a2 b1 b2 c1 c2 d1 d2) ((Below.refl _ _).drew)) ?_
    first | refine wpB_skip 0 rfl (by kernel_rfl) (by kernel_rfl) (by kernel_rfl) (by rfl) ?_ | (refine wpB_text 0 (v := ?_) rfl (by kernel_rfl) (by kernel_rfl) (by kernel_rfl) (by rfl) (fun W hW => ?_) ?_; rotate_left; (obtain ⟨k1, k2, k3, k4, k5, k6, k7, k8, k9, k10⟩ := hW;  go_simp; refine comes_v ?_; exact ⟨k1, k2, k3, k4, k5, k6, k7, k8, k9, k10⟩))
    (try simp only [Act.put, List.setIfInBounds_toArray, List.set_cons_zero, List.set_cons_succ])
    first | refine wpB_skip 1 rfl (by kernel_rfl) (by kernel_rfl) (by kernel_rfl) (by rfl) ?_ | (refine wpB_text 1 (v := ?_) rfl (by kernel_rfl) (by kernel_rfl) (by kernel_rfl) (by rfl) (fun W hW => ?_) ?_; rotate_left; (obtain ⟨k1, k2, k3, k4, k5, k6, k7, k8, k9, k10⟩ := hW;  go_simp; refine comes_v ?_; exact ⟨k1, k2, k3, k4, k5, k6, k7, k8, k9, k10⟩))
    (try simp only [Act.put, List.setIfInBounds_toArray, List.set_cons_zero, List.set_cons_succ])
    first | refine wpB_skip 2 rfl (by kernel_rfl) (by kernel_rfl) (by kernel_rfl) (by rfl) ?_ | (refine wpB_text 2 (v := ?_) rfl (by kernel_rfl) (by kernel_rfl) (by kernel_rfl) (by rfl) (fun W hW => ?_) ?_; rotate_left; (obtain ⟨k1, k2, k3, k4, k5, k6, k7, k8, k9, k10⟩ := hW;  go_simp; refine comes_v ?_; exact ⟨k1, k2, k3, k4, k5, k6, k7, k8, k9, k10⟩))
    (try simp only [Act.put, List.setIfInBounds_toArray, List.set_cons_zero, List.set_cons_succ])
    first | refine wpB_skip 3 rfl (by kernel_rfl) (by kernel_rfl) (by kernel_rfl) (by rfl) ?_ | (refine wpB_text 3 (v := .int .i64 t1) rfl (by kernel_rfl) (by kernel_rfl) (by kernel_rfl) (by rfl) (fun W hW => ?_) ?_; (obtain ⟨k1, k2, k3, k4, k5, k6, k7, k8, k9, k10⟩ := hW;  go_simp; exact comes_c ( T1.out _) (fun wn hbn => held4 ⟨k1, k2, k3, k4, k5, k6, k7, k8, k9, k10⟩ hbn)))
    (try simp only [Act.put, List.setIfInBounds_toArray, List.set_cons_zero, List.set_cons_succ])
    first | refine wpB_skip 4 rfl (by kernel_rfl) (by kernel_rfl) (by kernel_rfl) (by rfl) ?_ | (refine wpB_text 4 (v := ?_) rfl (by kernel_rfl) (by kernel_rfl) (by kernel_rfl) (by rfl) (fun W hW => ?_) ?_; rotate_left; (obtain ⟨k1, k2, k3, k4, k5, k6, k7, k8, k9, k10⟩ := hW;  go_simp; refine comes_v ?_; exact ⟨k1, k2, k3, k4, k5, k6, k7, k8, k9, k10⟩))
    (try simp only [Act.put, List.setIfInBounds_toArray, List.set_cons_zero, List.set_cons_succ])
    first | refine wpB_skip 5 rfl (by kernel_rfl) (by kernel_rfl) (by kernel_rfl) (by rfl) ?_ | (refine wpB_text 5 (v := ?_) rfl (by kernel_rfl) (by kernel_rfl) (by kernel_rfl) (by rfl) (fun W hW => ?_) ?_; rotate_left; (obtain ⟨k1, k2, k3, k4, k5, k6, k7, k8, k9, k10⟩ := hW;  go_simp; refine comes_v ?_; exact ⟨k1, k2, k3, k4, k5, k6, k7, k8, k9, k10⟩))
    (try simp only [Act.put, List.setIfInBounds_toArray, List.set_cons_zero, List.set_cons_succ])
    first | refine wpB_skip 6 rfl (by kernel_rfl) (by kernel_rfl) (by kernel_rfl) (by rfl) ?_ | (refine wpB_text 6 (v := ?_) rfl (by kernel_rfl) (by kernel_rfl) (by kernel_rfl) (by rfl) (fun W hW => ?_) ?_; rotate_left; (obtain ⟨k1, k2, k3, k4, k5, k6, k7, k8, k9, k10⟩ := hW;  go_simp; refine comes_v ?_; exact ⟨k1, k2, k3, k4, k5, k6, k7, k8, k9, k10⟩))
    (try simp only [Act.put, List.setIfInBounds_toArray, List.set_cons_zero, List.set_cons_succ])
    first | refine wpB_skip 7 rfl (by kernel_rfl) (by kernel_rfl) (by kernel_rfl) (by rfl) ?_ | (refine wpB_text 7 (v := .int .i64 t2) rfl (by kernel_rfl) (by kernel_rfl) (by kernel_rfl) (by rfl) (fun W hW => ?_) ?_; (obtain ⟨k1, k2, k3, k4, k5, k6, k7, k8, k9, k10⟩ := hW;  go_simp; exact comes_c ( T2.out _) (fun wn hbn => held4 ⟨k1, k2, k3, k4, k5, k6, k7, k8, k9, k10⟩ hbn)))
    (try simp only [Act.put, List.setIfInBounds_toArray, List.set_cons_zero, List.set_cons_succ])
    first | refine wpB_skip 8 rfl (by kernel_rfl) (by kernel_rfl) (by kernel_rfl) (by rfl) ?_ | (refine wpB_text 8 (v := ?_) rfl (by kernel_rfl) (by kernel_rfl) (by kernel_rfl) (by rfl) (fun W hW => ?_) ?_; rotate_left; (obtain ⟨k1, k2, k3, k4, k5, k6, k7, k8, k9, k10⟩ := hW;  go_simp; refine comes_v ?_; exact ⟨k1, k2, k3, k4, k5, k6, k7, k8, k9, k10⟩))
    (try simp only [Act.put, List.setIfInBounds_toArray, List.set_cons_zero, List.set_cons_succ])
    first | refine wpB_skip 9 rfl (by kernel_rfl) (by kernel_rfl) (by kernel_rfl) (by rfl) ?_ | (refine wpB_text 9 (v := ?_) rfl (by kernel_rfl) (by kernel_rfl) (by kernel_rfl) (by rfl) (fun W hW => ?_) ?_; rotate_left; (obtain ⟨k1, k2, k3, k4, k5, k6, k7, k8, k9, k10⟩ := hW;  go_simp; refine comes_v ?_; exact ⟨k1, k2, k3, k4, k5, k6, k7, k8, k9, k10⟩))
    (try simp only [Act.put, List.setIfInBounds_toArray, List.set_cons_zero, List.set_cons_succ])
    first | refine wpB_skip 10 rfl (by kernel_rfl) (by kernel_rfl) (by kernel_rfl) (by rfl) ?_ | (refine wpB_text 10 (v := ?_) rfl (by kernel_rfl) (by kernel_rfl) (by kernel_rfl) (by rfl) (fun W hW => ?_) ?_; rotate_left; (obtain ⟨k1, k2, k3, k4, k5, k6, k7, k8, k9, k10⟩ := hW;  go_simp; refine comes_v ?_; exact ⟨k1, k2, k3, k4, k5, k6, k7, k8, k9, k10⟩))
    (try simp only [Act.put, List.setIfInBounds_toArray, List.set_cons_zero, List.set_cons_succ])
    first | refine wpB_skip 11 rfl (by kernel_rfl) (by kernel_rfl) (by kernel_rfl) (by rfl) ?_ | (refine wpB_text 11 (v := ?_) rfl (by kernel_rfl) (by kernel_rfl) (by kernel_rfl) (by rfl) (fun W hW => ?_) ?_; rotate_left; (obtain ⟨k1, k2, k3, k4, k5, k6, k7, k8, k9, k10⟩ := hW;  go_simp; refine comes_v ?_; exact ⟨k1, k2, k3, k4, k5, k6, k7, k8, k9, k10⟩))
    (try simp only [Act.put, List.setIfInBounds_toArray, List.set_cons_zero, List.set_cons_succ])
    first | refine wpB_skip 12 rfl (by kernel_rfl) (by kernel_rfl) (by kernel_rfl) (by rfl) ?_ | (refine wpB_text 12 (v := ?_) rfl (by kernel_rfl) (by kernel_rfl) (by kernel_rfl) (by rfl) (fun W hW => ?_) ?_; rotate_left; (obtain ⟨k1, k2, k3, k4, k5, k6, k7, k8, k9, k10⟩ := hW;  go_simp; refine comes_v ?_; exact ⟨k1, k2, k3, k4, k5, k6, k7, k8, k9, k10⟩))
    (try simp only [Act.put, List.setIfInBounds_toArray, List.set_cons_zero, List.set_cons_succ])
    first | refine wpB_skip 13 rfl (by kernel_rfl) (by kernel_rfl) (by kernel_rfl) (by rfl) ?_ | (refine wpB_text 13 (v := ?_) rfl (by kernel_rfl) (by kernel_rfl) (by kernel_rfl) (by rfl) (fun W hW => ?_) ?_; rotate_left; (obtain ⟨k1, k2, k3, k4, k5, k6, k7, k8, k9, k10⟩ := hW;  go_simp; refine comes_v ?_; exact ⟨k1, k2, k3, k4, k5, k6, k7, k8, k9, k10⟩))
    (try simp only [Act.put, List.setIfInBounds_toArray, List.set_cons_zero, List.set_cons_succ])
    first | refine wpB_skip 14 rfl (by kernel_rfl) (by kernel_rfl) (by kernel_rfl) (by rfl) ?_ | (refine wpB_text 14 (v := .int .i64 t3) rfl (by kernel_rfl) (by kernel_rfl) (by kernel_rfl) (by rfl) (fun W hW => ?_) ?_; (obtain ⟨k1, k2, k3, k4, k5, k6, k7, k8, k9, k10⟩ := hW;  go_simp; exact comes_c ( T3.out _) (fun wn hbn => held4 ⟨k1, k2, k3, k4, k5, k6, k7, k8, k9, k10⟩ hbn)))
    (try simp only [Act.put, List.setIfInBounds_toArray, List.set_cons_zero, List.set_cons_succ])
    first | refine wpB_skip 15 rfl (by kernel_rfl) (by kernel_rfl) (by kernel_rfl) (by rfl) ?_ | (refine wpB_text 15 (v := ?_) rfl (by kernel_rfl) (by kernel_rfl) (by kernel_rfl) (by rfl) (fun W hW => ?_) ?_; rotate_left; (obtain ⟨k1, k2, k3, k4, k5, k6, k7, k8, k9, k10⟩ := hW;  go_simp; refine comes_v ?_; exact ⟨k1, k2, k3, k4, k5, k6, k7, k8, k9, k10⟩))
    (try simp only [Act.put, List.setIfInBounds_toArray, List.set_cons_zero, List.set_cons_succ])
    first | refine wpB_skip 16 rfl (by kernel_rfl) (by kernel_rfl) (by kernel_rfl) (by rfl) ?_ | (refine wpB_text 16 (v := ?_) rfl (by kernel_rfl) (by kernel_rfl) (by kernel_rfl) (by rfl) (fun W hW => ?_) ?_; rotate_left; (obtain ⟨k1, k2, k3, k4, k5, k6, k7, k8, k9, k10⟩ := hW;  go_simp; refine comes_v ?_; exact ⟨k1, k2, k3, k4, k5, k6, k7, k8, k9, k10⟩))
    (try simp only [Act.put, List.setIfInBounds_toArray, List.set_cons_zero, List.set_cons_succ])
    first | refine wpB_skip 17 rfl (by kernel_rfl) (by kernel_rfl) (by kernel_rfl) (by rfl) ?_ | (refine wpB_text 17 (v := ?_) rfl (by kernel_rfl) (by kernel_rfl) (by kernel_rfl) (by rfl) (fun W hW => ?_) ?_; rotate_left; (obtain ⟨k1, k2, k3, k4, k5, k6, k7, k8, k9, k10⟩ := hW;  go_simp; refine comes_v ?_; exact ⟨k1, k2, k3, k4, k5, k6, k7, k8, k9, k10⟩))
    (try simp only [Act.put, List.setIfInBounds_toArray, List.set_cons_zero, List.set_cons_succ])
    first | refine wpB_skip 18 rfl (by kernel_rfl) (by kernel_rfl) (by kernel_rfl) (by rfl) ?_ | (refine wpB_text 18 (v := .int .i64 t4) rfl (by kernel_rfl) (by kernel_rfl) (by kernel_rfl) (by rfl) (fun W hW => ?_) ?_; (obtain ⟨k1, k2, k3, k4, k5, k6, k7, k8, k9, k10⟩ := hW;  go_simp; exact comes_c ( T4.out _) (fun wn hbn => held4 ⟨k1, k2, k3, k4, k5, k6, k7, k8, k9, k10⟩ hbn)))
    (try simp only [Act.put, List.setIfInBounds_toArray, List.set_cons_zero, List.set_cons_succ])
    first | refine wpB_skip 19 rfl (by kernel_rfl) (by kernel_rfl) (by kernel_rfl) (by rfl) ?_ | (refine wpB_text 19 (v := ?_) rfl (by kernel_rfl) (by kernel_rfl) (by kernel_rfl) (by rfl) (fun W hW => ?_) ?_; rotate_left; (obtain ⟨k1, k2, k3, k4, k5, k6, k7, k8, k9, k10⟩ := hW;  go_simp; refine comes_v ?_; exact ⟨k1, k2, k3, k4, k5, k6, k7, k8, k9, k10⟩))
    (try simp only [Act.put, List.setIfInBounds_toArray, List.set_cons_zero, List.set_cons_succ])
    first | refine wpB_skip 20 rfl (by kernel_rfl) (by kernel_rfl) (by kernel_rfl) (by rfl) ?_ | (refine wpB_text 20 (v := ?_) rfl (by kernel_rfl) (by kernel_rfl) (by kernel_rfl) (by rfl) (fun W hW => ?_) ?_; rotate_left; (obtain ⟨k1, k2, k3, k4, k5, k6, k7, k8, k9, k10⟩ := hW;  go_simp; refine comes_v ?_; exact ⟨k1, k2, k3, k4, k5, k6, k7, k8, k9, k10⟩))
    (try simp only [Act.put, List.setIfInBounds_toArray, List.set_cons_zero, List.set_cons_succ])
    first | refine wpB_skip 21 rfl (by kernel_rfl) (by kernel_rfl) (by kernel_rfl) (by rfl) ?_ | (refine wpB_text 21 (v := ?_) rfl (by kernel_rfl) (by kernel_rfl) (by kernel_rfl) (by rfl) (fun W hW => ?_) ?_; rotate_left; (obtain ⟨k1, k2, k3, k4, k5, k6, k7, k8, k9, k10⟩ := hW;  go_simp; refine comes_v ?_; exact ⟨k1, k2, k3, k4, k5, k6, k7, k8, k9, k10⟩))
    (try simp only [Act.put, List.setIfInBounds_toArray, List.set_cons_zero, List.set_cons_succ])
    first | refine wpB_skip 22 rfl (by kernel_rfl) (by kernel_rfl) (by kernel_rfl) (by rfl) ?_ | (refine wpB_text 22 (v := ?_) rfl (by kernel_rfl) (by kernel_rfl) (by kernel_rfl) (by rfl) (fun W hW => ?_) ?_; rotate_left; (obtain ⟨k1, k2, k3, k4, k5, k6, k7, k8, k9, k10⟩ := hW;  go_simp; refine comes_v ?_; exact ⟨k1, k2, k3, k4, k5, k6, k7, k8, k9, k10⟩))
    (try simp only [Act.put, List.setIfInBounds_toArray, List.set_cons_zero, List.set_cons_succ])
    refine wpB_done (by kernel_rfl) ?_ _
    intro W hW; obtain ⟨k1, k2, k3, k4, k5, k6, k7, k8, k9, k10⟩ := hW
    clear e1 e2
    go_wp2_with fail
    go_ret
    exact ⟨ret_bool (by simp [hm]), k1⟩
  · have hd := decide_eq_false hm
    refine wp_region_B (fun W => Below w.heap.size w W ∧ w.heap.size + 3 < W.heap.size ∧ W.cell? ⟨w.heap.size, 0, none⟩ = some (.int .i64 a1) ∧ W.cell? ⟨w.heap.size, 1, none⟩ = some (.int .i64 a2) ∧ W.cell? ⟨w.heap.size + 1, 0, none⟩ = some (.int .i64 b1) ∧ W.cell? ⟨w.heap.size + 1, 1, none⟩ = some (.int .i64 b2) ∧ W.cell? ⟨w.heap.size + 2, 0, none⟩ = some (.int .i64 c1) ∧ W.cell? ⟨w.heap.size + 2, 1, none⟩ = some (.int .i64 c2) ∧ W.cell? ⟨w.heap.size + 3, 0, none⟩ = some (.int .i64 d1) ∧ W.cell? ⟨w.heap.size + 3, 1, none⟩ = some (.int .i64 d2)) (by kernel_rfl) (held4 (box4 w _ a1 a2 b1 b2 c1 c2 d1 d2) ((Below.refl _ _).drew)) ?_
    first | refine wpB_skip 0 rfl (by kernel_rfl) (by kernel_rfl) (by kernel_rfl) (by rfl) ?_ | (refine wpB_text 0 (v := ?_) rfl (by kernel_rfl) (by kernel_rfl) (by kernel_rfl) (by rfl) (fun W hW => ?_) ?_; rotate_left; (obtain ⟨k1, k2, k3, k4, k5, k6, k7, k8, k9, k10⟩ := hW;  go_simp; refine comes_v ?_; exact ⟨k1, k2, k3, k4, k5, k6, k7, k8, k9, k10⟩))
    (try simp only [Act.put, List.setIfInBounds_toArray, List.set_cons_zero, List.set_cons_succ])
    first | refine wpB_skip 1 rfl (by kernel_rfl) (by kernel_rfl) (by kernel_rfl) (by rfl) ?_ | (refine wpB_text 1 (v := ?_) rfl (by kernel_rfl) (by kernel_rfl) (by kernel_rfl) (by rfl) (fun W hW => ?_) ?_; rotate_left; (obtain ⟨k1, k2, k3, k4, k5, k6, k7, k8, k9, k10⟩ := hW;  go_simp; refine comes_v ?_; exact ⟨k1, k2, k3, k4, k5, k6, k7, k8, k9, k10⟩))
    (try simp only [Act.put, List.setIfInBounds_toArray, List.set_cons_zero, List.set_cons_succ])
    first | refine wpB_skip 2 rfl (by kernel_rfl) (by kernel_rfl) (by kernel_rfl) (by rfl) ?_ | (refine wpB_text 2 (v := ?_) rfl (by kernel_rfl) (by kernel_rfl) (by kernel_rfl) (by rfl) (fun W hW => ?_) ?_; rotate_left; (obtain ⟨k1, k2, k3, k4, k5, k6, k7, k8, k9, k10⟩ := hW;  go_simp; refine comes_v ?_; exact ⟨k1, k2, k3, k4, k5, k6, k7, k8, k9, k10⟩))
    (try simp only [Act.put, List.setIfInBounds_toArray, List.set_cons_zero, List.set_cons_succ])
    first | refine wpB_skip 3 rfl (by kernel_rfl) (by kernel_rfl) (by kernel_rfl) (by rfl) ?_ | (refine wpB_text 3 (v := .int .i64 t1) rfl (by kernel_rfl) (by kernel_rfl) (by kernel_rfl) (by rfl) (fun W hW => ?_) ?_; (obtain ⟨k1, k2, k3, k4, k5, k6, k7, k8, k9, k10⟩ := hW;  go_simp; exact comes_c ( T1.out _) (fun wn hbn => held4 ⟨k1, k2, k3, k4, k5, k6, k7, k8, k9, k10⟩ hbn)))
    (try simp only [Act.put, List.setIfInBounds_toArray, List.set_cons_zero, List.set_cons_succ])
    first | refine wpB_skip 4 rfl (by kernel_rfl) (by kernel_rfl) (by kernel_rfl) (by rfl) ?_ | (refine wpB_text 4 (v := ?_) rfl (by kernel_rfl) (by kernel_rfl) (by kernel_rfl) (by rfl) (fun W hW => ?_) ?_; rotate_left; (obtain ⟨k1, k2, k3, k4, k5, k6, k7, k8, k9, k10⟩ := hW;  go_simp; refine comes_v ?_; exact ⟨k1, k2, k3, k4, k5, k6, k7, k8, k9, k10⟩))
    (try simp only [Act.put, List.setIfInBounds_toArray, List.set_cons_zero, List.set_cons_succ])
    first | refine wpB_skip 5 rfl (by kernel_rfl) (by kernel_rfl) (by kernel_rfl) (by rfl) ?_ | (refine wpB_text 5 (v := ?_) rfl (by kernel_rfl) (by kernel_rfl) (by kernel_rfl) (by rfl) (fun W hW => ?_) ?_; rotate_left; (obtain ⟨k1, k2, k3, k4, k5, k6, k7, k8, k9, k10⟩ := hW;  go_simp; refine comes_v ?_; exact ⟨k1, k2, k3, k4, k5, k6, k7, k8, k9, k10⟩))
    (try simp only [Act.put, List.setIfInBounds_toArray, List.set_cons_zero, List.set_cons_succ])
    first | refine wpB_skip 6 rfl (by kernel_rfl) (by kernel_rfl) (by kernel_rfl) (by rfl) ?_ | (refine wpB_text 6 (v := ?_) rfl (by kernel_rfl) (by kernel_rfl) (by kernel_rfl) (by rfl) (fun W hW => ?_) ?_; rotate_left; (obtain ⟨k1, k2, k3, k4, k5, k6, k7, k8, k9, k10⟩ := hW;  go_simp; refine comes_v ?_; exact ⟨k1, k2, k3, k4, k5, k6, k7, k8, k9, k10⟩))
    (try simp only [Act.put, List.setIfInBounds_toArray, List.set_cons_zero, List.set_cons_succ])
    first | refine wpB_skip 7 rfl (by kernel_rfl) (by kernel_rfl) (by kernel_rfl) (by rfl) ?_ | (refine wpB_text 7 (v := .int .i64 t2) rfl (by kernel_rfl) (by kernel_rfl) (by kernel_rfl) (by rfl) (fun W hW => ?_) ?_; (obtain ⟨k1, k2, k3, k4, k5, k6, k7, k8, k9, k10⟩ := hW;  go_simp; exact comes_c ( T2.out _) (fun wn hbn => held4 ⟨k1, k2, k3, k4, k5, k6, k7, k8, k9, k10⟩ hbn)))
    (try simp only [Act.put, List.setIfInBounds_toArray, List.set_cons_zero, List.set_cons_succ])
    first | refine wpB_skip 8 rfl (by kernel_rfl) (by kernel_rfl) (by kernel_rfl) (by rfl) ?_ | (refine wpB_text 8 (v := ?_) rfl (by kernel_rfl) (by kernel_rfl) (by kernel_rfl) (by rfl) (fun W hW => ?_) ?_; rotate_left; (obtain ⟨k1, k2, k3, k4, k5, k6, k7, k8, k9, k10⟩ := hW;  go_simp; refine comes_v ?_; exact ⟨k1, k2, k3, k4, k5, k6, k7, k8, k9, k10⟩))
    (try simp only [Act.put, List.setIfInBounds_toArray, List.set_cons_zero, List.set_cons_succ])
    first | refine wpB_skip 9 rfl (by kernel_rfl) (by kernel_rfl) (by kernel_rfl) (by rfl) ?_ | (refine wpB_text 9 (v := ?_) rfl (by kernel_rfl) (by kernel_rfl) (by kernel_rfl) (by rfl) (fun W hW => ?_) ?_; rotate_left; (obtain ⟨k1, k2, k3, k4, k5, k6, k7, k8, k9, k10⟩ := hW;  go_simp; refine comes_v ?_; exact ⟨k1, k2, k3, k4, k5, k6, k7, k8, k9, k10⟩))
    (try simp only [Act.put, List.setIfInBounds_toArray, List.set_cons_zero, List.set_cons_succ])
    first | refine wpB_skip 10 rfl (by kernel_rfl) (by kernel_rfl) (by kernel_rfl) (by rfl) ?_ | (refine wpB_text 10 (v := ?_) rfl (by kernel_rfl) (by kernel_rfl) (by kernel_rfl) (by rfl) (fun W hW => ?_) ?_; rotate_left; (obtain ⟨k1, k2, k3, k4, k5, k6, k7, k8, k9, k10⟩ := hW;  go_simp; refine comes_v ?_; exact ⟨k1, k2, k3, k4, k5, k6, k7, k8, k9, k10⟩))
    (try simp only [Act.put, List.setIfInBounds_toArray, List.set_cons_zero, List.set_cons_succ])
    first | refine wpB_skip 11 rfl (by kernel_rfl) (by kernel_rfl) (by kernel_rfl) (by rfl) ?_ | (refine wpB_text 11 (v := ?_) rfl (by kernel_rfl) (by kernel_rfl) (by kernel_rfl) (by rfl) (fun W hW => ?_) ?_; rotate_left; (obtain ⟨k1, k2, k3, k4, k5, k6, k7, k8, k9, k10⟩ := hW;  go_simp; refine comes_v ?_; exact ⟨k1, k2, k3, k4, k5, k6, k7, k8, k9, k10⟩))
    (try simp only [Act.put, List.setIfInBounds_toArray, List.set_cons_zero, List.set_cons_succ])
    first | refine wpB_skip 12 rfl (by kernel_rfl) (by kernel_rfl) (by kernel_rfl) (by rfl) ?_ | (refine wpB_text 12 (v := ?_) rfl (by kernel_rfl) (by kernel_rfl) (by kernel_rfl) (by rfl) (fun W hW => ?_) ?_; rotate_left; (obtain ⟨k1, k2, k3, k4, k5, k6, k7, k8, k9, k10⟩ := hW;  go_simp; refine comes_v ?_; exact ⟨k1, k2, k3, k4, k5, k6, k7, k8, k9, k10⟩))
    (try simp only [Act.put, List.setIfInBounds_toArray, List.set_cons_zero, List.set_cons_succ])
    first | refine wpB_skip 13 rfl (by kernel_rfl) (by kernel_rfl) (by kernel_rfl) (by rfl) ?_ | (refine wpB_text 13 (v := ?_) rfl (by kernel_rfl) (by kernel_rfl) (by kernel_rfl) (by rfl) (fun W hW => ?_) ?_; rotate_left; (obtain ⟨k1, k2, k3, k4, k5, k6, k7, k8, k9, k10⟩ := hW;  go_simp; refine comes_v ?_; exact ⟨k1, k2, k3, k4, k5, k6, k7, k8, k9, k10⟩))
    (try simp only [Act.put, List.setIfInBounds_toArray, List.set_cons_zero, List.set_cons_succ])
    first | refine wpB_skip 14 rfl (by kernel_rfl) (by kernel_rfl) (by kernel_rfl) (by rfl) ?_ | (refine wpB_text 14 (v := .int .i64 t3) rfl (by kernel_rfl) (by kernel_rfl) (by kernel_rfl) (by rfl) (fun W hW => ?_) ?_; (obtain ⟨k1, k2, k3, k4, k5, k6, k7, k8, k9, k10⟩ := hW;  go_simp; exact comes_c ( T3.out _) (fun wn hbn => held4 ⟨k1, k2, k3, k4, k5, k6, k7, k8, k9, k10⟩ hbn)))
    (try simp only [Act.put, List.setIfInBounds_toArray, List.set_cons_zero, List.set_cons_succ])
    first | refine wpB_skip 15 rfl (by kernel_rfl) (by kernel_rfl) (by kernel_rfl) (by rfl) ?_ | (refine wpB_text 15 (v := ?_) rfl (by kernel_rfl) (by kernel_rfl) (by kernel_rfl) (by rfl) (fun W hW => ?_) ?_; rotate_left; (obtain ⟨k1, k2, k3, k4, k5, k6, k7, k8, k9, k10⟩ := hW;  go_simp; refine comes_v ?_; exact ⟨k1, k2, k3, k4, k5, k6, k7, k8, k9, k10⟩))
    (try simp only [Act.put, List.setIfInBounds_toArray, List.set_cons_zero, List.set_cons_succ])
    first | refine wpB_skip 16 rfl (by kernel_rfl) (by kernel_rfl) (by kernel_rfl) (by rfl) ?_ | (refine wpB_text 16 (v := ?_) rfl (by kernel_rfl) (by kernel_rfl) (by kernel_rfl) (by rfl) (fun W hW => ?_) ?_; rotate_left; (obtain ⟨k1, k2, k3, k4, k5, k6, k7, k8, k9, k10⟩ := hW;  go_simp; refine comes_v ?_; exact ⟨k1, k2, k3, k4, k5, k6, k7, k8, k9, k10⟩))
    (try simp only [Act.put, List.setIfInBounds_toArray, List.set_cons_zero, List.set_cons_succ])
    first | refine wpB_skip 17 rfl (by kernel_rfl) (by kernel_rfl) (by kernel_rfl) (by rfl) ?_ | (refine wpB_text 17 (v := ?_) rfl (by kernel_rfl) (by kernel_rfl) (by kernel_rfl) (by rfl) (fun W hW => ?_) ?_; rotate_left; (obtain ⟨k1, k2, k3, k4, k5, k6, k7, k8, k9, k10⟩ := hW;  go_simp; refine comes_v ?_; exact ⟨k1, k2, k3, k4, k5, k6, k7, k8, k9, k10⟩))
    (try simp only [Act.put, List.setIfInBounds_toArray, List.set_cons_zero, List.set_cons_succ])
    first | refine wpB_skip 18 rfl (by kernel_rfl) (by kernel_rfl) (by kernel_rfl) (by rfl) ?_ | (refine wpB_text 18 (v := .int .i64 t4) rfl (by kernel_rfl) (by kernel_rfl) (by kernel_rfl) (by rfl) (fun W hW => ?_) ?_; (obtain ⟨k1, k2, k3, k4, k5, k6, k7, k8, k9, k10⟩ := hW;  go_simp; exact comes_c ( T4.out _) (fun wn hbn => held4 ⟨k1, k2, k3, k4, k5, k6, k7, k8, k9, k10⟩ hbn)))
    (try simp only [Act.put, List.setIfInBounds_toArray, List.set_cons_zero, List.set_cons_succ])
    first | refine wpB_skip 19 rfl (by kernel_rfl) (by kernel_rfl) (by kernel_rfl) (by rfl) ?_ | (refine wpB_text 19 (v := ?_) rfl (by kernel_rfl) (by kernel_rfl) (by kernel_rfl) (by rfl) (fun W hW => ?_) ?_; rotate_left; (obtain ⟨k1, k2, k3, k4, k5, k6, k7, k8, k9, k10⟩ := hW;  go_simp; refine comes_v ?_; exact ⟨k1, k2, k3, k4, k5, k6, k7, k8, k9, k10⟩))
    (try simp only [Act.put, List.setIfInBounds_toArray, List.set_cons_zero, List.set_cons_succ])
    first | refine wpB_skip 20 rfl (by kernel_rfl) (by kernel_rfl) (by kernel_rfl) (by rfl) ?_ | (refine wpB_text 20 (v := ?_) rfl (by kernel_rfl) (by kernel_rfl) (by kernel_rfl) (by rfl) (fun W hW => ?_) ?_; rotate_left; (obtain ⟨k1, k2, k3, k4, k5, k6, k7, k8, k9, k10⟩ := hW;  go_simp; refine comes_v ?_; exact ⟨k1, k2, k3, k4, k5, k6, k7, k8, k9, k10⟩))
    (try simp only [Act.put, List.setIfInBounds_toArray, List.set_cons_zero, List.set_cons_succ])
    first | refine wpB_skip 21 rfl (by kernel_rfl) (by kernel_rfl) (by kernel_rfl) (by rfl) ?_ | (refine wpB_text 21 (v := ?_) rfl (by kernel_rfl) (by kernel_rfl) (by kernel_rfl) (by rfl) (fun W hW => ?_) ?_; rotate_left; (obtain ⟨k1, k2, k3, k4, k5, k6, k7, k8, k9, k10⟩ := hW;  go_simp; refine comes_v ?_; exact ⟨k1, k2, k3, k4, k5, k6, k7, k8, k9, k10⟩))
    (try simp only [Act.put, List.setIfInBounds_toArray, List.set_cons_zero, List.set_cons_succ])
    first | refine wpB_skip 22 rfl (by kernel_rfl) (by kernel_rfl) (by kernel_rfl) (by rfl) ?_ | (refine wpB_text 22 (v := ?_) rfl (by kernel_rfl) (by kernel_rfl) (by kernel_rfl) (by rfl) (fun W hW => ?_) ?_; rotate_left; (obtain ⟨k1, k2, k3, k4, k5, k6, k7, k8, k9, k10⟩ := hW;  go_simp; refine comes_v ?_; exact ⟨k1, k2, k3, k4, k5, k6, k7, k8, k9, k10⟩))
    (try simp only [Act.put, List.setIfInBounds_toArray, List.set_cons_zero, List.set_cons_succ])
    refine wpB_done (by kernel_rfl) ?_ _
    intro W hW; obtain ⟨k1, k2, k3, k4, k5, k6, k7, k8, k9, k10⟩ := hW
    clear e1 e2
    go_wp2_with fail
    go_ret
    exact ⟨ret_bool (by simp [hm]), k1⟩
theorem linesMeet_any (a1 a2 b1 b2 c1 c2 d1 d2 : Int) (w : World) (pa : isPegB a1 a2 = true) (pb : isPegB b1 b2 = true) (pc : isPegB c1 c2 = true) (pd : isPegB d1 d2 = true) :
    Calls Try.prog 135 #[.agg #[.int .i64 a1, .int .i64 a2], .agg #[.int .i64 b1, .int .i64 b2], .agg #[.int .i64 c1, .int .i64 c2], .agg #[.int .i64 d1, .int .i64 d2]] w fun e w' => e = .returned (.bool (meetB a1 a2 b1 b2 c1 c2 d1 d2)) ∧ Below w.heap.size w w' := by
  have ha := sz_of pa
  have hb := sz_of pb
  have hc := sz_of pc
  have hd := sz_of pd
  have K1 := Lib.hid (fun W => isBetween_any a1 a2 c1 c2 d1 d2 W ha hc hd)
  have K2 := Lib.hid (fun W => isBetween_any b1 b2 c1 c2 d1 d2 W hb hc hd)
  have K3 := Lib.hid (fun W => isBetween_any c1 c2 a1 a2 b1 b2 W hc ha hb)
  have K4 := Lib.hid (fun W => isBetween_any d1 d2 a1 a2 b1 b2 W hd ha hb)
  have KX := Lib.hid (fun W => linesCross_any a1 a2 b1 b2 c1 c2 d1 d2 W pa pb pc pd)
  clear ha hb hc hd pa pb pc pd
  have eq : meetB a1 a2 b1 b2 c1 c2 d1 d2 = (onB c1 c2 d1 d2 a1 a2 || onB c1 c2 d1 d2 b1 b2 || onB a1 a2 b1 b2 c1 c2 || onB a1 a2 b1 b2 d1 d2 ||
      (decide (twI a1 a2 b1 b2 c1 c2 * twI a1 a2 b1 b2 d1 d2 < 0) && decide (twI c1 c2 d1 d2 a1 a2 * twI c1 c2 d1 d2 b1 b2 < 0))) := by
    unfold meetB; rw [Bool.decide_and]
    generalize onB a1 a2 b1 b2 c1 c2 = o1
    generalize onB a1 a2 b1 b2 d1 d2 = o2
    generalize onB c1 c2 d1 d2 a1 a2 = o3
    generalize onB c1 c2 d1 d2 b1 b2 = o4
    cases o1 <;> cases o2 <;> cases o3 <;> cases o4 <;> rfl
  rw [eq]
  clear eq
  generalize twI a1 a2 b1 b2 c1 c2 = t1 at *
  generalize twI a1 a2 b1 b2 d1 d2 = t2 at *
  generalize twI c1 c2 d1 d2 a1 a2 = t3 at *
  generalize twI c1 c2 d1 d2 b1 b2 = t4 at *
  generalize onB c1 c2 d1 d2 a1 a2 = o1 at *
  generalize onB c1 c2 d1 d2 b1 b2 = o2 at *
  generalize onB a1 a2 b1 b2 c1 c2 = o3 at *
  generalize onB a1 a2 b1 b2 d1 d2 = o4 at *
  cases o1
  · go_enter Try.func135, Try.ntmps135
    go_wp2_with fail
    refine (K1.out _).mono ?_; rintro e w1 ⟨rfl, hb1⟩
    obtain ⟨hc1, hf1⟩ := bcell hb1
    have z1_0 : w.heap.size < w1.heap.size := by (have := hb1.size; simp at this; omega)
    have z1_1 : w.heap.size + 1 < w1.heap.size := by (have := hb1.size; simp at this; omega)
    have z1_2 : w.heap.size + 2 < w1.heap.size := by (have := hb1.size; simp at this; omega)
    have z1_3 : w.heap.size + 3 < w1.heap.size := by (have := hb1.size; simp at this; omega)
    have B1 : Below w.heap.size w w1 := (Below.alloc (Below.alloc (Below.alloc (Below.alloc (Below.refl _ _) (by simp <;> omega) _) (by simp <;> omega) _) (by simp <;> omega) _) (by simp <;> omega) _).trans (hb1.mono (by simp <;> omega))
    go_wp2_with fail
    cases o2
    · refine (K2.out _).mono ?_; rintro e w2 ⟨rfl, hb2⟩
      obtain ⟨hc2, hf2⟩ := bcell hb2
      have z2_0 : w.heap.size < w2.heap.size := by (have := hb2.size; omega)
      have z2_1 : w.heap.size + 1 < w2.heap.size := by (have := hb2.size; omega)
      have z2_2 : w.heap.size + 2 < w2.heap.size := by (have := hb2.size; omega)
      have z2_3 : w.heap.size + 3 < w2.heap.size := by (have := hb2.size; omega)
      have B2 : Below w.heap.size w w2 := B1.trans (hb2.mono (by have := B1.size; omega))
      go_wp2_with fail
      cases o3
      · refine (K3.out _).mono ?_; rintro e w3 ⟨rfl, hb3⟩
        obtain ⟨hc3, hf3⟩ := bcell hb3
        have z3_0 : w.heap.size < w3.heap.size := by (have := hb3.size; omega)
        have z3_1 : w.heap.size + 1 < w3.heap.size := by (have := hb3.size; omega)
        have z3_2 : w.heap.size + 2 < w3.heap.size := by (have := hb3.size; omega)
        have z3_3 : w.heap.size + 3 < w3.heap.size := by (have := hb3.size; omega)
        have B3 : Below w.heap.size w w3 := B2.trans (hb3.mono (by have := B2.size; omega))
        go_wp2_with fail
        cases o4
        · refine (K4.out _).mono ?_; rintro e w4 ⟨rfl, hb4⟩
          obtain ⟨hc4, hf4⟩ := bcell hb4
          have z4_0 : w.heap.size < w4.heap.size := by (have := hb4.size; omega)
          have z4_1 : w.heap.size + 1 < w4.heap.size := by (have := hb4.size; omega)
          have z4_2 : w.heap.size + 2 < w4.heap.size := by (have := hb4.size; omega)
          have z4_3 : w.heap.size + 3 < w4.heap.size := by (have := hb4.size; omega)
          have B4 : Below w.heap.size w w4 := B3.trans (hb4.mono (by have := B3.size; omega))
          go_wp2_with fail
          refine (KX.out _).mono ?_; rintro e w5 ⟨rfl, hb5⟩
          obtain ⟨hc5, hf5⟩ := bcell hb5
          have z5_0 : w.heap.size < w5.heap.size := by (have := hb5.size; omega)
          have z5_1 : w.heap.size + 1 < w5.heap.size := by (have := hb5.size; omega)
          have z5_2 : w.heap.size + 2 < w5.heap.size := by (have := hb5.size; omega)
          have z5_3 : w.heap.size + 3 < w5.heap.size := by (have := hb5.size; omega)
          have B5 : Below w.heap.size w w5 := B4.trans (hb5.mono (by have := B4.size; omega))
          go_wp2_with fail
          go_ret
          exact ⟨rfl, B5⟩
        · refine (K4.out _).mono ?_; rintro e w4 ⟨rfl, hb4⟩
          obtain ⟨hc4, hf4⟩ := bcell hb4
          have z4_0 : w.heap.size < w4.heap.size := by (have := hb4.size; omega)
          have z4_1 : w.heap.size + 1 < w4.heap.size := by (have := hb4.size; omega)
          have z4_2 : w.heap.size + 2 < w4.heap.size := by (have := hb4.size; omega)
          have z4_3 : w.heap.size + 3 < w4.heap.size := by (have := hb4.size; omega)
          have B4 : Below w.heap.size w w4 := B3.trans (hb4.mono (by have := B3.size; omega))
          go_wp2_with fail
          go_ret
          exact ⟨rfl, B4⟩
      · refine (K3.out _).mono ?_; rintro e w3 ⟨rfl, hb3⟩
        obtain ⟨hc3, hf3⟩ := bcell hb3
        have z3_0 : w.heap.size < w3.heap.size := by (have := hb3.size; omega)
        have z3_1 : w.heap.size + 1 < w3.heap.size := by (have := hb3.size; omega)
        have z3_2 : w.heap.size + 2 < w3.heap.size := by (have := hb3.size; omega)
        have z3_3 : w.heap.size + 3 < w3.heap.size := by (have := hb3.size; omega)
        have B3 : Below w.heap.size w w3 := B2.trans (hb3.mono (by have := B2.size; omega))
        go_wp2_with fail
        go_ret
        exact ⟨rfl, B3⟩
    · refine (K2.out _).mono ?_; rintro e w2 ⟨rfl, hb2⟩
      obtain ⟨hc2, hf2⟩ := bcell hb2
      have z2_0 : w.heap.size < w2.heap.size := by (have := hb2.size; omega)
      have z2_1 : w.heap.size + 1 < w2.heap.size := by (have := hb2.size; omega)
      have z2_2 : w.heap.size + 2 < w2.heap.size := by (have := hb2.size; omega)
      have z2_3 : w.heap.size + 3 < w2.heap.size := by (have := hb2.size; omega)
      have B2 : Below w.heap.size w w2 := B1.trans (hb2.mono (by have := B1.size; omega))
      go_wp2_with fail
      go_ret
      exact ⟨rfl, B2⟩
  · go_enter Try.func135, Try.ntmps135
    go_wp2_with fail
    refine (K1.out _).mono ?_; rintro e w1 ⟨rfl, hb1⟩
    obtain ⟨hc1, hf1⟩ := bcell hb1
    have z1_0 : w.heap.size < w1.heap.size := by (have := hb1.size; simp at this; omega)
    have z1_1 : w.heap.size + 1 < w1.heap.size := by (have := hb1.size; simp at this; omega)
    have z1_2 : w.heap.size + 2 < w1.heap.size := by (have := hb1.size; simp at this; omega)
    have z1_3 : w.heap.size + 3 < w1.heap.size := by (have := hb1.size; simp at this; omega)
    have B1 : Below w.heap.size w w1 := (Below.alloc (Below.alloc (Below.alloc (Below.alloc (Below.refl _ _) (by simp <;> omega) _) (by simp <;> omega) _) (by simp <;> omega) _) (by simp <;> omega) _).trans (hb1.mono (by simp <;> omega))
    go_wp2_with fail
    go_ret
    exact ⟨rfl, B1⟩
end Go.Proofs.Ytieimijkkjhegaa
/- contracts: a corner's turn; two lines of a polygon that cross -/
namespace Go.Proofs.Ytieimijkkjhegaa
open Go.ChangeShapes Go.WideShapes Go.ChangeAt Go.RowKit Go.Joins
set_option linter.unusedVariables false
set_option linter.unusedSimpArgs false
set_option maxRecDepth 4000
theorem turn_any (p1 p2 b1 b2 c1 c2 : Int) (w : World) (hp : Sz p1 p2) (hb : Sz b1 b2) (hc : Sz c1 c2) :
    Calls Try.prog 115 #[.agg #[.int .i64 p1, .int .i64 p2, .int .i64 b1, .int .i64 b2, .int .i64 c1, .int .i64 c2]] w fun e w' => e = .returned (.int .i64 (twI b1 b2 p1 p2 c1 c2)) ∧ Below w.heap.size w w' := by
  have K := Lib.hid (fun W => twiceThree_any b1 b2 p1 p2 c1 c2 W hb hp hc)
  go_enter Try.func115, Try.ntmps115
  go_wp2_with fail
  refine (K.out _).mono ?_; rintro e w1 ⟨rfl, hb1⟩
  obtain ⟨hc1, hf1⟩ := bcell hb1
  have z1_0 : w.heap.size < w1.heap.size := by (have := hb1.size; simp at this; omega)
  have B1 : Below w.heap.size w w1 := (Below.alloc (Below.refl _ _) (by simp <;> omega) _).trans (hb1.mono (by simp <;> omega))
  go_wp2_with fail
  go_ret
  exact ⟨rfl, B1⟩
/-- two lines, each from a corner to the one behind it, cross: lines next to each other are left out -/
def crB (p1 p2 c1 c2 q1 q2 d1 d2 : Int) : Bool := !(decide (c1 = q1) && decide (c2 = q2)) && !(decide (d1 = p1) && decide (d2 = p2)) && meetB p1 p2 c1 c2 q1 q2 d1 d2
theorem isCrossing_any (p1 p2 b1 b2 c1 c2 q1 q2 a1 a2 d1 d2 : Int) (w : World) (hp : isPegB p1 p2 = true) (hc : isPegB c1 c2 = true) (hq : isPegB q1 q2 = true) (hd : isPegB d1 d2 = true) :
    Calls Try.prog 116 #[.agg #[.int .i64 p1, .int .i64 p2, .int .i64 b1, .int .i64 b2, .int .i64 c1, .int .i64 c2], .agg #[.int .i64 q1, .int .i64 q2, .int .i64 a1, .int .i64 a2, .int .i64 d1, .int .i64 d2]] w fun e w' => e = .returned (.bool (crB p1 p2 c1 c2 q1 q2 d1 d2)) ∧ Below w.heap.size w w' := by
  have K := Lib.hid (fun W => linesMeet_any p1 p2 c1 c2 q1 q2 d1 d2 W hp hc hq hd)
  clear hp hc hq hd
  by_cases h1 : c1 = q1 ∧ c2 = q2
  · obtain ⟨rfl, rfl⟩ := h1
    go_enter Try.func116, Try.ntmps116
    go_wp2_with fail
    go_ret
    exact ⟨ret_bool (by simp [crB]), (by repeat (first | exact Below.refl _ _ | assumption | apply Below.drew | refine Below.alloc ?_ (by simp <;> omega) _))⟩
  · by_cases h2 : d1 = p1 ∧ d2 = p2
    · obtain ⟨rfl, rfl⟩ := h2
      by_cases h3 : c1 = q1
      · have h4 : ¬ c2 = q2 := fun h => h1 ⟨h3, h⟩
        subst h3
        clear h1
        go_enter Try.func116, Try.ntmps116
        go_wp2_with fail
        go_ret
        exact ⟨ret_bool (by simp [crB]), (by repeat (first | exact Below.refl _ _ | assumption | apply Below.drew | refine Below.alloc ?_ (by simp <;> omega) _))⟩
      · clear h1
        go_enter Try.func116, Try.ntmps116
        go_wp2_with fail
        go_ret
        exact ⟨ret_bool (by simp [crB]), (by repeat (first | exact Below.refl _ _ | assumption | apply Below.drew | refine Below.alloc ?_ (by simp <;> omega) _))⟩
    · have e : crB p1 p2 c1 c2 q1 q2 d1 d2 = meetB p1 p2 c1 c2 q1 q2 d1 d2 := by
        have x1 : (decide (c1 = q1) && decide (c2 = q2)) = false := by simpa using h1
        have x2 : (decide (d1 = p1) && decide (d2 = p2)) = false := by simpa using h2
        unfold crB; rw [x1, x2]; rfl
      rw [e]
      clear e
      generalize meetB p1 p2 c1 c2 q1 q2 d1 d2 = m at *
      by_cases h3 : c1 = q1 <;> by_cases h4 : d1 = p1
      · have h5 : ¬ c2 = q2 := fun h => h1 ⟨h3, h⟩
        have h6 : ¬ d2 = p2 := fun h => h2 ⟨h4, h⟩
        subst h3 h4
        clear h1 h2
        go_enter Try.func116, Try.ntmps116
        go_wp2_with fail
        refine (K.out _).mono ?_; rintro e w1 ⟨rfl, hb1⟩
        obtain ⟨hc1, hf1⟩ := bcell hb1
        have z1_0 : w.heap.size < w1.heap.size := by (have := hb1.size; simp at this; omega)
        have z1_1 : w.heap.size + 1 < w1.heap.size := by (have := hb1.size; simp at this; omega)
        have B1 : Below w.heap.size w w1 := (Below.alloc (Below.alloc (Below.refl _ _) (by simp <;> omega) _) (by simp <;> omega) _).trans (hb1.mono (by simp <;> omega))
        go_wp2_with fail
        go_ret
        exact ⟨rfl, B1⟩
      · have h5 : ¬ c2 = q2 := fun h => h1 ⟨h3, h⟩
        subst h3
        clear h1 h2
        go_enter Try.func116, Try.ntmps116
        go_wp2_with fail
        refine (K.out _).mono ?_; rintro e w1 ⟨rfl, hb1⟩
        obtain ⟨hc1, hf1⟩ := bcell hb1
        have z1_0 : w.heap.size < w1.heap.size := by (have := hb1.size; simp at this; omega)
        have z1_1 : w.heap.size + 1 < w1.heap.size := by (have := hb1.size; simp at this; omega)
        have B1 : Below w.heap.size w w1 := (Below.alloc (Below.alloc (Below.refl _ _) (by simp <;> omega) _) (by simp <;> omega) _).trans (hb1.mono (by simp <;> omega))
        go_wp2_with fail
        go_ret
        exact ⟨rfl, B1⟩
      · have h6 : ¬ d2 = p2 := fun h => h2 ⟨h4, h⟩
        subst h4
        clear h1 h2
        go_enter Try.func116, Try.ntmps116
        go_wp2_with fail
        refine (K.out _).mono ?_; rintro e w1 ⟨rfl, hb1⟩
        obtain ⟨hc1, hf1⟩ := bcell hb1
        have z1_0 : w.heap.size < w1.heap.size := by (have := hb1.size; simp at this; omega)
        have z1_1 : w.heap.size + 1 < w1.heap.size := by (have := hb1.size; simp at this; omega)
        have B1 : Below w.heap.size w w1 := (Below.alloc (Below.alloc (Below.refl _ _) (by simp <;> omega) _) (by simp <;> omega) _).trans (hb1.mono (by simp <;> omega))
        go_wp2_with fail
        go_ret
        exact ⟨rfl, B1⟩
      · clear h1 h2
        go_enter Try.func116, Try.ntmps116
        go_wp2_with fail
        refine (K.out _).mono ?_; rintro e w1 ⟨rfl, hb1⟩
        obtain ⟨hc1, hf1⟩ := bcell hb1
        have z1_0 : w.heap.size < w1.heap.size := by (have := hb1.size; simp at this; omega)
        have z1_1 : w.heap.size + 1 < w1.heap.size := by (have := hb1.size; simp at this; omega)
        have B1 : Below w.heap.size w w1 := (Below.alloc (Below.alloc (Below.refl _ _) (by simp <;> omega) _) (by simp <;> omega) _).trans (hb1.mono (by simp <;> omega))
        go_wp2_with fail
        go_ret
        exact ⟨rfl, B1⟩
end Go.Proofs.Ytieimijkkjhegaa
/- contract: the program's test of a polygon -/
namespace Go.Proofs.Ytieimijkkjhegaa
open Go.ChangeShapes Go.WideShapes Go.ChangeAt Go.RowKit Go.Joins
set_option linter.unusedVariables false
set_option linter.unusedSimpArgs false
set_option maxRecDepth 4000
theorem onB_or (a b c d e : Bool) : (a || b || c || d || e) = (c || d || a || b || e) := by cases a <;> cases b <;> cases c <;> cases d <;> rfl
theorem meetB_comm (a1 a2 b1 b2 c1 c2 d1 d2 : Int) : meetB a1 a2 b1 b2 c1 c2 d1 d2 = meetB c1 c2 d1 d2 a1 a2 b1 b2 := by
  unfold meetB; rw [onB_or]; congr 1; rw [decide_eq_decide]; exact And.comm
theorem meP_comm (a b c d : Int × Int) : meP a b c d = meP c d a b := meetB_comm ..
theorem vx_add (l : List (Int × Int)) (i : Nat) : vx l (i + l.length) = vx l i := by unfold vx; rw [Nat.add_mod_right]
def crP (p c q d : Int × Int) : Bool := crB p.1 p.2 c.1 c.2 q.1 q.2 d.1 d.2
theorem crP_iff (p c q d : Int × Int) : crP p c q d = false ↔ (c = q ∨ d = p ∨ meP p c q d = false) := by
  unfold crP crB meP
  have e1 : c = q ↔ c.1 = q.1 ∧ c.2 = q.2 := ⟨fun h => by rw [h]; exact ⟨rfl, rfl⟩, fun h => Prod.ext h.1 h.2⟩
  have e2 : d = p ↔ d.1 = p.1 ∧ d.2 = p.2 := ⟨fun h => by rw [h]; exact ⟨rfl, rfl⟩, fun h => Prod.ext h.1 h.2⟩
  rw [e1, e2]
  generalize meetB p.1 p.2 c.1 c.2 q.1 q.2 d.1 d.2 = m
  by_cases h1 : c.1 = q.1 <;> by_cases h2 : c.2 = q.2 <;> by_cases h3 : d.1 = p.1 <;> by_cases h4 : d.2 = p.2 <;> simp [h1, h2, h3, h4]
/-- what the program looks at, corner by corner -/
def Seen (l : List (Int × Int)) (k : Nat) : Prop := ∀ i, i < k → twP (vx l (i + l.length - 1)) (vx l i) (vx l (i + 1)) ≠ 0 ∧ ∀ j, j < i → vx l i ≠ vx l j ∧ crP (vx l i) (vx l (i + 1)) (vx l j) (vx l (j + 1)) = false
theorem good_seen {l : List (Int × Int)} (h : Good l) : Seen l l.length := by
  intro i hi
  have hn := h.few.1
  refine ⟨?_, fun j hj => ⟨h.diff i j hj hi, ?_⟩⟩
  · by_cases h0 : i = 0
    · subst h0
      have := h.turn (l.length - 1) (by omega)
      rw [show l.length - 1 + 1 = 0 + l.length by omega, show l.length - 1 + 2 = 1 + l.length by omega, vx_add, vx_add] at this
      rw [show 0 + l.length - 1 = l.length - 1 by omega]; exact this
    · have := h.turn (i - 1) (by omega)
      rw [show i - 1 + 1 = i by omega, show i - 1 + 2 = i + 1 by omega] at this
      rw [show i + l.length - 1 = (i - 1) + l.length by omega, vx_add]; exact this
  · rw [crP_iff]
    by_cases h1 : j + 1 = i
    · right; left; rw [h1]
    · by_cases h2 : i + 1 = l.length ∧ j = 0
      · left; rw [h2.1, h2.2, show l.length = 0 + l.length by omega, vx_add]
      · right; right; rw [meP_comm]; exact h.apart j i (by omega) hi (by omega)
theorem seen_good {l : List (Int × Int)} (h0 : 3 ≤ l.length ∧ l.length ≤ 10) (hp : ∀ i, i < l.length → isPg (vx l i) = true) (h : Seen l l.length) : Good l := by
  have df : ∀ i j, j < i → i < l.length → vx l i ≠ vx l j := fun i j hj hi => ((h i hi).2 j hj).1
  refine ⟨h0, hp, df, fun i hi => ?_, fun i k hk hkn hki => ?_⟩
  · by_cases h1 : i + 1 = l.length
    · have := (h 0 (by omega)).1
      rw [show 0 + l.length - 1 = i by omega] at this
      rw [show i + 1 = 0 + l.length by omega, show i + 2 = 0 + 1 + l.length by omega, vx_add, vx_add]; exact this
    · have := (h (i + 1) (by omega)).1
      rw [show i + 1 + l.length - 1 = i + l.length by omega, vx_add] at this
      exact this
  · have := ((h k hkn).2 i (by omega)).2
    rw [crP_iff] at this
    rcases this with h1 | h1 | h1
    · by_cases h2 : k + 1 = l.length
      · rw [h2, show l.length = 0 + l.length by omega, vx_add] at h1
        by_cases h3 : i = 0
        · omega
        · exact absurd h1.symm (df i 0 (by omega) (by omega))
      · exact absurd h1 (df (k + 1) i (by omega) (by omega))
    · exact absurd h1.symm (df k (i + 1) (by omega) hkn)
    · rw [meP_comm]; exact h1
end Go.Proofs.Ytieimijkkjhegaa
/- contract: the program's test of a polygon -/
namespace Go.Proofs.Ytieimijkkjhegaa
open Go.ChangeShapes Go.WideShapes Go.ChangeAt Go.RowKit Go.Joins
set_option linter.unusedVariables false
set_option linter.unusedSimpArgs false
set_option maxRecDepth 4000
set_option maxHeartbeats 4000000 in
theorem implIsPolygon_any (A : Option Addr) (c : Nat) (l : List (Int × Int)) (w : World) (hn : l.length ≤ 1048576) (hR : Rd w w.heap.size A l) :
    Calls Try.prog 80 #[.slice A l.length c] w fun e w' => e = .returned (.bool (goodB l)) ∧ Below w.heap.size w w' := by
  have KA := Lib.hid (fun W hb => arePegs_any A c l W hn (rd_more (rd_below hR hb (Nat.le_refl _)) hb.size))
  by_cases hlo : l.length < 3
  · have hng : Hid (goodB l = false) := Lib.hid (goodB_false (fun h => by have := h.few; omega))
    have d1 : ((l.length : Int) < 3) := by omega
    clear hR
    go_enter Try.func80, Try.ntmps80
    go_wp2_with fail
    go_ret
    exact ⟨ret_bool hng.out.symm, Below.refl _ _⟩
  · by_cases hhi : 10 < l.length
    · have hng : Hid (goodB l = false) := Lib.hid (goodB_false (fun h => by have := h.few; omega))
      have d1 : ¬ ((l.length : Int) < 3) := by omega
      have d2 : ((10 : Int) < (l.length : Int)) := by omega
      clear hR
      go_enter Try.func80, Try.ntmps80
      go_wp2_with fail
      go_ret
      exact ⟨ret_bool hng.out.symm, Below.refl _ _⟩
    · have d1 : ¬ ((l.length : Int) < 3) := by omega
      have d2 : ¬ ((10 : Int) < (l.length : Int)) := by omega
      by_cases hpg : pegsB l = true
      · have K1 := Lib.hid (KA.out w (Below.refl _ _))
        rw [hpg] at K1
        have hpe := (pegsB_iff l).1 hpg
        have HPE := Lib.hid hpe
        have KC := Lib.hid (fun W (hb : Below w.heap.size w W) => cornersAround_any A c l W (by omega) (by omega) (rd_more (rd_below hR hb (Nat.le_refl _)) hb.size))
        have HFEW := Lib.hid (show 3 ≤ l.length ∧ l.length ≤ 10 by omega)
        have HG := Lib.hid (fun h => goodB_false (l := l) h)
        have HT := Lib.hid (fun h => goodB_true (l := l) h)
        clear hpg hpe KA hR
        have hL1 : ((3 : Int) ≤ (l.length : Int)) := by omega
        have hL2 : ((l.length : Int) ≤ 10) := by omega
        clear hlo hhi
        generalize hN : l.length = n at *
        have HN := Lib.hid hN
        clear hN
        go_enter Try.func80, Try.ntmps80
        go_wp2_with fail
        refine K1.out.mono ?_; rintro e w1 ⟨rfl, hb1⟩
        go_wp2_with fail
        refine (KC.out w1 hb1).mono ?_; rintro e w2 ⟨rfl, hb2, hSC⟩
        have B2 : Below w.heap.size w w2 := hb1.trans (hb2.mono hb1.size)
        have hw1 := hb1.size
        obtain ⟨g, hg⟩ : ∃ g, g = w1.heap.size := ⟨_, rfl⟩
        rw [← hg] at hSC ⊢
        have hgs : g < w2.heap.size := hSC.1
        have CE : Hid (∀ W, Below w2.heap.size w2 W → ∀ i, i < n → (W.cell? ⟨g, i * 6, none⟩ = some (.int .i64 (vx l i).1) ∧ W.cell? ⟨g, i * 6 + 1, none⟩ = some (.int .i64 (vx l i).2) ∧ W.cell? ⟨g, i * 6 + 2, none⟩ = some (.int .i64 (vx l (i + n - 1)).1) ∧ W.cell? ⟨g, i * 6 + 3, none⟩ = some (.int .i64 (vx l (i + n - 1)).2) ∧ W.cell? ⟨g, i * 6 + 4, none⟩ = some (.int .i64 (vx l (i + 1)).1) ∧ W.cell? ⟨g, i * 6 + 5, none⟩ = some (.int .i64 (vx l (i + 1)).2))) := Lib.hid (fun W hW i hi => by
          obtain ⟨c0, c1, c2, c3, c4, c5⟩ := hSC.2.2 i hi
          have hc := (bcell hW).1
          exact ⟨(hc _ _ hgs).trans c0, (hc _ _ hgs).trans c1, (hc _ _ hgs).trans c2, (hc _ _ hgs).trans c3, (hc _ _ hgs).trans c4, (hc _ _ hgs).trans c5⟩)
        have TR : Hid (∀ W, Below w2.heap.size w2 W → Below w.heap.size w W) := Lib.hid (fun W hW => B2.trans (hW.mono B2.size))
        clear K1 KC hb1 hb2 hSC B2 hw1 hg
        go_wp2_with fail
        go_loopg [25] n (fun gg i wr => ∃ k : Nat, k ≤ n ∧ gg = n - k ∧ i = .int .i64 k ∧ Below w2.heap.size w2 wr ∧ Hid (Seen l k))
        case atStart => exact ⟨0, Nat.zero_le _, rfl, rfl, Below.refl _ _, Lib.hid (fun i h => absurd h (Nat.not_lt_zero _))⟩
        case round =>
          obtain ⟨k, hk, hgg, rfl, hB, hF⟩ := hrel
          rename World => wo
          have HGK := Lib.hid hgg
          clear hgg
          by_cases hlt : k < n
          · obtain ⟨x0, x1, x2, x3, x4, x5⟩ := CE.out wo hB k hlt
            have hzB := hB.size
            have hgo : g < wo.heap.size := by omega
            have z1 := sz_of (x := (vx l k).1) (y := (vx l k).2) (HPE.out k hlt)
            have z2 : Sz (vx l (k + n - 1)).1 (vx l (k + n - 1)).2 := sz_of (by rw [← HN.out, ← vx_per]; exact HPE.out _ (by rw [HN.out]; exact Nat.mod_lt _ (by omega)))
            have z3 : Sz (vx l (k + 1)).1 (vx l (k + 1)).2 := sz_of (by rw [← vx_per, HN.out]; exact HPE.out _ (Nat.mod_lt _ (by omega)))
            have T := Lib.hid (fun W => turn_any (vx l k).1 (vx l k).2 (vx l (k + n - 1)).1 (vx l (k + n - 1)).2 (vx l (k + 1)).1 (vx l (k + 1)).2 W z1 z2 z3)
            clear z1 z2 z3
            by_cases hz : twI (vx l (k + n - 1)).1 (vx l (k + n - 1)).2 (vx l k).1 (vx l k).2 (vx l (k + 1)).1 (vx l (k + 1)).2 = 0
            · rw [hz] at T
              have hng : Hid (goodB l = false) := Lib.hid (HG.out (fun h => (good_seen h k (by have := HN.out; omega)).1 (by rw [HN.out]; exact hz)))
              clear hz
              go_wp2_with fail
              refine (T.out _).mono ?_; rintro e w3 ⟨rfl, hb3⟩
              have B3 := Lib.hid (TR.out _ ((Below.alloc hB hzB (.cells #[.int .i64 (vx l k).1, .int .i64 (vx l k).2, .int .i64 (vx l (k + n - 1)).1, .int .i64 (vx l (k + n - 1)).2, .int .i64 (vx l (k + 1)).1, .int .i64 (vx l (k + 1)).2] 122)).trans (hb3.mono (by simp; omega))))
              go_wp2_with fail
              go_ret
              exact ⟨ret_bool hng.out.symm, B3.out⟩
            · have HTW : Hid (twP (vx l (k + l.length - 1)) (vx l k) (vx l (k + 1)) ≠ 0) := Lib.hid (by rw [HN.out]; exact hz)
              have hzb : (twI (vx l (k + n - 1)).1 (vx l (k + n - 1)).2 (vx l k).1 (vx l k).2 (vx l (k + 1)).1 (vx l (k + 1)).2 == 0) = false := by simpa using hz
              generalize twI (vx l (k + n - 1)).1 (vx l (k + n - 1)).2 (vx l k).1 (vx l k).2 (vx l (k + 1)).1 (vx l (k + 1)).2 = t at *
              go_wp2_with fail
              refine (T.out _).mono ?_; rintro e w3 ⟨rfl, hb3⟩
              have B3 := (Below.alloc hB hzB (.cells #[.int .i64 (vx l k).1, .int .i64 (vx l k).2, .int .i64 (vx l (k + n - 1)).1, .int .i64 (vx l (k + n - 1)).2, .int .i64 (vx l (k + 1)).1, .int .i64 (vx l (k + 1)).2] 122)).trans (hb3.mono (by simp; omega))
              have hz1 : wo.heap.size < w3.heap.size := by (have := hb3.size; simp at this; omega)
              have y0 : w3.cell? ⟨wo.heap.size, 0, none⟩ = some (.int .i64 (vx l k).1) := ((bcell hb3).1 _ _ (by simp)).trans (by go_simp)
              have y1 : w3.cell? ⟨wo.heap.size, 1, none⟩ = some (.int .i64 (vx l k).2) := ((bcell hb3).1 _ _ (by simp)).trans (by go_simp)
              have y2 : w3.cell? ⟨wo.heap.size, 2, none⟩ = some (.int .i64 (vx l (k + n - 1)).1) := ((bcell hb3).1 _ _ (by simp)).trans (by go_simp)
              have y3 : w3.cell? ⟨wo.heap.size, 3, none⟩ = some (.int .i64 (vx l (k + n - 1)).2) := ((bcell hb3).1 _ _ (by simp)).trans (by go_simp)
              have y4 : w3.cell? ⟨wo.heap.size, 4, none⟩ = some (.int .i64 (vx l (k + 1)).1) := ((bcell hb3).1 _ _ (by simp)).trans (by go_simp)
              have y5 : w3.cell? ⟨wo.heap.size, 5, none⟩ = some (.int .i64 (vx l (k + 1)).2) := ((bcell hb3).1 _ _ (by simp)).trans (by go_simp)
              clear x0 x1 x2 x3 x4 x5 hb3 T
              go_wp2_with fail
              clear hzb hz
              go_loopg [37] k (fun g2 j wi => ∃ m : Nat, m ≤ k ∧ g2 = k - m ∧ j = .int .i64 m ∧ Below w2.heap.size w2 wi ∧ wo.heap.size < wi.heap.size ∧ wi.cell? ⟨wo.heap.size, 0, none⟩ = some (.int .i64 (vx l k).1) ∧ wi.cell? ⟨wo.heap.size, 1, none⟩ = some (.int .i64 (vx l k).2) ∧ wi.cell? ⟨wo.heap.size, 2, none⟩ = some (.int .i64 (vx l (k + n - 1)).1) ∧ wi.cell? ⟨wo.heap.size, 3, none⟩ = some (.int .i64 (vx l (k + n - 1)).2) ∧ wi.cell? ⟨wo.heap.size, 4, none⟩ = some (.int .i64 (vx l (k + 1)).1) ∧ wi.cell? ⟨wo.heap.size, 5, none⟩ = some (.int .i64 (vx l (k + 1)).2) ∧ Hid (∀ j, j < m → vx l k ≠ vx l j ∧ crP (vx l k) (vx l (k + 1)) (vx l j) (vx l (j + 1)) = false))
              case atStart => exact ⟨0, Nat.zero_le _, rfl, rfl, B3, hz1, y0, y1, y2, y3, y4, y5, Lib.hid (fun j h => absurd h (Nat.not_lt_zero _))⟩
              case round =>
                clear y0 y1 y2 y3 y4 y5 B3 hz1
                obtain ⟨m, hm, hg2, rfl, hBi, hzi, v0, v1, v2, v3, v4, v5, hD⟩ := hrel
                have HGM := Lib.hid hg2
                clear hg2
                by_cases hlm : m < k
                · obtain ⟨q1, q2, r1, r2, s1, s2, hqe, hse, u0, u1, u2, u3, u4, u5⟩ : ∃ q1 q2 r1 r2 s1 s2, vx l m = (q1, q2) ∧ vx l (m + 1) = (s1, s2) ∧ wr.cell? ⟨g, m * 6, none⟩ = some (.int .i64 q1) ∧ wr.cell? ⟨g, m * 6 + 1, none⟩ = some (.int .i64 q2) ∧ wr.cell? ⟨g, m * 6 + 2, none⟩ = some (.int .i64 r1) ∧ wr.cell? ⟨g, m * 6 + 3, none⟩ = some (.int .i64 r2) ∧ wr.cell? ⟨g, m * 6 + 4, none⟩ = some (.int .i64 s1) ∧ wr.cell? ⟨g, m * 6 + 5, none⟩ = some (.int .i64 s2) := by
                    obtain ⟨t0, t1, t2, t3, t4, t5⟩ := CE.out wr hBi m (by omega)
                    exact ⟨_, _, _, _, _, _, rfl, rfl, t0, t1, t2, t3, t4, t5⟩
                  have hzi2 := hBi.size
                  have hgr : g < wr.heap.size := by omega
                  have n1 := HPE.out k hlt
                  have n2 : isPegB (vx l (k + 1)).1 (vx l (k + 1)).2 = true := by rw [← vx_per, HN.out]; exact HPE.out _ (Nat.mod_lt _ (by omega))
                  have n3 : isPegB q1 q2 = true := by have := HPE.out m (by omega); rw [hqe] at this; exact this
                  have n4 : isPegB s1 s2 = true := by have : isPg (vx l (m + 1)) = true := (by rw [← vx_per, HN.out]; exact HPE.out _ (Nat.mod_lt _ (by omega))); rw [hse] at this; exact this
                  have K := Lib.hid (fun W => isCrossing_any (vx l k).1 (vx l k).2 (vx l (k + n - 1)).1 (vx l (k + n - 1)).2 (vx l (k + 1)).1 (vx l (k + 1)).2 q1 q2 r1 r2 s1 s2 W n1 n2 n3 n4)
                  have HQE := Lib.hid hqe
                  have HSE := Lib.hid hse
                  clear n1 n2 n3 n4 hqe hse
                  by_cases heq : (vx l k).1 = q1 ∧ (vx l k).2 = q2
                  · have hng : Hid (goodB l = false) := Lib.hid (HG.out (fun h => h.diff k m hlm (by have := HN.out; omega) (by rw [HQE.out]; exact Prod.ext heq.1 heq.2)))
                    obtain ⟨rfl, rfl⟩ := heq
                    have B5 := Lib.hid (TR.out _ (Below.alloc hBi hzi2 (.cells #[.int .i64 (vx l k).1, .int .i64 (vx l k).2, .int .i64 r1, .int .i64 r2, .int .i64 s1, .int .i64 s2] 122)))
                    go_wp2_with fail
                    go_ret
                    exact ⟨ret_bool hng.out.symm, B5.out⟩
                  · have hne : vx l k ≠ vx l m := fun e => heq (by rw [HQE.out] at e; rw [e]; exact ⟨rfl, rfl⟩)
                    have HNE := Lib.hid hne
                    by_cases hcr : crB (vx l k).1 (vx l k).2 (vx l (k + 1)).1 (vx l (k + 1)).2 q1 q2 s1 s2 = true
                    · have hng : Hid (goodB l = false) := Lib.hid (HG.out (fun h => by
                        have := ((good_seen h k (by have := HN.out; omega)).2 m hlm).2
                        rw [HQE.out, HSE.out] at this
                        unfold crP at this
                        rw [hcr] at this
                        cases this))
                      rw [hcr] at K
                      clear hcr hne
                      by_cases h1 : (vx l k).1 = q1
                      · have h2 : ¬ (vx l k).2 = q2 := fun h => heq ⟨h1, h⟩
                        clear heq
                        subst h1
                        go_wp2_with fail
                        refine (K.out _).mono ?_; rintro e w4 ⟨rfl, hb4⟩
                        have B4 := (Below.alloc hBi hzi2 (.cells #[.int .i64 (vx l k).1, .int .i64 q2, .int .i64 r1, .int .i64 r2, .int .i64 s1, .int .i64 s2] 122)).trans (hb4.mono (by simp; omega))
                        have B5 := Lib.hid (TR.out _ B4)
                        go_wp2_with fail
                        go_ret
                        exact ⟨ret_bool hng.out.symm, B5.out⟩
                      · clear heq
                        go_wp2_with fail
                        refine (K.out _).mono ?_; rintro e w4 ⟨rfl, hb4⟩
                        have B4 := (Below.alloc hBi hzi2 (.cells #[.int .i64 q1, .int .i64 q2, .int .i64 r1, .int .i64 r2, .int .i64 s1, .int .i64 s2] 122)).trans (hb4.mono (by simp; omega))
                        have B5 := Lib.hid (TR.out _ B4)
                        go_wp2_with fail
                        go_ret
                        exact ⟨ret_bool hng.out.symm, B5.out⟩
                    · have hcf : crB (vx l k).1 (vx l k).2 (vx l (k + 1)).1 (vx l (k + 1)).2 q1 q2 s1 s2 = false := by simpa using hcr
                      have hD2 : Hid (∀ j, j < m + 1 → vx l k ≠ vx l j ∧ crP (vx l k) (vx l (k + 1)) (vx l j) (vx l (j + 1)) = false) := Lib.hid (fun j hj => by
                        by_cases hjm : j = m
                        · subst hjm; exact ⟨HNE.out, by rw [HQE.out, HSE.out]; exact hcf⟩
                        · exact hD.out j (by omega))
                      rw [hcf] at K
                      clear hcr hcf hne hD
                      by_cases h1 : (vx l k).1 = q1
                      · have h2 : ¬ (vx l k).2 = q2 := fun h => heq ⟨h1, h⟩
                        clear heq
                        subst h1
                        go_wp2_with fail
                        refine (K.out _).mono ?_; rintro e w4 ⟨rfl, hb4⟩
                        have B4 := (Below.alloc hBi hzi2 (.cells #[.int .i64 (vx l k).1, .int .i64 q2, .int .i64 r1, .int .i64 r2, .int .i64 s1, .int .i64 s2] 122)).trans (hb4.mono (by simp; omega))
                        have zz : wo.heap.size < w4.heap.size := by (have := hb4.size; simp at this; omega)
                        have Y0 := Lib.hid (((bcell hb4).1 _ 0 (by simp; omega)).trans ((World.cell?_alloc_lt wr _ _ hzi).trans v0))
                        have Y1 := Lib.hid (((bcell hb4).1 _ 1 (by simp; omega)).trans ((World.cell?_alloc_lt wr _ _ hzi).trans v1))
                        have Y2 := Lib.hid (((bcell hb4).1 _ 2 (by simp; omega)).trans ((World.cell?_alloc_lt wr _ _ hzi).trans v2))
                        have Y3 := Lib.hid (((bcell hb4).1 _ 3 (by simp; omega)).trans ((World.cell?_alloc_lt wr _ _ hzi).trans v3))
                        have Y4 := Lib.hid (((bcell hb4).1 _ 4 (by simp; omega)).trans ((World.cell?_alloc_lt wr _ _ hzi).trans v4))
                        have Y5 := Lib.hid (((bcell hb4).1 _ 5 (by simp; omega)).trans ((World.cell?_alloc_lt wr _ _ hzi).trans v5))
                        clear hb4
                        go_wp2_with fail
                        go_roundg (k - (m + 1))
                        case measure => have := HGM.out; omega
                        case rel => exact ⟨m + 1, by omega, rfl, by go_num, B4, zz, Y0.out, Y1.out, Y2.out, Y3.out, Y4.out, Y5.out, hD2⟩
                      · clear heq
                        go_wp2_with fail
                        refine (K.out _).mono ?_; rintro e w4 ⟨rfl, hb4⟩
                        have B4 := (Below.alloc hBi hzi2 (.cells #[.int .i64 q1, .int .i64 q2, .int .i64 r1, .int .i64 r2, .int .i64 s1, .int .i64 s2] 122)).trans (hb4.mono (by simp; omega))
                        have zz : wo.heap.size < w4.heap.size := by (have := hb4.size; simp at this; omega)
                        have Y0 := Lib.hid (((bcell hb4).1 _ 0 (by simp; omega)).trans ((World.cell?_alloc_lt wr _ _ hzi).trans v0))
                        have Y1 := Lib.hid (((bcell hb4).1 _ 1 (by simp; omega)).trans ((World.cell?_alloc_lt wr _ _ hzi).trans v1))
                        have Y2 := Lib.hid (((bcell hb4).1 _ 2 (by simp; omega)).trans ((World.cell?_alloc_lt wr _ _ hzi).trans v2))
                        have Y3 := Lib.hid (((bcell hb4).1 _ 3 (by simp; omega)).trans ((World.cell?_alloc_lt wr _ _ hzi).trans v3))
                        have Y4 := Lib.hid (((bcell hb4).1 _ 4 (by simp; omega)).trans ((World.cell?_alloc_lt wr _ _ hzi).trans v4))
                        have Y5 := Lib.hid (((bcell hb4).1 _ 5 (by simp; omega)).trans ((World.cell?_alloc_lt wr _ _ hzi).trans v5))
                        clear hb4
                        go_wp2_with fail
                        go_roundg (k - (m + 1))
                        case measure => have := HGM.out; omega
                        case rel => exact ⟨m + 1, by omega, rfl, by go_num, B4, zz, Y0.out, Y1.out, Y2.out, Y3.out, Y4.out, Y5.out, hD2⟩
                · have hmk : m = k := by omega
                  have hF2 : Hid (Seen l (k + 1)) := Lib.hid (fun i hi => by
                    by_cases hik : i = k
                    · subst hik; exact ⟨HTW.out, fun j hj => hD.out j (by omega)⟩
                    · exact hF.out i (by omega))
                  clear hD hF
                  go_wp2_with fail
                  go_roundg (n - (k + 1))
                  case measure => have := HGK.out; omega
                  case rel => exact ⟨k + 1, by omega, rfl, by go_num, hBi, hF2⟩
          · have hkn : n = k := by omega
            subst hkn
            have hy : Hid (goodB l = true) := Lib.hid (HT.out (seen_good (by have := HFEW.out; have := HN.out; omega) (fun i hi => HPE.out i (by have := HN.out; omega)) (by have := HN.out; rw [this]; exact hF.out)))
            have BB := Lib.hid (TR.out _ hB)
            go_wp2_with fail
            go_ret
            exact ⟨ret_bool hy.out.symm, BB.out⟩
      · have hpf : pegsB l = false := by simpa using hpg
        have hng : Hid (goodB l = false) := Lib.hid (goodB_false (fun h => hpg ((pegsB_iff l).2 h.pegs)))
        have K1 := Lib.hid (KA.out w (Below.refl _ _))
        rw [hpf] at K1
        clear hpf hpg KA hR hlo hhi
        go_enter Try.func80, Try.ntmps80
        go_wp2_with fail
        refine K1.out.mono ?_; rintro e w1 ⟨rfl, hb1⟩
        go_wp2_with fail
        go_ret
        exact ⟨ret_bool hng.out.symm, hb1⟩
end Go.Proofs.Ytieimijkkjhegaa
/- contract: where a point is, the program -/
namespace Go.Proofs.Ytieimijkkjhegaa
open Go.ChangeShapes Go.WideShapes Go.ChangeAt Go.RowKit Go.Joins
set_option linter.unusedVariables false
set_option linter.unusedSimpArgs false
set_option maxRecDepth 4000
theorem cr_one {a b p : Int × Int} (h : a.2 ≤ p.2 ∧ p.2 < b.2 ∧ 0 < twP a b p) : MJ.cr a b p = 1 := by
  unfold MJ.cr; rw [tw_is, if_pos h]
theorem cr_neg {a b p : Int × Int} (h : b.2 ≤ p.2 ∧ p.2 < a.2 ∧ twP a b p < 0) : MJ.cr a b p = -1 := by
  unfold MJ.cr; rw [tw_is, if_neg (by omega), if_pos h]
theorem cr_nil {a b p : Int × Int} (h : ¬ (a.2 ≤ p.2 ∧ p.2 < b.2 ∧ 0 < twP a b p)) (h' : ¬ (b.2 ≤ p.2 ∧ p.2 < a.2 ∧ twP a b p < 0)) : MJ.cr a b p = 0 := by
  unfold MJ.cr; rw [tw_is, if_neg h, if_neg h']
theorem wn_bd (l : List (Int × Int)) (p : Int × Int) (k : Nat) : -(k : Int) ≤ wnN l p k ∧ wnN l p k ≤ k := by
  induction k with
  | zero => exact ⟨by simp [wnN, MJ.sm], by simp [wnN, MJ.sm]⟩
  | succ k ih =>
    have e : wnN l p (k + 1) = wnN l p k + crN l p k := rfl
    have : crN l p k = 0 ∨ crN l p k = 1 ∨ crN l p k = -1 := by
      unfold crN MJ.cr; (repeat' split) <;> simp
    omega
set_option maxHeartbeats 4000000 in
theorem placeIn_any (A : Option Addr) (c : Nat) (l : List (Int × Int)) (p1 p2 : Int) (w : World) (hg : Good l) (hp : Sz p1 p2) (hR : Rd w w.heap.size A l) :
    Calls Try.prog 112 #[.slice A l.length c, .agg #[.int .i64 p1, .int .i64 p2]] w fun e w' => e = .returned (.int .i64 (whN l (p1, p2))) ∧ Below w.heap.size w w' := by
  have h3 := hg.few.1
  have h10 := hg.few.2
  have KC := Lib.hid (fun W (hb : Below w.heap.size w W) => cornersAround_any A c l W (by omega) (by omega) (rd_more (rd_below hR hb (Nat.le_refl _)) hb.size))
  have ZP := Lib.hid (fun i => pgs_sz hg.pegs i (by omega))
  have HON : Hid (∀ k, onE l (p1, p2) k = true → whN l (p1, p2) = 0) := Lib.hid (fun k h => whN_on (onE_bd h))
  have HX : Hid ((∀ k, k < l.length → onE l (p1, p2) k = false) → whN l (p1, p2) = if wnN l (p1, p2) l.length = 0 then -1 else 1) := Lib.hid (fun h => whN_wn (by omega) h)
  have HBD := Lib.hid (fun k => wn_bd l (p1, p2) k)
  have HZ : Hid (wnN l (p1, p2) 0 = 0) := Lib.hid rfl
  clear hg hR
  generalize whN l (p1, p2) = r at *
  generalize hN : l.length = n at *
  have HN := Lib.hid hN
  clear hN
  go_enter Try.func112, Try.ntmps112
  go_wp2_with fail
  obtain ⟨Wa, hWa⟩ : ∃ Wa, Wa = (w.alloc (.cells #[.int .i64 p1, .int .i64 p2] 42)) := ⟨_, rfl⟩
  rw [← hWa]
  have yWa0_0 : Wa.cell? ⟨w.heap.size, 0, none⟩ = some (.int .i64 p1) := by rw [hWa]; go_simp
  have yWa0_1 : Wa.cell? ⟨w.heap.size, 1, none⟩ = some (.int .i64 p2) := by rw [hWa]; go_simp
  have fWa0 : ∀ o, Wa.frozen? ⟨w.heap.size, o, none⟩ = false := by intro o; rw [hWa]; (repeat rw [frozen?_alloc_cells]); simp [World.frozen?]
  have zWa0 : w.heap.size < Wa.heap.size := by rw [hWa]; simp <;> omega
  have BWa : Below w.heap.size w Wa := by rw [hWa]; exact (Below.alloc (Below.refl _ _) (by simp <;> omega) _)
  have eWa : Hid (Wa.heap.size = w.heap.size + 1) := Lib.hid (by rw [hWa]; simp)
  clear hWa
  clear fWa0 eWa
  refine (KC.out Wa BWa).mono ?_; rintro e w2 ⟨rfl, hb2, hSC⟩
  have B2 : Below w.heap.size w w2 := BWa.trans (hb2.mono BWa.size)
  obtain ⟨g, hg⟩ : ∃ g, g = Wa.heap.size := ⟨_, rfl⟩
  rw [← hg] at hSC ⊢
  have hgs : g < w2.heap.size := hSC.1
  have CE : Hid (∀ W, Below w2.heap.size w2 W → ∀ i, i < n → (W.cell? ⟨g, i * 6, none⟩ = some (.int .i64 (vx l i).1) ∧ W.cell? ⟨g, i * 6 + 1, none⟩ = some (.int .i64 (vx l i).2) ∧ W.cell? ⟨g, i * 6 + 2, none⟩ = some (.int .i64 (vx l (i + n - 1)).1) ∧ W.cell? ⟨g, i * 6 + 3, none⟩ = some (.int .i64 (vx l (i + n - 1)).2) ∧ W.cell? ⟨g, i * 6 + 4, none⟩ = some (.int .i64 (vx l (i + 1)).1) ∧ W.cell? ⟨g, i * 6 + 5, none⟩ = some (.int .i64 (vx l (i + 1)).2))) := Lib.hid (fun W hW i hi => by
    obtain ⟨c0, c1, c2, c3, c4, c5⟩ := hSC.2.2 i hi
    have hc := (bcell hW).1
    exact ⟨(hc _ _ hgs).trans c0, (hc _ _ hgs).trans c1, (hc _ _ hgs).trans c2, (hc _ _ hgs).trans c3, (hc _ _ hgs).trans c4, (hc _ _ hgs).trans c5⟩)
  have TR : Hid (∀ W, Below w2.heap.size w2 W → Below w.heap.size w W) := Lib.hid (fun W hW => B2.trans (hW.mono B2.size))
  have P0 : Hid (∀ W, Below w2.heap.size w2 W → W.cell? ⟨w.heap.size, 0, none⟩ = some (.int .i64 p1) ∧ W.cell? ⟨w.heap.size, 1, none⟩ = some (.int .i64 p2)) := Lib.hid (fun W hW => by
    have z : w.heap.size < w2.heap.size := Nat.lt_of_lt_of_le zWa0 hb2.size
    exact ⟨((bcell hW).1 _ _ z).trans (((bcell hb2).1 _ _ zWa0).trans yWa0_0), ((bcell hW).1 _ _ z).trans (((bcell hb2).1 _ _ zWa0).trans yWa0_1)⟩)
  have zp2 : w.heap.size < w2.heap.size := Nat.lt_of_lt_of_le zWa0 hb2.size
  clear KC hb2 hSC B2 hg BWa zWa0 yWa0_0 yWa0_1
  go_wp2_with fail
  go_loopg [5, 12] n (fun gg s i wr => ∃ k : Nat, k ≤ n ∧ gg = n - k ∧ i = .int .i64 k ∧ s = .int .i64 (wnN l (p1, p2) k) ∧ Below w2.heap.size w2 wr ∧ Hid (∀ j, j < k → onE l (p1, p2) j = false))
  case atStart => exact ⟨0, Nat.zero_le _, rfl, rfl, by rw [HZ.out], Below.refl _ _, Lib.hid (fun j h => absurd h (Nat.not_lt_zero _))⟩
  case round =>
    obtain ⟨k, hk, hgg, rfl, rfl, hB, hF⟩ := hrel
    rename World => wo
    have HGK := Lib.hid hgg
    clear hgg
    by_cases hlt : k < n
    · obtain ⟨a1, a2, ha⟩ : ∃ a1 a2, vx l k = (a1, a2) := ⟨_, _, rfl⟩
      obtain ⟨b1, b2, hbb⟩ : ∃ b1 b2, vx l (k + 1) = (b1, b2) := ⟨_, _, rfl⟩
      obtain ⟨f1, f2, hff⟩ : ∃ f1 f2, vx l (k + n - 1) = (f1, f2) := ⟨_, _, rfl⟩
      obtain ⟨x0, x1, x2, x3, x4, x5⟩ := CE.out wo hB k hlt
      rw [ha] at x0 x1
      rw [hff] at x2 x3
      rw [hbb] at x4 x5
      simp only [] at x0 x1 x2 x3 x4 x5
      have za : Sz a1 a2 := by have := ZP.out k; rw [ha] at this; exact this
      have zb : Sz b1 b2 := by have := ZP.out (k + 1); rw [hbb] at this; exact this
      have KO := Lib.hid (fun W => isBetween_any p1 p2 a1 a2 b1 b2 W hp za zb)
      have KT := Lib.hid (fun W => twiceThree_any a1 a2 b1 b2 p1 p2 W za zb hp)
      have eon : onE l (p1, p2) k = onB a1 a2 b1 b2 p1 p2 := by unfold onE; rw [ha, hbb]
      have HON2 : Hid (onB a1 a2 b1 b2 p1 p2 = true → r = 0) := Lib.hid (fun h => HON.out k (eon.trans h))
      have HF2 : Hid (onB a1 a2 b1 b2 p1 p2 = false → ∀ j, j < k + 1 → onE l (p1, p2) j = false) := Lib.hid (fun h j hj => by
        by_cases e : j = k
        · subst e; exact eon.trans h
        · exact hF.out j (by omega))
      have ecr : wnN l (p1, p2) (k + 1) = wnN l (p1, p2) k + MJ.cr (a1, a2) (b1, b2) (p1, p2) := by have e : wnN l (p1, p2) (k + 1) = wnN l (p1, p2) k + crN l (p1, p2) k := rfl; rw [e]; unfold crN; rw [ha, hbb]
      have H1 : Hid ((a2 ≤ p2 ∧ p2 < b2 ∧ 0 < twI a1 a2 b1 b2 p1 p2) → wnN l (p1, p2) (k + 1) = wnN l (p1, p2) k + 1) := Lib.hid (fun h => by rw [ecr, cr_one (a := (a1, a2)) (b := (b1, b2)) (p := (p1, p2)) h])
      have HM : Hid ((b2 ≤ p2 ∧ p2 < a2 ∧ twI a1 a2 b1 b2 p1 p2 < 0) → wnN l (p1, p2) (k + 1) = wnN l (p1, p2) k - 1) := Lib.hid (fun h => by rw [ecr, cr_neg (a := (a1, a2)) (b := (b1, b2)) (p := (p1, p2)) h]; omega)
      have H0 : Hid (¬ (a2 ≤ p2 ∧ p2 < b2 ∧ 0 < twI a1 a2 b1 b2 p1 p2) → ¬ (b2 ≤ p2 ∧ p2 < a2 ∧ twI a1 a2 b1 b2 p1 p2 < 0) → wnN l (p1, p2) (k + 1) = wnN l (p1, p2) k) := Lib.hid (fun h h' => by rw [ecr, cr_nil (a := (a1, a2)) (b := (b1, b2)) (p := (p1, p2)) h h', Int.add_zero])
      have hbd := HBD.out k
      clear ha hbb hff za zb eon ecr hF
      generalize onB a1 a2 b1 b2 p1 p2 = ob at *
      generalize twI a1 a2 b1 b2 p1 p2 = t at *
      generalize wnN l (p1, p2) k = q at *
      obtain ⟨qb1, qb2⟩ := hbd
      obtain ⟨y0, y1⟩ := P0.out wo hB
      have hzB := hB.size
      have hgo : g < wo.heap.size := by omega
      have zpo : w.heap.size < wo.heap.size := by omega
      go_wp2_with fail
      obtain ⟨Wb, hWb⟩ : ∃ Wb, Wb = (wo.alloc (.cells #[.int .i64 a1, .int .i64 a2, .int .i64 f1, .int .i64 f2, .int .i64 b1, .int .i64 b2] 122)) := ⟨_, rfl⟩
      rw [← hWb]
      have yWb0_0 : Wb.cell? ⟨wo.heap.size, 0, none⟩ = some (.int .i64 a1) := by rw [hWb]; go_simp
      have yWb0_1 : Wb.cell? ⟨wo.heap.size, 1, none⟩ = some (.int .i64 a2) := by rw [hWb]; go_simp
      have yWb0_2 : Wb.cell? ⟨wo.heap.size, 2, none⟩ = some (.int .i64 f1) := by rw [hWb]; go_simp
      have yWb0_3 : Wb.cell? ⟨wo.heap.size, 3, none⟩ = some (.int .i64 f2) := by rw [hWb]; go_simp
      have yWb0_4 : Wb.cell? ⟨wo.heap.size, 4, none⟩ = some (.int .i64 b1) := by rw [hWb]; go_simp
      have yWb0_5 : Wb.cell? ⟨wo.heap.size, 5, none⟩ = some (.int .i64 b2) := by rw [hWb]; go_simp
      have fWb0 : ∀ o, Wb.frozen? ⟨wo.heap.size, o, none⟩ = false := by intro o; rw [hWb]; (repeat rw [frozen?_alloc_cells]); simp [World.frozen?]
      have zWb0 : wo.heap.size < Wb.heap.size := by rw [hWb]; simp <;> omega
      have BWb : Below wo.heap.size wo Wb := by rw [hWb]; exact (Below.alloc (Below.refl _ _) (by simp <;> omega) _)
      have eWb : Hid (Wb.heap.size = wo.heap.size + 1) := Lib.hid (by rw [hWb]; simp)
      clear hWb
      have BB : Below w2.heap.size w2 Wb := hB.trans (BWb.mono hzB)
      have zpb : w.heap.size < Wb.heap.size := by have := BWb.size; omega
      have hzW := BB.size
      clear x0 x1 x2 x3 x4 x5 y0 y1 fWb0 eWb hB BWb yWb0_2 yWb0_3
      refine (KO.out Wb).mono ?_; rintro e w3 ⟨rfl, hb3⟩
      have B3 := BB.trans (hb3.mono hzW)
      have v0 := ((bcell hb3).1 _ _ zWb0).trans yWb0_0
      have v1 := ((bcell hb3).1 _ _ zWb0).trans yWb0_1
      have v4 := ((bcell hb3).1 _ _ zWb0).trans yWb0_4
      have v5 := ((bcell hb3).1 _ _ zWb0).trans yWb0_5
      obtain ⟨y0, y1⟩ := P0.out w3 B3
      have z3 := hb3.size
      have zb3 : wo.heap.size < w3.heap.size := by omega
      have zp3 : w.heap.size < w3.heap.size := by omega
      clear hb3 BB yWb0_0 yWb0_1 yWb0_4 yWb0_5 KO zWb0 zpb
      cases ob
      · have HF3 := Lib.hid (HF2.out rfl)
        clear HF2 HON2
        have hz3 := B3.size
        go_wp2_with fail
        refine (KT.out w3).mono ?_; rintro e w4 ⟨rfl, hb4⟩
        have B4 := B3.trans (hb4.mono hz3)
        have u1 := ((bcell hb4).1 _ _ zb3).trans v1
        have u5 := ((bcell hb4).1 _ _ zb3).trans v5
        clear y0 y1
        obtain ⟨y0, y1⟩ := P0.out w4 B4
        have z4 := hb4.size
        have zb4 : wo.heap.size < w4.heap.size := by omega
        have zp4 : w.heap.size < w4.heap.size := by omega
        clear hb4 v0 v1 v4 v5 B3
        by_cases d1 : a2 ≤ p2
        · by_cases d2 : p2 < b2
          · have d4 : ¬ b2 ≤ p2 := by omega
            by_cases d3 : 0 < t
            · have e1 : IntKind.i64.wrap (q + 1) = q + 1 := IntWalk.i64_in _ (by omega)
              have hst := Lib.hid (H1.out ⟨d1, d2, d3⟩)
              clear H1 H0 HM TR P0
              go_wp2_with fail
              go_roundg (n - (k + 1))
              case measure => have := HGK.out; omega
              case rel => exact ⟨k + 1, by omega, rfl, by go_num, by rw [hst.out], B4, HF3⟩
            · have hst := Lib.hid (H0.out (fun h => d3 h.2.2) (fun h => d4 h.1))
              clear H1 H0 HM TR P0
              go_wp2_with fail
              go_roundg (n - (k + 1))
              case measure => have := HGK.out; omega
              case rel => exact ⟨k + 1, by omega, rfl, by go_num, by rw [hst.out], B4, HF3⟩
          · have d4 : b2 ≤ p2 := by omega
            have d5 : ¬ p2 < a2 := by omega
            have hst := Lib.hid (H0.out (fun h => d2 h.2.1) (fun h => d5 h.2.1))
            clear H1 H0 HM TR P0
            go_wp2_with fail
            go_roundg (n - (k + 1))
            case measure => have := HGK.out; omega
            case rel => exact ⟨k + 1, by omega, rfl, by go_num, by rw [hst.out], B4, HF3⟩
        · have d5 : p2 < a2 := by omega
          by_cases d4 : b2 ≤ p2
          · by_cases d3 : t < 0
            · have e1 : IntKind.i64.wrap (q - 1) = q - 1 := IntWalk.i64_in _ (by omega)
              have hst := Lib.hid (HM.out ⟨d4, d5, d3⟩)
              clear H1 H0 HM TR P0
              go_wp2_with fail
              go_roundg (n - (k + 1))
              case measure => have := HGK.out; omega
              case rel => exact ⟨k + 1, by omega, rfl, by go_num, by rw [hst.out], B4, HF3⟩
            · have hst := Lib.hid (H0.out (fun h => d1 h.1) (fun h => d3 h.2.2))
              clear H1 H0 HM TR P0
              go_wp2_with fail
              go_roundg (n - (k + 1))
              case measure => have := HGK.out; omega
              case rel => exact ⟨k + 1, by omega, rfl, by go_num, by rw [hst.out], B4, HF3⟩
          · have hst := Lib.hid (H0.out (fun h => d1 h.1) (fun h => d4 h.1))
            clear H1 H0 HM TR P0
            go_wp2_with fail
            go_roundg (n - (k + 1))
            case measure => have := HGK.out; omega
            case rel => exact ⟨k + 1, by omega, rfl, by go_num, by rw [hst.out], B4, HF3⟩
      · have hr := Lib.hid (HON2.out rfl)
        have BE := Lib.hid (TR.out w3 B3)
        go_wp2_with fail
        go_ret
        exact ⟨ret_int hr.out.symm, BE.out⟩
    · have hkn : n = k := by omega
      subst hkn
      have hy := Lib.hid (HX.out (fun j hj => hF.out j hj))
      have BE := Lib.hid (TR.out wo hB)
      by_cases hx : wnN l (p1, p2) n = 0
      · rw [if_pos hx] at hy
        rw [hx]
        clear hx
        go_wp2_with fail
        go_ret
        exact ⟨ret_int hy.out.symm, BE.out⟩
      · rw [if_neg hx] at hy
        have hxb : (wnN l (p1, p2) n == 0) = false := by simpa using hx
        generalize wnN l (p1, p2) n = q at *
        go_wp2_with fail
        go_ret
        exact ⟨ret_int hy.out.symm, BE.out⟩
end Go.Proofs.Ytieimijkkjhegaa

