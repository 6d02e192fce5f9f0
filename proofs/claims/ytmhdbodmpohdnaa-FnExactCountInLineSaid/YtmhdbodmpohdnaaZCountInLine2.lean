/- joined: Rt Tb00 Tb0 Tb On Os Te Ki Tl Tm Tn Tix Ot Oc Ou Tc Ox Oy -/
import Derived.Test.YtmhdbodmpohdnaaZCountInLine1
import Derived.StillTail
import Derived.RangeFuncNested
import Derived.RangeFuncBound
import Derived.RangeFuncCalls
import Derived.RangeFuncLeaves
import Derived.Shelf.Abstract
import Derived.Shelf.RegionOpen
import Derived.WalkKit
import Derived.OwnWalkIn
import Derived.TacticsInMore
import Derived.LoopNIn
import Derived.LoopIn
import Derived.LoopTactic
import Derived.BigRegion
import Derived.Maps.OwnIn
import Derived.Maps.OwnOps
import Derived.Maps.OwnSet
/- A statement that leaves the order of its first operations open, all of which come to one value in every world that meets S and lead to such a world again; the last ones stand in one order: one walk, in the order of the text. -/
namespace Go.Proofs.Ytmhdbodmpohdnaa
open Go.ChangeShapes Go.WideShapes Go.ChangeAt Go.RowKit Go.Joins
set_option linter.unusedVariables false
set_option linter.unusedSimpArgs false
set_option maxRecDepth 4000
section
variable {P : Program} {ops : Array Oper} {md : Region.Mode} {S : World → Prop}
def wpAnyS (P : Program) (md : Region.Mode) (ops : Array Oper) (S : World → Prop) (n : Nat) (L : Array Bool → Act → Prop) : Nat → Array Bool → Act → Prop
  | 0, listed, a => L listed a
  | f + 1, listed, a => Region.ready md ops listed ≠ [] ∧ ∀ i ∈ Region.ready md ops listed, i < n ∧ ∃ oi v, ops[i]? = some oi ∧ Steady P ops S oi v a ∧ wpAnyS P md ops S n L f (listed.setIfInBounds i true) (a.put oi.dst v)
theorem wpAny_of_S {n g : Nat} {L : Array Bool → Act → Prop} {Q : Exit → Act → World → Prop} (hL : ∀ listed a, L listed a → ∀ w, S w → wpAny P md ops Q g listed a w) :
    ∀ (f : Nat) (listed : Array Bool) (a : Act), wpAnyS P md ops S n L f listed a → ∀ w, S w → wpAny P md ops Q (f + g) listed a w
  | 0, listed, a, h, w, hS => by rw [Nat.zero_add]; exact hL _ _ h w hS
  | f + 1, listed, a, h, w, hS => by
    rw [show f + 1 + g = (f + g) + 1 by omega]
    exact ⟨fun h0 => absurd h0 h.1, fun i hi => by
      obtain ⟨_, oi, v, ho, hy, hn⟩ := h.2 i hi
      exact steady_op ho hy hS fun w' hS' => wpAny_of_S hL f _ _ hn w' hS'⟩
theorem wpAnyS_first {n i : Nat} {oi : Oper} {v : Value} {L : Array Bool → Act → Prop} (hi : ops[i]? = some oi) (hsel : ∀ (j : Nat) (o : Oper) cs b, ops[j]? = some o → o.op ≠ .select cs b)
    (hs : Region.sinkB md ops n = true) (hc : Region.chainB md ops n = true) (hn : n < ops.size) (hin : i < n)
    (hdone : ∀ listed a, L listed a → ∀ j ∈ Region.ready md ops listed, n ≤ j) :
    ∀ (f : Nat) (listed : Array Bool) (a : Act), HeadInv md ops n listed →
      (∀ j oj, ops[j]? = some oj → j ≠ i → listed.getD j true = false → (∀ e ∈ oj.after, Region.binds md e = true → e.on ≠ i) → oi.apart ops oj = true) →
      i ∈ Region.ready md ops listed → Steady P ops S oi v a →
      wpAnyS P md ops S n L f (listed.setIfInBounds i true) (a.put oi.dst v) → wpAnyS P md ops S n L (f + 1) listed a := by
  intro f
  induction f with
  | zero =>
    intro listed a inv _ hr hy H
    have hun := (mem_ready.1 hr).1
    refine ⟨fun h => (by rw [h] at hr; cases hr), fun j hj => ?_⟩
    have hjn : j < n := by
      rcases Nat.lt_or_ge j n with h | h
      · exact h
      · exact absurd hj (tail_waits hs hc hn inv _ i rfl hin hun j h)
    refine ⟨hjn, ?_⟩
    by_cases hji : j = i
    · subst hji; exact ⟨oi, v, hi, hy, H⟩
    · have := hdone _ _ H j (ready_mono hj hji)
      omega
  | succ f ih =>
    intro listed a inv hfree hr hy H
    have hun := (mem_ready.1 hr).1
    refine ⟨fun h => (by rw [h] at hr; cases hr), fun j hj => ?_⟩
    have hjn : j < n := by
      rcases Nat.lt_or_ge j n with h | h
      · exact h
      · exact absurd hj (tail_waits hs hc hn inv _ i rfl hin hun j h)
    refine ⟨hjn, ?_⟩
    by_cases hji : j = i
    · subst hji; exact ⟨oi, v, hi, hy, H⟩
    · obtain ⟨_, oj, u, hoj, hsj, Hj⟩ := H.2 j (ready_mono hj hji)
      obtain ⟨hjun, oj', hoj', hall⟩ := mem_ready.1 hj
      obtain rfl : oj' = oj := Option.some.inj (hoj'.symm.trans hoj)
      have hnot : ∀ e ∈ oj'.after, Region.binds md e = true → e.on ≠ i := fun e he hb heq => by
        have h1 := hall e he hb
        rw [heq, getD_both hun] at h1
        cases h1
      obtain ⟨h1, h2, h3⟩ := Oper.apart_spec (hfree j oj' hoj hji hjun hnot)
      have k1 : Steady P ops S oj' u a := steady_same hsj (execOp_put oj' (fun cs b => hsel j oj' cs b hoj) a oi.dst v h1).symm (wanted_put oj' a oi.dst v h1).symm
      have k2 : Steady P ops S oi v (a.put oj'.dst u) := steady_same hy (execOp_put oi (fun cs b => hsel i oi cs b hi) a oj'.dst u h3) (wanted_put oi a oj'.dst u h3)
      refine ⟨oj', u, hoj, k1, ih _ _ (inv.set hj hjn) (fun k ok hk hki hun hno => ?_) (ready_mono hr (Ne.symm hji)) k2 ?_⟩
      · refine hfree k ok hk hki ?_ hno
        by_cases hjk : j = k
        · subst hjk; exact hjun
        · rw [getD_set_ne true hjk] at hun; exact hun
      · rw [Array.setIfInBounds_comm _ _ hji, ← Act.put_comm a v u h2]
        exact Hj
/-- the head, in the text's order -/
def wpH (P : Program) (ops : Array Oper) (S : World → Prop) (T : Act → Prop) : List Oper → Act → Prop
  | [], a => T a
  | o :: rest, a => ∃ v, Steady P ops S o v a ∧ wpH P ops S T rest (a.put o.dst v)
theorem wpAnyS_lex {n g : Nat} {T : Act → Prop} (hsel : Region.noSelect ops = true) (hs : Region.sinkB md ops n = true) (hc : Region.chainB md ops n = true) (hn : n < ops.size) :
    ∀ (l : List Oper) (k : Nat) (listed : Array Bool) (a : Act), (∀ j, j < l.length → l[j]? = ops[k + j]?) → k + l.length = n → HeadInv md ops n listed →
    Region.lexHead md ops g l.length k listed = true → wpH P ops S T l a →
    wpAnyS P md ops S n (fun listed' a' => Region.seqB md ops g n listed' = true ∧ T a') l.length listed a
  | [], k, listed, a, _, hk, _, hB, h => by
    have : k = n := by simpa using hk
    subst this
    exact ⟨by simpa [Region.lexHead] using hB, h⟩
  | o :: l, k, listed, a, hl, hk, inv, hB, h => by
    have h0 : ops[k]? = some o := by simpa using (hl 0 (by simp)).symm
    simp only [List.length_cons, Region.lexHead, Bool.and_eq_true] at hB
    obtain ⟨⟨hr, hf⟩, hB'⟩ := hB
    have hkn : k < n := by simp only [List.length_cons] at hk; omega
    have hr' : k ∈ Region.ready md ops listed := by simpa using hr
    obtain ⟨v, hy, hK⟩ := h
    exact wpAnyS_first h0 (Region.noSelect_spec hsel) hs hc hn hkn (fun listed' a' hL => seqB_ready hL.1) l.length listed a inv (Region.free_spec h0 hf) hr' hy
      (wpAnyS_lex hsel hs hc hn l (k + 1) _ _ (fun j hj => by have := hl (j + 1) (by simp; omega); simpa [Nat.add_assoc, Nat.add_comm 1 j] using this) (by simp only [List.length_cons] at hk; omega) (inv.set hr' hkn) hB' hK)
theorem wp_region_BT {id : Nat} {Q : Exit → Act → World → Prop} {a : Act} {w : World} {l : List Oper} (n : Nat) (S : World → Prop) (hm : P.follows .mixedOrders = true) (hB : Region.lexTailB .any l.toArray n = true) (hS : S w.drew)
    (h : wpH P l.toArray S (fun a' => ∀ W, S W → wpList P l.toArray Q (l.drop n) a' W) (l.take n) a) : (Code.region id l.toArray true).wp P Q a w := by
  simp only [Region.lexTailB, Bool.and_eq_true, decide_eq_true_eq] at hB
  obtain ⟨⟨⟨⟨hsel, hn⟩, hs⟩, hc⟩, hlex⟩ := hB
  have hn' : n < l.length := by simpa using hn
  have htl : (l.take n).length = n := by simp; omega
  have hdl : (l.drop n).length = l.toArray.size - n := by simp
  have inv0 : HeadInv .any l.toArray n (Array.replicate l.toArray.size false) :=
    ⟨by simp, fun j oj _ hl => (by rw [getD_replicate_false] at hl; cases hl), fun t _ ht => getD_in (by simpa using ht) (getD_replicate_false _ _)⟩
  have H := wpAnyS_lex (md := .any) (g := l.toArray.size - n) hsel hs hc hn (l.take n) 0 _ a (fun j hj => by
    have hj' : j < n := by rw [htl] at hj; exact hj
    simp [hj']) (by simpa using htl) inv0 (by rw [htl]; exact hlex) h
  refine wp_region_any hm ?_
  have := wpAny_of_S (Q := Q) (g := l.toArray.size - n) (fun listed a' hL W hW => by
    have := wpAny_of_seq (md := .any) (Q' := Q) (l.drop n) n listed a' W (fun j => by simp [List.getElem?_drop]) (by rw [hdl]; exact hL.1) (hL.2 W hW)
    rwa [hdl] at this) _ _ _ H w.drew hS
  rw [htl, show n + (l.toArray.size - n) = l.toArray.size by omega] at this
  exact this
theorem wpH_text {T : Act → Prop} {o : Oper} {rest : List Oper} {a : Act} {v : Value} (hw : Region.wanted o (yielded ops a.tmps) = true) (hy : ∀ w, S w → Comes P S v ((execOp a.eval o).run P w))
    (h : wpH P ops S T rest (a.put o.dst v)) : wpH P ops S T (o :: rest) a := ⟨v, Or.inl ⟨hw, hy⟩, h⟩
theorem wpH_skip {T : Act → Prop} {o : Oper} {rest : List Oper} {a : Act} (hw : Region.wanted o (yielded ops a.tmps) = false)
    (h : wpH P ops S T rest (a.put o.dst undef)) : wpH P ops S T (o :: rest) a := ⟨undef, Or.inr ⟨hw, rfl⟩, h⟩
theorem wpH_nil {T : Act → Prop} {a : Act} (h : T a) : wpH P ops S T [] a := h
end
end Go.Proofs.Ytmhdbodmpohdnaa
/- contracts: differences of points, squares -/
namespace Go.Proofs.Ytmhdbodmpohdnaa
open Go.ChangeShapes Go.WideShapes Go.ChangeAt Go.RowKit Go.Joins
set_option linter.unusedVariables false
set_option linter.unusedSimpArgs false
set_option maxRecDepth 4000
/-- numbers that leave room -/
def Mid (x : Int) : Prop := -1000000000000 ≤ x ∧ x ≤ 1000000000000
theorem minus_any (a1 a2 b1 b2 : Int) (w : World) (h1 : Mid a1) (h2 : Mid a2) (h3 : Mid b1) (h4 : Mid b2) :
    Calls Try.prog 56 #[.agg #[.int .i64 a1, .int .i64 a2], .agg #[.int .i64 b1, .int .i64 b2]] w fun e w' => e = .returned (.agg #[.int .i64 (a1 - b1), .int .i64 (a2 - b2)]) ∧ Below w.heap.size w w' := by
  obtain ⟨x1, x2⟩ := h1
  obtain ⟨x3, x4⟩ := h2
  obtain ⟨x5, x6⟩ := h3
  obtain ⟨x7, x8⟩ := h4
  go_enter Try.func56, Try.ntmps56
  go_wp2
  refine bodyPost_ret (v := .agg #[.int .i64 (a1 - b1), .int .i64 (a2 - b2)]) (by simp [results, Try.results56, go_sem]) rfl ⟨rfl, ?_⟩
  repeat (first | with_reducible assumption | with_reducible exact Below.refl _ _ | with_reducible apply Below.drew | ((with_reducible refine Below.setCell ?_ ?_ _); rotate_left; (first | exact Nat.le_refl _ | omega | (simp <;> omega))) | ((with_reducible refine Below.alloc ?_ ?_ _); rotate_left; (first | omega | (simp <;> omega))))
theorem sq_bd {x : Int} (h : -100000000 ≤ x ∧ x ≤ 100000000) : 0 ≤ x * x ∧ x * x ≤ 10000000000000000 := by
  have h1 := mul_bd (x := x) (y := x) (m := 100000000) (n := 100000000) (by omega) (by omega) (by omega) (by omega)
  refine ⟨?_, by omega⟩
  rcases Int.le_total 0 x with h | h
  · exact Int.mul_nonneg h h
  · have := Int.mul_nonneg (show 0 ≤ -x by omega) (show 0 ≤ -x by omega)
    rwa [Int.neg_mul_neg] at this
theorem square_any (a1 a2 : Int) (w : World) (h1 : -100000000 ≤ a1 ∧ a1 ≤ 100000000) (h2 : -100000000 ≤ a2 ∧ a2 ≤ 100000000) :
    Calls Try.prog 74 #[.agg #[.int .i64 a1, .int .i64 a2]] w fun e w' => e = .returned (.int .i64 (a1 * a1 + a2 * a2)) ∧ Below w.heap.size w w' := by
  obtain ⟨x1, x2⟩ := sq_bd h1
  obtain ⟨x3, x4⟩ := sq_bd h2
  go_enter Try.func74, Try.ntmps74
  go_wp2
  go_ret
  exact ⟨rfl, (by repeat (first | exact Below.refl _ _ | assumption | apply Below.drew | refine Below.alloc ?_ (by simp <;> omega) _))⟩
end Go.Proofs.Ytmhdbodmpohdnaa
/- contracts: sums and differences of points; a triangle's area and sum -/
namespace Go.Proofs.Ytmhdbodmpohdnaa
open Go.ChangeShapes Go.WideShapes Go.ChangeAt Go.RowKit Go.Joins
set_option linter.unusedVariables false
set_option linter.unusedSimpArgs false
set_option maxRecDepth 4000
/-- a triangle as a value -/
def thr (a1 a2 b1 b2 c1 c2 : Int) : Value := .agg #[.int .i64 a1, .int .i64 a2, .int .i64 b1, .int .i64 b2, .int .i64 c1, .int .i64 c2]
theorem twice_any (a1 a2 b1 b2 c1 c2 : Int) (w : World) (ha : Sz a1 a2) (hb : Sz b1 b2) (hc : Sz c1 c2) :
    Calls Try.prog 72 #[.agg #[.int .i64 a1, .int .i64 a2, .int .i64 b1, .int .i64 b2, .int .i64 c1, .int .i64 c2]] w fun e w' => e = .returned (.int .i64 (twI a1 a2 b1 b2 c1 c2)) ∧ Below w.heap.size w w' := by
  have K := Lib.hid (fun W => twiceThree_any a1 a2 b1 b2 c1 c2 W ha hb hc)
  clear ha hb hc
  go_enter Try.func72, Try.ntmps72
  go_wp2_with fail
  refine (K.out _).mono ?_; rintro e w1 ⟨rfl, hb1⟩
  obtain ⟨hc1, hf1⟩ := bcell hb1
  have z1_0 : w.heap.size < w1.heap.size := by (have := hb1.size; simp at this; omega)
  have B1 : Below w.heap.size w w1 := (Below.alloc (Below.refl _ _) (by simp <;> omega) _).trans (hb1.mono (by simp <;> omega))
  go_wp2_with fail
  go_ret
  exact ⟨rfl, B1⟩
end Go.Proofs.Ytmhdbodmpohdnaa
/- contracts: points added, and taken several times -/
namespace Go.Proofs.Ytmhdbodmpohdnaa
open Go.ChangeShapes Go.WideShapes Go.ChangeAt Go.RowKit Go.Joins
set_option linter.unusedVariables false
set_option linter.unusedSimpArgs false
set_option maxRecDepth 4000
theorem plus_any (a1 a2 b1 b2 : Int) (w : World) (h1 : Mid a1) (h2 : Mid a2) (h3 : Mid b1) (h4 : Mid b2) :
    Calls Try.prog 68 #[.agg #[.int .i64 a1, .int .i64 a2], .agg #[.int .i64 b1, .int .i64 b2]] w fun e w' => e = .returned (.agg #[.int .i64 (a1 + b1), .int .i64 (a2 + b2)]) ∧ Below w.heap.size w w' := by
  obtain ⟨x1, x2⟩ := h1
  obtain ⟨x3, x4⟩ := h2
  obtain ⟨x5, x6⟩ := h3
  obtain ⟨x7, x8⟩ := h4
  go_enter Try.func68, Try.ntmps68
  go_wp2
  refine bodyPost_ret (v := .agg #[.int .i64 (a1 + b1), .int .i64 (a2 + b2)]) (by simp [results, Try.results68, go_sem]) rfl ⟨rfl, ?_⟩
  repeat (first | with_reducible assumption | with_reducible exact Below.refl _ _ | with_reducible apply Below.drew | ((with_reducible refine Below.setCell ?_ ?_ _); rotate_left; (first | exact Nat.le_refl _ | omega | (simp <;> omega))) | ((with_reducible refine Below.alloc ?_ ?_ _); rotate_left; (first | omega | (simp <;> omega))))
theorem times_any (a1 a2 n : Int) (w : World) (h1 : -1000000000000000 ≤ a1 * n ∧ a1 * n ≤ 1000000000000000) (h2 : -1000000000000000 ≤ a2 * n ∧ a2 * n ≤ 1000000000000000) :
    Calls Try.prog 57 #[.agg #[.int .i64 a1, .int .i64 a2], .int .i64 n] w fun e w' => e = .returned (.agg #[.int .i64 (a1 * n), .int .i64 (a2 * n)]) ∧ Below w.heap.size w w' := by
  obtain ⟨x1, x2⟩ := h1
  obtain ⟨x3, x4⟩ := h2
  go_enter Try.func57, Try.ntmps57
  go_wp2
  refine bodyPost_ret (v := .agg #[.int .i64 (a1 * n), .int .i64 (a2 * n)]) (by simp [results, Try.results57, go_sem]) rfl ⟨rfl, ?_⟩
  repeat (first | with_reducible assumption | with_reducible exact Below.refl _ _ | with_reducible apply Below.drew | ((with_reducible refine Below.setCell ?_ ?_ _); rotate_left; (first | exact Nat.le_refl _ | omega | (simp <;> omega))) | ((with_reducible refine Below.alloc ?_ ?_ _); rotate_left; (first | omega | (simp <;> omega))))
end Go.Proofs.Ytmhdbodmpohdnaa
/- contract: how many pegs of a board follow each other -/
namespace Go.Proofs.Ytmhdbodmpohdnaa
open Go.ChangeShapes Go.WideShapes Go.ChangeAt Go.RowKit Go.Joins
set_option linter.unusedVariables false
set_option linter.unusedSimpArgs false
set_option maxRecDepth 4000
/-- a point of the call's own, in block b -/
structure PtC (w W : World) (b : Nat) (x y : Int) : Prop where
  lo : w.heap.size ≤ b
  hi : b < W.heap.size
  c0 : W.cell? ⟨b, 0, none⟩ = some (.int .i64 x)
  c1 : W.cell? ⟨b, 1, none⟩ = some (.int .i64 y)
  fz : ∀ o, W.frozen? ⟨b, o, none⟩ = false
theorem PtC.up {w W W' : World} {b : Nat} {x y : Int} (h : PtC w W b x y) (hb : Below W.heap.size W W') : PtC w W' b x y :=
  ⟨h.lo, Nat.lt_of_lt_of_le h.hi hb.size, ((bcell hb).1 _ _ h.hi).trans h.c0, ((bcell hb).1 _ _ h.hi).trans h.c1, fun o => ((bcell hb).2 _ _ h.hi).trans (h.fz o)⟩
theorem PtC.new {w W : World} (hs : w.heap.size ≤ W.heap.size) (x y : Int) (t : TypeId) : PtC w (W.alloc (.cells #[.int .i64 x, .int .i64 y] t)) W.heap.size x y :=
  ⟨hs, by simp, by go_simp, by go_simp, fun o => by (repeat rw [frozen?_alloc_cells]); simp [World.frozen?]⟩
theorem PtC.store {w W : World} {b : Nat} {x y : Int} (h : PtC w W b x y) (x' y' : Int) : PtC w ((W.setCell ⟨b, 0, none⟩ (.int .i64 x')).setCell ⟨b, 1, none⟩ (.int .i64 y')) b x' y' := by
  have e0 := World.cell?_setCell_same W ⟨b, 0, none⟩ (.int .i64 x') h.c0
  have e1 : (W.setCell ⟨b, 0, none⟩ (.int .i64 x')).cell? ⟨b, 1, none⟩ = some (.int .i64 y) := (World.cell?_setCell_other W ⟨b, 0, none⟩ ⟨b, 1, none⟩ _ (by simp)).trans h.c1
  have e2 := World.cell?_setCell_same (W.setCell ⟨b, 0, none⟩ (.int .i64 x')) ⟨b, 1, none⟩ (.int .i64 y') e1
  have e3 : ((W.setCell ⟨b, 0, none⟩ (.int .i64 x')).setCell ⟨b, 1, none⟩ (.int .i64 y')).cell? ⟨b, 0, none⟩ = some (.int .i64 x') := (World.cell?_setCell_other _ ⟨b, 1, none⟩ ⟨b, 0, none⟩ _ (by simp)).trans e0
  exact ⟨h.lo, by simp only [World.size_setCell]; exact h.hi, e3, e2, fun o => by rw [World.frozen?_setCell, World.frozen?_setCell]; exact h.fz o⟩
set_option maxHeartbeats 4000000 in
theorem countAlong_any (nw nh : Nat) (p1 p2 s1 s2 : Int) (w : World) (h1 : nw ≤ 12) (h2 : nh ≤ 12) (hp1 : 0 ≤ p1 ∧ p1 ≤ 12) (hp2 : 0 ≤ p2 ∧ p2 ≤ 12) (hs1 : -12 ≤ s1 ∧ s1 ≤ 12) (hs2 : -12 ≤ s2 ∧ s2 ≤ 12) (hpos : 1 ≤ s1 ∨ (s1 = 0 ∧ 1 ≤ s2)) :
    Calls Try.prog 70 #[.agg #[.int .i64 nw, .int .i64 nh], .agg #[.int .i64 p1, .int .i64 p2], .agg #[.int .i64 s1, .int .i64 s2]] w fun e w' => e = .returned (.int .i64 (alg nw nh s1 s2 13 p1 p2)) ∧ Below w.heap.size w w' := by
  have KH : Hid (∀ x y W, Calls Try.prog 46 #[.agg #[.int .i64 nw, .int .i64 nh], .agg #[.int .i64 x, .int .i64 y]] W fun e w' => e = .returned (.bool (onQ nw nh x y)) ∧ Below W.heap.size W w') :=
    Lib.hid (fun x y W => by rw [onQ_eq]; exact has_any nw nh x y W (by omega) (by omega))
  have KP : Hid (∀ x y W, -24 ≤ x ∧ x ≤ 24 → -24 ≤ y ∧ y ≤ 24 → Calls Try.prog 68 #[.agg #[.int .i64 x, .int .i64 y], .agg #[.int .i64 s1, .int .i64 s2]] W fun e w' => e = .returned (.agg #[.int .i64 (x + s1), .int .i64 (y + s2)]) ∧ Below W.heap.size W w') :=
    Lib.hid (fun x y W hx hy => plus_any x y s1 s2 W (by unfold Mid; omega) (by unfold Mid; omega) (by unfold Mid; omega) (by unfold Mid; omega))
  have HP0 : Hid (potP nw nh s1 s2 13 p1 p2) := Lib.hid (by unfold potP; omega)
  have HON : Hid (∀ f x y, potP nw nh s1 s2 f x y → onQ nw nh x y = true → ∃ g, f = g + 1 ∧ potP nw nh s1 s2 g (x + s1) (y + s2) ∧ 0 ≤ x ∧ x < nw ∧ 0 ≤ y ∧ y < nh) := Lib.hid (fun f x y h1 h2 => pot_on h1 h2)
  have HA1 : Hid (∀ g x y, onQ nw nh x y = true → alg nw nh s1 s2 (g + 1) x y = 1 + alg nw nh s1 s2 g (x + s1) (y + s2)) := Lib.hid (fun g x y h => alg_on h)
  have HA0 : Hid (∀ f x y, onQ nw nh x y = false → alg nw nh s1 s2 f x y = 0) := Lib.hid (fun f x y h => alg_off h)
  have HW : Hid (nw ≤ 12 ∧ nh ≤ 12) := Lib.hid ⟨h1, h2⟩
  have HS : Hid ((-12 ≤ s1 ∧ s1 ≤ 12) ∧ (-12 ≤ s2 ∧ s2 ≤ 12)) := Lib.hid ⟨hs1, hs2⟩
  have HT : Hid (∃ T, T = alg nw nh s1 s2 13 p1 p2) := Lib.hid ⟨_, rfl⟩
  obtain ⟨T, hT⟩ := HT.out
  rw [← hT]
  have HTE := Lib.hid hT
  clear hpos HT hT hs1 hs2 h1 h2
  generalize alg nw nh s1 s2 = G at *
  generalize potP nw nh s1 s2 = PP at *
  generalize onQ nw nh = O at *
  go_enter Try.func70, Try.ntmps70
  go_wp2_with fail
  obtain ⟨W0, hW0⟩ : ∃ W0, W0 = ((w.alloc (.cells #[.int .i64 (nw : Int), .int .i64 (nh : Int)] 34)).alloc (.cells #[.int .i64 p1, .int .i64 p2] 28)).alloc (.cells #[.int .i64 s1, .int .i64 s2] 28) := ⟨_, rfl⟩
  have QP := Lib.hid (PtC.new (w := W0) (Nat.le_refl _) p1 p2 28)
  have BP := Below.alloc (Below.refl W0.heap.size W0) (Nat.le_refl _) (.cells #[.int .i64 p1, .int .i64 p2] 28)
  have eW0 : Hid (W0.heap.size = w.heap.size + 3) := Lib.hid (by rw [hW0]; simp)
  have BW0 : Below w.heap.size w W0 := by rw [hW0]; exact Below.alloc (Below.alloc (Below.alloc (Below.refl _ _) (by simp) _) (by simp) _) (by simp <;> omega) _
  have b0 : W0.cell? ⟨w.heap.size, 0, none⟩ = some (.int .i64 (nw : Int)) := by rw [hW0]; go_simp
  have b1 : W0.cell? ⟨w.heap.size, 1, none⟩ = some (.int .i64 (nh : Int)) := by rw [hW0]; go_simp
  have d0 : W0.cell? ⟨w.heap.size + 2, 0, none⟩ = some (.int .i64 s1) := by rw [hW0]; go_simp
  have d1 : W0.cell? ⟨w.heap.size + 2, 1, none⟩ = some (.int .i64 s2) := by rw [hW0]; go_simp
  have zb : w.heap.size < W0.heap.size := by have := eW0.out; omega
  have zd : w.heap.size + 2 < W0.heap.size := by have := eW0.out; omega
  have QP1 : Hid (PtC W0 (W0.alloc (.cells #[.int .i64 p1, .int .i64 p2] 28)) (w.heap.size + 1 + 1 + 1) p1 p2) := Lib.hid (by rw [show w.heap.size + 1 + 1 + 1 = W0.heap.size by have := eW0.out; omega]; exact QP.out)
  clear QP
  rw [← hW0]
  clear hW0
  go_loopg [7, 8] 14 (fun g s q wr => ∃ (f j b : Nat) (x y : Int), g = f + 1 ∧ j + f = 13 ∧ s = .int .i64 (j : Int) ∧ q = .pointer (some ⟨b, 0, none⟩) ∧ Below W0.heap.size W0 wr ∧ Hid (PtC W0 wr b x y) ∧ Hid (PP f x y) ∧ Hid (T = j + G f x y) ∧ (-12 ≤ x ∧ x ≤ 24) ∧ (-12 ≤ y ∧ y ≤ 24))
  case atStart => exact ⟨13, 0, _, p1, p2, rfl, rfl, rfl, rfl, BP, QP1, HP0, Lib.hid (by rw [HTE.out, Nat.zero_add]), by omega, by omega⟩
  case round =>
    clear QP1 BP
    obtain ⟨f, j, b, x, y, hg, hj, rfl, rfl, hB, hQ, hP, hE, hx, hy⟩ := hrel
    rename World => wo
    have HGK := Lib.hid hg
    clear hg
    have q0 := hQ.out.c0
    have q1 := hQ.out.c1
    have qz := hQ.out.hi
    have r0 := ((bcell hB).1 _ 0 zb).trans b0
    have r1 := ((bcell hB).1 _ 1 zb).trans b1
    have zo := Nat.lt_of_lt_of_le zb hB.size
    have KHx := Lib.hid (fun W => KH.out x y W)
    by_cases ho : O x y = true
    · obtain ⟨g, hf, hP2, k1, k2, k3, k4⟩ := HON.out f x y hP.out ho
      have hW := HW.out
      have hS := HS.out
      have HE2 := Lib.hid (HA1.out g x y ho)
      rw [ho] at KHx
      have HP2 := Lib.hid hP2
      have KPx := Lib.hid (fun W => KP.out x y W (by omega) (by omega))
      have HFG := Lib.hid hf
      clear hP hP2 hf ho
      go_wp2_with fail
      refine (KHx.out wo).mono ?_; rintro e w1 ⟨rfl, hb1⟩
      have B1 := hB.trans (hb1.mono hB.size)
      have Q1 := hQ.out.up hb1
      clear hQ q0 q1 qz r0 r1 hb1 KHx
      have q0 := Q1.c0
      have q1 := Q1.c1
      have qz := Q1.hi
      have d0' := ((bcell B1).1 _ 0 zd).trans d0
      have d1' := ((bcell B1).1 _ 1 zd).trans d1
      have zd' := Nat.lt_of_lt_of_le zd B1.size
      have zo1 := B1.size
      have QN := PtC.new (w := W0) (W := w1) zo1 x y 28
      have BN := Below.alloc B1 zo1 (.cells #[.int .i64 x, .int .i64 y] 28)
      have HQN := Lib.hid QN
      have HBN := Lib.hid BN
      clear QN BN Q1
      go_wp2_with fail
      obtain ⟨w2, hw2⟩ : ∃ w2, w2 = w1.alloc (.cells #[.int .i64 x, .int .i64 y] 28) := ⟨_, rfl⟩
      rw [← hw2] at HQN HBN ⊢
      clear hw2
      refine (KPx.out w2).mono ?_; rintro e w3 ⟨rfl, hb3⟩
      have Q3 := HQN.out.up hb3
      have B3 := HBN.out.trans (hb3.mono HBN.out.size)
      have e0 := Q3.c0
      have e1 := Q3.c1
      have ez := Q3.hi
      have ef := Q3.fz
      have HQ4 := Lib.hid (Q3.store (x + s1) (y + s2))
      have HB4 := Lib.hid ((B3.setCell (p := ⟨w1.heap.size, 0, none⟩) Q3.lo (.int .i64 (x + s1))).setCell (p := ⟨w1.heap.size, 1, none⟩) Q3.lo (.int .i64 (y + s2)))
      clear hb3 HQN HBN B1 Q3 B3 q0 q1 d0' d1' KPx
      go_wp2_with fail
      go_roundg (g + 1)
      case measure => have := HGK.out; have := HFG.out; omega
      case rel => exact ⟨g, j + 1, _, x + s1, y + s2, rfl, by have := HFG.out; omega, by go_num, rfl, HB4.out, HQ4, HP2, Lib.hid (by rw [hE.out, HFG.out, HE2.out]; omega), by omega, by omega⟩
    · have hof : O x y = false := by simpa using ho
      rw [hof] at KHx
      have HE2 := Lib.hid (HA0.out f x y hof)
      clear ho hof
      go_wp2_with fail
      refine (KHx.out wo).mono ?_; rintro e w1 ⟨rfl, hb1⟩
      have B1 := hB.trans (hb1.mono hB.size)
      clear hQ q0 q1 qz r0 r1 hb1 KHx
      go_wp2_with fail
      go_ret
      exact ⟨ret_int (by have := hE.out; have := HE2.out; omega), BW0.trans (B1.mono BW0.size)⟩
end Go.Proofs.Ytmhdbodmpohdnaa
/- contract: the program's iterator over threes of pegs -/
namespace Go.Proofs.Ytmhdbodmpohdnaa
open Go.ChangeShapes Go.WideShapes Go.ChangeAt Go.RowKit Go.Joins
set_option linter.unusedVariables false
set_option linter.unusedSimpArgs false
set_option maxRecDepth 4000
open Go.Shelf
attribute [local go_sem] Oper.semAt_some
/-- what a round of the caller's keeps: all cells but those of block c0 -/
structure KpC (c0 : Nat) (A B : World) : Prop where
  size : A.heap.size ≤ B.heap.size
  same : ∀ (k : Nat) (o : Obj), k ≠ c0 → A.heap[k]? = some o → o.isCells = true → B.heap[k]? = some o
theorem KpC.refl (c0 : Nat) (A : World) : KpC c0 A A := ⟨Nat.le_refl _, fun _ _ _ h _ => h⟩
theorem KpC.trans {c0 : Nat} {A B C : World} (h : KpC c0 A B) (k : KpC c0 B C) : KpC c0 A C := ⟨Nat.le_trans h.size k.size, fun i o hn hi ho => k.same i o hn (h.same i o hn hi ho) ho⟩
theorem KpC.below {c0 : Nat} {A B : World} (h : Below A.heap.size A B) : KpC c0 A B := ⟨h.size, fun k o _ hk _ => (h.block k (Array.getElem?_eq_some_iff.1 hk).1).trans hk⟩
theorem KpC.put {c0 : Nat} {W : World} {l : Nat} {o : Obj} (o' : Obj) (hl : W.heap[l]? = some o) (ho : o.isCells = false) : KpC c0 W (W.putObj l o') :=
  ⟨by simp, fun k q _ hk hq => (World.putObj_heap_other (fun e => by subst e; rw [hl] at hk; cases hk; rw [ho] at hq; cases hq)).trans hk⟩
theorem KpC.set {c0 : Nat} (W : World) (o : Nat) (v : Value) : KpC c0 W (W.setCell ⟨c0, o, none⟩ v) :=
  ⟨by simp, fun k q hn hk _ => (Below.heap_setCell W ⟨c0, o, none⟩ v k hn).trans hk⟩
theorem KpC.cell {c0 : Nat} {A B : World} (h : KpC c0 A B) {b o : Nat} {v : Value} (hc : A.cell? ⟨b, o, none⟩ = some v) (hn : b ≠ c0) : B.cell? ⟨b, o, none⟩ = some v := by
  obtain ⟨q, hq, hcs⟩ := cells_of_cell hc
  have e1 : A.heap[b]? = some q := hq
  have e2 := h.same b q hn e1 hcs
  exact (World.cell?_of_block (e2.trans e1.symm)).trans hc
/-- threes of numbers i > k > m below N -/
abbrev Tr3 (N : Nat) := { t : Nat × Nat × Nat // t.2.2 < t.2.1 ∧ t.2.1 < t.1 ∧ t.1 < N }
def t3I (i k m : Nat) : List (Nat × Nat × Nat) := (List.range m).map fun j => (i, k, j)
def t3M (i : Nat) : Nat → List (Nat × Nat × Nat)
  | 0 => []
  | k + 1 => t3M i k ++ t3I i k k
def t3A : Nat → List (Nat × Nat × Nat)
  | 0 => []
  | i + 1 => t3A i ++ t3M i i
theorem t3I_succ (i k m : Nat) : t3I i k (m + 1) = t3I i k m ++ [(i, k, m)] := by unfold t3I; rw [List.range_succ, List.map_append]; rfl
theorem t3I_len (i k m : Nat) : (t3I i k m).length = m := by unfold t3I; simp
theorem t3M_len (i : Nat) : ∀ k, (t3M i k).length ≤ k * k
  | 0 => by simp [t3M]
  | k + 1 => by
    have := t3M_len i k
    unfold t3M
    rw [List.length_append, t3I_len, Nat.add_mul, Nat.mul_add]
    omega
theorem t3A_len : ∀ i, (t3A i).length ≤ i * (i * i)
  | 0 => by simp [t3A]
  | i + 1 => by
    have h1 := t3A_len i
    have h2 := t3M_len i i
    unfold t3A
    rw [List.length_append]
    have e : (i + 1) * ((i + 1) * (i + 1)) = i * (i * i) + i * i + (i * i + i) + (i * i + i + i + 1) := by grind
    omega
def encT (f : Nat → Int × Int) (t : Nat × Nat × Nat) : Array Value := #[.agg #[.int .i64 (f t.1).1, .int .i64 (f t.1).2, .int .i64 (f t.2.1).1, .int .i64 (f t.2.1).2, .int .i64 (f t.2.2).1, .int .i64 (f t.2.2).2]]
/-- a point in a block -/
structure PtR (W : World) (b : Nat) (x y : Int) : Prop where
  hi : b < W.heap.size
  c0 : W.cell? ⟨b, 0, none⟩ = some (.int .i64 x)
  c1 : W.cell? ⟨b, 1, none⟩ = some (.int .i64 y)
theorem PtR.new (W : World) (x y : Int) (t : TypeId) : PtR (W.alloc (.cells #[.int .i64 x, .int .i64 y] t)) W.heap.size x y := ⟨by simp, by go_simp, by go_simp⟩
theorem PtR.kp {c0 : Nat} {W W' : World} {b : Nat} {x y : Int} (h : PtR W b x y) (k : KpC c0 W W') (hn : b ≠ c0) : PtR W' b x y := ⟨Nat.lt_of_lt_of_le h.hi k.size, k.cell h.c0 hn, k.cell h.c1 hn⟩
theorem KpC.new (c0 : Nat) (W : World) (o : Obj) : KpC c0 W (W.alloc o) := KpC.below (Below.alloc (Below.refl _ _) (Nat.le_refl _) _)
set_option maxRecDepth 100000 in
set_option maxHeartbeats 4000000 in
theorem threes1_in (n : Nat) (hn : 1 ≤ n) (l Bn c0 N c : Nat) (A : Option Addr) (f : Nat → Int × Int) (J Jx : List (Tr3 N) → World → Prop) (hN : N ≤ 200) (hNc : N ≤ c) (hc63 : c ≤ 9223372036854775807)
    (hJa : ∀ pre W o, J pre W → J pre (W.alloc o))
    (hY : ∀ pre x W, J pre W → pre.length < 10000000 → YieldAt Fence.wide (n - 1) Try.prog l (encT f x.1) W fun e W' =>
      (e = .returned (.bool true) ∧ J (pre ++ [x]) W' ∧ KpC c0 W W') ∨ (e = .returned (.bool false) ∧ Jx (pre ++ [x]) W'))
    (W : World) (hBz : Bn < W.heap.size) (hBn : W.cell? ⟨Bn, 0, none⟩ = some (.slice A N c)) (hBc : Bn ≠ c0) (hcz : c0 < W.heap.size)
    (hR : ∀ i, i < N → ∃ b off, A = some ⟨b, off, none⟩ ∧ b < W.heap.size ∧ b ≠ c0 ∧ W.cell? ⟨b, off + i * 2, none⟩ = some (.int .i64 (f i).1) ∧ W.cell? ⟨b, off + i * 2 + 1, none⟩ = some (.int .i64 (f i).2)) (h0 : J [] W) :
    CallsIn Fence.wide n Try.prog 66 #[.func (.yield l) #[] #[], .pointer (some ⟨Bn, 0, none⟩)] W fun e W' => (∃ v, e = .returned v) ∧
      ((∃ ys : List (Tr3 N), ys.map (·.1) = t3A N ∧ J ys W') ∨ (∃ pre, Jx pre W')) := by
  refine callsIn_of_wp Try.func66 rfl trivial ?_ rfl
  simp only [Try.ntmps66, List.size_toArray, List.length_cons, List.length_nil, Nat.reduceAdd, Nat.reduceSub, Array.replicate_succ, Array.replicate_zero, List.push_toArray, List.append_toArray, List.nil_append, List.cons_append]
  have HR := Lib.hid hR
  clear hR
  gi_wp2
  gi_loopw [11] (fun i wr => ∃ (k : Nat) (pre : List (Tr3 N)), i = .int .i64 k ∧ k ≤ N ∧ pre.map (·.1) = t3A k ∧ J pre wr ∧ KpC c0 W wr) (fun i _ => N - (intOf i).toNat)
  case atStart => exact ⟨0, [], rfl, Nat.zero_le _, rfl, h0, KpC.refl _ _⟩
  case round =>
    obtain ⟨i, pre, rfl, hi, hp, hJ, hK⟩ := hrel
    have zW := hK.size
    have zBn : Bn < wr.heap.size := by omega
    have bn := hK.cell hBn hBc
    have HGI := Lib.hid hp
    have HL1 := Lib.hid (t3A_len i)
    have HL1b : Hid (i * (i * i) ≤ 8000000) := Lib.hid (by
      have h1 : i ≤ 200 := by omega
      have h2 := Nat.mul_le_mul h1 h1
      have h3 := Nat.mul_le_mul h1 h2
      omega)
    have HL2 : Hid (∀ k, k ≤ i → (t3M i k).length ≤ 40000) := Lib.hid (fun k hk => by
      have h2 := t3M_len i k
      have h3 := Nat.mul_le_mul (show k ≤ 200 by omega) (show k ≤ 200 by omega)
      omega)
    clear hp
    by_cases hlt : i < N
    · obtain ⟨b, off, hA, hb, hbc, x1, x2⟩ := HR.out i hlt
      subst hA
      have v1 := hK.cell x1 hbc
      have v2 := hK.cell x2 hbc
      have zb : b < wr.heap.size := by omega
      obtain ⟨a1, a2, hae⟩ : ∃ a1 a2, f i = (a1, a2) := ⟨_, _, rfl⟩
      have HAE := Lib.hid hae
      rw [hae] at v1 v2
      clear x1 x2 hae
      gi_wp2
      obtain ⟨W1, hW1⟩ : ∃ W1, W1 = wr.alloc (.cells #[.int .i64 a1, .int .i64 a2] 28) := ⟨_, rfl⟩
      have J1 : J pre W1 := by rw [hW1]; exact hJa _ _ _ hJ
      have P1 : PtR W1 wr.heap.size a1 a2 := by rw [hW1]; exact PtR.new _ _ _ _
      have K1 : KpC c0 wr W1 := by rw [hW1]; exact KpC.new _ _ _
      rw [← hW1]
      clear hW1
      have HK1 := Lib.hid (hK.trans K1)
      have HA1 := Lib.hid P1
      have hn1 : wr.heap.size ≠ c0 := by omega
      have bn1 := HK1.out.cell hBn hBc
      have zBn1 := Nat.lt_of_lt_of_le zBn K1.size
      generalize wr.heap.size = Ba at *
      clear v1 v2 bn zb zBn hJ K1 P1
      gi_wp2
      gi_loopw [20] (fun j wq => ∃ (k : Nat) (pre : List (Tr3 N)), j = .int .i64 k ∧ k ≤ i ∧ Hid (pre.map (·.1) = t3A i ++ t3M i k) ∧ J pre wq ∧ KpC c0 W1 wq) (fun j _ => i - (intOf j).toNat)
      case atStart => exact ⟨0, _, rfl, Nat.zero_le _, Lib.hid (by rw [HGI.out]; simp [t3M]), J1, KpC.refl _ _⟩
      case round =>
        clear J1 HGI bn1
        rename_i pre0 _ _
        obtain ⟨k, pre, rfl, hk, hp, hJ, hK2⟩ := hrel
        rename World => wq
        have HK2 := Lib.hid (HK1.out.trans hK2)
        have A2 := HA1.out.kp hK2 hn1
        have bn2 := HK2.out.cell hBn hBc
        have zq := HK2.out.size
        have zBn2 : Bn < wq.heap.size := by omega
        have hki : ¬ i < k := by omega
        by_cases hlk : k < i
        · obtain ⟨b', off', hA', hb', hbc', x1, x2⟩ := HR.out k (by omega)
          obtain ⟨rfl, rfl⟩ : b' = b ∧ off' = off := by simp at hA'; exact ⟨hA'.1.symm, hA'.2.symm⟩
          have v1 := HK2.out.cell x1 hbc'
          have v2 := HK2.out.cell x2 hbc'
          have zb : b' < wq.heap.size := by omega
          have hkc : k ≤ c := by omega
          obtain ⟨b1, b2, hbe⟩ : ∃ b1 b2, f k = (b1, b2) := ⟨_, _, rfl⟩
          have HBE := Lib.hid hbe
          rw [hbe] at v1 v2
          have a0 := A2.c0
          have a1' := A2.c1
          have az := A2.hi
          clear x1 x2 hbe hA'
          gi_wp2
          obtain ⟨W2, hW2⟩ : ∃ W2, W2 = wq.alloc (.cells #[.int .i64 b1, .int .i64 b2] 28) := ⟨_, rfl⟩
          have J2 : J pre W2 := by rw [hW2]; exact hJa _ _ _ hJ
          have P2 : PtR W2 wq.heap.size b1 b2 := by rw [hW2]; exact PtR.new _ _ _ _
          have K3 : KpC c0 wq W2 := by rw [hW2]; exact KpC.new _ _ _
          rw [← hW2]
          clear hW2
          have HK3 := Lib.hid (HK2.out.trans K3)
          have HK31 := Lib.hid (hK2.trans K3)
          have HA3 := Lib.hid (A2.kp K3 hn1)
          have HB3 := Lib.hid P2
          have hn2 : wq.heap.size ≠ c0 := by omega
          have bn3 := HK3.out.cell hBn hBc
          have zBn3 := Nat.lt_of_lt_of_le zBn2 K3.size
          generalize wq.heap.size = Bb at *
          clear v1 v2 bn2 zb zBn2 hJ K3 P2 A2 a0 a1' az hK2
          gi_wp2
          gi_loopw [29] (fun j wv => ∃ (m : Nat) (pre : List (Tr3 N)), j = .int .i64 m ∧ m ≤ k ∧ Hid (pre.map (·.1) = t3A i ++ t3M i k ++ t3I i k m) ∧ J pre wv ∧ KpC c0 W2 wv) (fun j _ => k - (intOf j).toNat)
          case atStart => exact ⟨0, _, rfl, Nat.zero_le _, Lib.hid (by rw [hp.out]; simp [t3I]), J2, KpC.refl _ _⟩
          case round =>
            clear J2 hp bn3
            obtain ⟨m, pre, rfl, hm, hp, hJ, hK4⟩ := hrel
            rename World => wv
            have HK4 := Lib.hid (HK3.out.trans hK4)
            have A4 := HA3.out.kp hK4 hn1
            have B4 := HB3.out.kp hK4 hn2
            have zv := HK4.out.size
            have hkm : ¬ k < m := by omega
            by_cases hlm : m < k
            · obtain ⟨b'', off'', hA', hb', hbc', x1, x2⟩ := HR.out m (by omega)
              obtain ⟨rfl, rfl⟩ : b'' = b' ∧ off'' = off' := by simp at hA'; exact ⟨hA'.1.symm, hA'.2.symm⟩
              have v1 := HK4.out.cell x1 hbc'
              have v2 := HK4.out.cell x2 hbc'
              have zb : b'' < wv.heap.size := by omega
              obtain ⟨c1, c2, hce⟩ : ∃ c1 c2, f m = (c1, c2) := ⟨_, _, rfl⟩
              have hlen : pre.length < 10000000 := by
                have e : pre.length = (t3A i ++ t3M i k ++ t3I i k m).length := by rw [← hp.out, List.length_map]
                rw [e, List.length_append, List.length_append, t3I_len]
                have := HL1.out
                have := HL1b.out
                have := HL2.out k (by omega)
                omega
              obtain ⟨fn, tmps, assign, body, hy, hR4⟩ := hY pre ⟨(i, k, m), hlm, hlk, hlt⟩ _ (hJa _ _ (.cells #[.int .i64 c1, .int .i64 c2] 28) hJ) hlen
              have HP4 : Hid ((pre ++ [⟨(i, k, m), hlm, hlk, hlt⟩] : List (Tr3 N)).map (·.1) = t3A i ++ t3M i k ++ t3I i k (m + 1)) := Lib.hid (by rw [List.map_append, hp.out, t3I_succ]; simp)
              rw [hce] at v1 v2
              unfold encT at hy
              dsimp only at hy
              rw [HAE.out, HBE.out, hce] at hy
              dsimp only at hy
              have a0 := A4.c0
              have a1' := A4.c1
              have az := A4.hi
              have b0 := B4.c0
              have b1' := B4.c1
              have bz := B4.hi
              have KN := Lib.hid (KpC.new c0 wv (.cells #[.int .i64 c1, .int .i64 c2] 28))
              clear x1 x2 hce hA' hJ
              gi_wp2
              refine hR4.mono ?_
              rintro e W5 (⟨rfl, hJ5, hk5⟩ | ⟨rfl, hJx5⟩)
              · have HK5 := Lib.hid (hK4.trans (KN.out.trans hk5))
                clear a0 a1' az b0 b1' bz v1 v2 hy hR4 hk5 KN
                gi_wp2
                go_roundw
                case rel => exact ⟨m + 1, _, by go_num, by omega, HP4, hJ5, HK5.out⟩
                case measure => simp [intOf]; omega
              · clear a0 a1' az b0 b1' bz v1 v2 hy hR4 KN
                gi_wp2
                refine bodyPost_ret (results_none rfl _ _ _) rfl ?_
                exact ⟨⟨_, rfl⟩, .inr ⟨_, hJx5⟩⟩
            · obtain rfl : m = k := by omega
              have HP5 : Hid (pre.map (·.1) = t3A i ++ t3M i (m + 1)) := Lib.hid (by rw [hp.out, t3M, List.append_assoc])
              have HK5 := Lib.hid (HK31.out.trans hK4)
              gi_wp2
              go_roundw
              case rel => exact ⟨m + 1, _, by go_num, by omega, HP5, hJ, HK5.out⟩
              case measure => simp [intOf]; omega
        · obtain rfl : k = i := by omega
          have HP5 : (pre.map (·.1) = t3A (k + 1)) := by rw [hp.out, t3A]
          gi_wp2
          go_roundw
          case rel => exact ⟨k + 1, _, by go_num, by omega, HP5, hJ, HK2.out⟩
          case measure => simp [intOf]; omega
    · obtain rfl : i = N := by omega
      gi_wp2
      go_end0
      exact ⟨⟨_, rfl⟩, .inl ⟨pre, HGI.out, hJ⟩⟩
end Go.Proofs.Ytmhdbodmpohdnaa
/- contracts: what the program makes of a list that is a triangle, and of others -/
namespace Go.Proofs.Ytmhdbodmpohdnaa
open Go.ChangeShapes Go.WideShapes Go.ChangeAt Go.RowKit Go.Joins
set_option linter.unusedVariables false
set_option linter.unusedSimpArgs false
set_option maxRecDepth 4000
theorem tri_sz {l : List (Int × Int)} {a1 a2 b1 b2 c1 c2 : Int} (h : Tri l a1 a2 b1 b2 c1 c2) : Sz a1 a2 ∧ Sz b1 b2 ∧ Sz c1 c2 := by
  have := tri_bd h
  unfold Sz
  omega
theorem tri_area {l : List (Int × Int)} {a1 a2 b1 b2 c1 c2 : Int} (h : Tri l a1 a2 b1 b2 c1 c2) : areaN l = twI a1 a2 b1 b2 c1 c2 := by
  rw [h.1]
  have e : areaN [(a1, a2), (b1, b2), (c1, c2)] = ((0 + cr (a1, a2) (b1, b2)) + cr (b1, b2) (c1, c2)) + cr (c1, c2) (a1, a2) := by
    unfold areaN Sh
    simp only [List.length_cons, List.length_nil, Nat.zero_add, sumTo]
    have e0 : vx [(a1, a2), (b1, b2), (c1, c2)] 0 = (a1, a2) := rfl
    have e1 : vx [(a1, a2), (b1, b2), (c1, c2)] 1 = (b1, b2) := rfl
    have e2 : vx [(a1, a2), (b1, b2), (c1, c2)] (1 + 1) = (c1, c2) := rfl
    have e3 : vx [(a1, a2), (b1, b2), (c1, c2)] (1 + 1 + 1) = (a1, a2) := vx_add [(a1, a2), (b1, b2), (c1, c2)] 0
    rw [e0, e1, e2, e3]
  rw [e]
  unfold cr twI
  grind
def bsel (b v : Bool) : Bool := b && v
theorem bsel_t (v : Bool) : bsel true v = v := rfl
theorem bsel_f (v : Bool) : bsel false v = false := rfl
end Go.Proofs.Ytmhdbodmpohdnaa
/- lists of numbers in memory that the call itself made -/
namespace Go.Proofs.Ytmhdbodmpohdnaa
open Go.ChangeShapes Go.WideShapes Go.ChangeAt Go.RowKit Go.Joins
set_option linter.unusedVariables false
set_option linter.unusedSimpArgs false
set_option maxRecDepth 4000
/-- the slice's cells from address A on hold the numbers f 0, .., f (n - 1), may be written, and lie from block lo on, below block B -/
def RwI (w : World) (lo B : Nat) (A : Option Addr) (n : Nat) (f : Nat → Int) : Prop :=
  0 < n → ∃ b off, A = some ⟨b, off, none⟩ ∧ lo ≤ b ∧ b < B ∧ ∀ i, i < n → w.cell? ⟨b, off + i, none⟩ = some (.int .i64 (f i)) ∧ w.frozen? ⟨b, off + i, none⟩ = false
theorem rwi_block {w w' : World} {lo B : Nat} {A : Option Addr} {n : Nat} {f : Nat → Int} (h : RwI w lo B A n f) (hk : ∀ k, lo ≤ k → k < B → w'.heap[k]? = w.heap[k]?) : RwI w' lo B A n f := by
  intro hn
  obtain ⟨b, off, e, hb1, hb2, hc⟩ := h hn
  have c : ∀ o, w'.cell? ⟨b, o, none⟩ = w.cell? ⟨b, o, none⟩ := fun o => World.cell?_of_block (hk b hb1 hb2)
  have z : ∀ o, w'.frozen? ⟨b, o, none⟩ = w.frozen? ⟨b, o, none⟩ := fun o => World.frozen?_of_block (hk b hb1 hb2)
  exact ⟨b, off, e, hb1, hb2, fun i hi => by rw [c, z]; exact hc i hi⟩
theorem rwi_below {w w' : World} {lo B B' : Nat} {A : Option Addr} {n : Nat} {f : Nat → Int} (h : RwI w lo B A n f) (hb : Below B' w w') (hB : B ≤ B') : RwI w' lo B A n f :=
  rwi_block h fun k _ h2 => hb.block k (by omega)
theorem rwi_only {w w' : World} {lo B lo' B' : Nat} {A : Option Addr} {n : Nat} {f : Nat → Int} (h : RwI w lo B A n f) (ho : Only lo' B' w w') (hd : B ≤ lo' ∨ B' ≤ lo) : RwI w' lo B A n f :=
  rwi_block h fun k h1 h2 => ho.block k (by omega)
theorem rwi_more {w : World} {lo B lo' B' : Nat} {A : Option Addr} {n : Nat} {f : Nat → Int} (h : RwI w lo B A n f) (h1 : lo' ≤ lo) (h2 : B ≤ B') : RwI w lo' B' A n f := by
  intro hn
  obtain ⟨b, off, e, hb1, hb2, hc⟩ := h hn
  exact ⟨b, off, e, by omega, by omega, hc⟩
theorem rwi_same {w : World} {lo B : Nat} {A : Option Addr} {n : Nat} {f g : Nat → Int} (h : RwI w lo B A n f) (he : ∀ i, i < n → f i = g i) : RwI w lo B A n g := by
  intro hn
  obtain ⟨b, off, e, hb1, hb2, hc⟩ := h hn
  exact ⟨b, off, e, hb1, hb2, fun i hi => by rw [← he i hi]; exact hc i hi⟩
theorem rwi_store {w : World} {lo B b off n k : Nat} {f : Nat → Int} (h : RwI w lo B (some ⟨b, off, none⟩) n f) (hk : k < n) (x : Int) :
    RwI (w.setCell ⟨b, off + k, none⟩ (.int .i64 x)) lo B (some ⟨b, off, none⟩) n (fun j => if j = k then x else f j) := by
  intro hn
  obtain ⟨b', off', e, hb1, hb2, hc⟩ := h hn
  injection e with e
  injection e with e1 e2
  subst e1 e2
  refine ⟨b, off, rfl, hb1, hb2, fun i hi => ?_⟩
  obtain ⟨c1, z1⟩ := hc i hi
  refine ⟨?_, by rw [World.frozen?_setCell]; exact z1⟩
  by_cases hik : i = k
  · subst hik
    simp only [if_true]
    exact World.cell?_setCell_same w _ _ c1
  · simp only [hik, if_false]
    rw [World.cell?_setCell_other w _ _ _ (fun e => by injection e with e1 e2; omega)]
    exact c1
def mixI (k : Int) (i : Nat) (f : Nat → Int) (j : Nat) : Int := if j < i then k + (j : Int) else f j
theorem mixI_step (k : Int) (i : Nat) (f : Nat → Int) : (fun j => if j = i then k + (i : Int) else mixI k i f j) = mixI k (i + 1) f := by
  funext j
  unfold mixI
  by_cases h : j = i
  · subst h; rw [if_pos rfl, if_pos (by omega)]
  · rw [if_neg h]
    by_cases h2 : j < i
    · rw [if_pos h2, if_pos (by omega)]
    · rw [if_neg h2, if_neg (by omega)]
structure MarkedI (w w' : World) (lo B : Nat) (A : Option Addr) (n : Nat) (k : Int) (i : Nat) (f : Nat → Int) : Prop where
  only : Only lo B w w'
  row : RwI w' lo B A n (mixI k i f)
theorem markedI_step {w w' : World} {lo B b off n i : Nat} {k : Int} {f : Nat → Int} (h : MarkedI w w' lo B (some ⟨b, off, none⟩) n k i f) (hi : i < n) (hb : lo ≤ b) (hB : b < B) :
    MarkedI w (w'.setCell ⟨b, off + i, none⟩ (.int .i64 (k + (i : Int)))) lo B (some ⟨b, off, none⟩) n k (i + 1) f :=
  ⟨h.only.set hb hB _, by
    have := rwi_store h.row hi (k + (i : Int))
    rw [mixI_step k i f] at this
    exact this⟩
theorem bw_keep {w W W' : World} (h : Below w.heap.size w W) (hb : Below W.heap.size W W') : Below w.heap.size w W' := h.trans (hb.mono h.size)
/-- a call that gives p numbers F and says whether there are such -/
def RetNI (w : World) (p : Nat) (F : Nat → Int) (b : Bool) (e : Ending) (w' : World) : Prop :=
  ∃ A c, e = .returned (.tuple #[.slice A p c, .bool b]) ∧ Below w.heap.size w w' ∧ RwI w' w.heap.size w'.heap.size A p F
theorem retNI_nil {w w' : World} {F : Nat → Int} (hb : Below w.heap.size w w') : RetNI w 0 F false (.returned (.tuple #[.slice none 0 0, .bool false])) w' :=
  ⟨none, 0, rfl, hb, fun h => absurd h (by omega)⟩
/-- three numbers in a new block -/
theorem rwi_three {w : World} {g : Nat} {x y z : Int} (hg : g < w.heap.size) (h0 : w.cell? ⟨g, 0, none⟩ = some (.int .i64 x)) (h1 : w.cell? ⟨g, 1, none⟩ = some (.int .i64 y)) (h2 : w.cell? ⟨g, 2, none⟩ = some (.int .i64 z)) (hf : ∀ o, w.frozen? ⟨g, o, none⟩ = false) :
    RwI w g w.heap.size (some ⟨g, 0, none⟩) 3 (fun i => if i = 0 then x else if i = 1 then y else z) := by
  intro _
  refine ⟨g, 0, rfl, Nat.le_refl _, hg, fun i hi => ⟨?_, hf _⟩⟩
  rw [Nat.zero_add]
  match i, hi with
  | 0, _ => exact h0
  | 1, _ => exact h1
  | 2, _ => exact h2
end Go.Proofs.Ytmhdbodmpohdnaa
/- contracts: squares of a triangle's sides -/
namespace Go.Proofs.Ytmhdbodmpohdnaa
open Go.ChangeShapes Go.WideShapes Go.ChangeAt Go.RowKit Go.Joins
set_option linter.unusedVariables false
set_option linter.unusedSimpArgs false
set_option maxRecDepth 4000
/-- the square of how far two points are -/
def sqI (a1 a2 b1 b2 : Int) : Int := (a1 - b1) * (a1 - b1) + (a2 - b2) * (a2 - b2)
theorem sqI_comm (a1 a2 b1 b2 : Int) : sqI a1 a2 b1 b2 = sqI b1 b2 a1 a2 := by unfold sqI; grind
def sqP (p q : Int × Int) : Int := sqI p.1 p.2 q.1 q.2
/-- side number j of a triangle -/
def sdF (l : List (Int × Int)) (j : Nat) : Int := sqP (vx l (j + 1)) (vx l (j + 2))
theorem sqI_bd {a1 a2 b1 b2 : Int} (h1 : -40 ≤ a1 ∧ a1 ≤ 40) (h2 : -40 ≤ a2 ∧ a2 ≤ 40) (h3 : -40 ≤ b1 ∧ b1 ≤ 40) (h4 : -40 ≤ b2 ∧ b2 ≤ 40) : 0 ≤ sqI a1 a2 b1 b2 ∧ sqI a1 a2 b1 b2 ≤ 12800 := by
  have s1 := mul_bd (x := a1 - b1) (y := a1 - b1) (m := 80) (n := 80) (by omega) (by omega) (by omega) (by omega)
  have s2 := mul_bd (x := a2 - b2) (y := a2 - b2) (m := 80) (n := 80) (by omega) (by omega) (by omega) (by omega)
  have t1 := (sq_bd (x := a1 - b1) (by omega)).1
  have t2 := (sq_bd (x := a2 - b2) (by omega)).1
  unfold sqI
  omega
end Go.Proofs.Ytmhdbodmpohdnaa
/- contracts: a triangle's side; the squares of all sides, by the program -/
namespace Go.Proofs.Ytmhdbodmpohdnaa
open Go.ChangeShapes Go.WideShapes Go.ChangeAt Go.RowKit Go.Joins
set_option linter.unusedVariables false
set_option linter.unusedSimpArgs false
set_option maxRecDepth 4000
theorem side_any (a1 a2 b1 b2 c1 c2 : Int) (i : Nat) (hi : i < 3) (w : World) :
    Calls Try.prog 73 #[.agg #[.int .i64 a1, .int .i64 a2, .int .i64 b1, .int .i64 b2, .int .i64 c1, .int .i64 c2], .int .i64 i] w fun e w' =>
      e = .returned (.tuple #[.agg #[.int .i64 (vx [(a1, a2), (b1, b2), (c1, c2)] (i + 1)).1, .int .i64 (vx [(a1, a2), (b1, b2), (c1, c2)] (i + 1)).2], .agg #[.int .i64 (vx [(a1, a2), (b1, b2), (c1, c2)] (i + 2)).1, .int .i64 (vx [(a1, a2), (b1, b2), (c1, c2)] (i + 2)).2]]) ∧ Below w.heap.size w w' := by
  have v0 : vx [(a1, a2), (b1, b2), (c1, c2)] 0 = (a1, a2) := rfl
  have v1 : vx [(a1, a2), (b1, b2), (c1, c2)] 1 = (b1, b2) := rfl
  have v2 : vx [(a1, a2), (b1, b2), (c1, c2)] 2 = (c1, c2) := rfl
  have v3 : vx [(a1, a2), (b1, b2), (c1, c2)] 3 = (a1, a2) := vx_add [(a1, a2), (b1, b2), (c1, c2)] 0
  have v4 : vx [(a1, a2), (b1, b2), (c1, c2)] 4 = (b1, b2) := vx_add [(a1, a2), (b1, b2), (c1, c2)] 1
  match i, hi with
  | 0, _ =>
    rw [show 0 + 1 = 1 from rfl, show 0 + 2 = 2 from rfl, v1, v2]
    clear v0 v1 v2 v3 v4
    go_enter Try.func73, Try.ntmps73
    go_wp2_with fail
    obtain ⟨W0, hW0⟩ : ∃ W0, W0 = (((w.alloc (.cells #[.int .i64 a1, .int .i64 a2, .int .i64 b1, .int .i64 b2, .int .i64 c1, .int .i64 c2] 53)).alloc (.cells #[.int .i64 0, .int .i64 0] 28)).alloc (.cells #[.int .i64 0, .int .i64 0] 28)) := ⟨_, rfl⟩
    rw [← hW0]
    have yW00_0 : W0.cell? ⟨w.heap.size, 0, none⟩ = some (.int .i64 a1) := by rw [hW0]; go_simp
    have yW00_1 : W0.cell? ⟨w.heap.size, 1, none⟩ = some (.int .i64 a2) := by rw [hW0]; go_simp
    have yW00_2 : W0.cell? ⟨w.heap.size, 2, none⟩ = some (.int .i64 b1) := by rw [hW0]; go_simp
    have yW00_3 : W0.cell? ⟨w.heap.size, 3, none⟩ = some (.int .i64 b2) := by rw [hW0]; go_simp
    have yW00_4 : W0.cell? ⟨w.heap.size, 4, none⟩ = some (.int .i64 c1) := by rw [hW0]; go_simp
    have yW00_5 : W0.cell? ⟨w.heap.size, 5, none⟩ = some (.int .i64 c2) := by rw [hW0]; go_simp
    have fW00 : ∀ o, W0.frozen? ⟨w.heap.size, o, none⟩ = false := by intro o; rw [hW0]; (repeat rw [frozen?_alloc_cells]); simp [World.frozen?]
    have zW00 : w.heap.size < W0.heap.size := by rw [hW0]; simp <;> omega
    have yW01_0 : W0.cell? ⟨w.heap.size + 1, 0, none⟩ = some (.int .i64 0) := by rw [hW0]; go_simp
    have yW01_1 : W0.cell? ⟨w.heap.size + 1, 1, none⟩ = some (.int .i64 0) := by rw [hW0]; go_simp
    have fW01 : ∀ o, W0.frozen? ⟨w.heap.size + 1, o, none⟩ = false := by intro o; rw [hW0]; (repeat rw [frozen?_alloc_cells]); simp [World.frozen?]
    have zW01 : w.heap.size + 1 < W0.heap.size := by rw [hW0]; simp <;> omega
    have yW02_0 : W0.cell? ⟨w.heap.size + 2, 0, none⟩ = some (.int .i64 0) := by rw [hW0]; go_simp
    have yW02_1 : W0.cell? ⟨w.heap.size + 2, 1, none⟩ = some (.int .i64 0) := by rw [hW0]; go_simp
    have fW02 : ∀ o, W0.frozen? ⟨w.heap.size + 2, o, none⟩ = false := by intro o; rw [hW0]; (repeat rw [frozen?_alloc_cells]); simp [World.frozen?]
    have zW02 : w.heap.size + 2 < W0.heap.size := by rw [hW0]; simp <;> omega
    have BW0 : Below w.heap.size w W0 := by rw [hW0]; exact (Below.alloc (Below.alloc (Below.alloc (Below.refl _ _) (by simp <;> omega) _) (by simp <;> omega) _) (by simp <;> omega) _)
    have eW0 : Hid (W0.heap.size = w.heap.size + 3) := Lib.hid (by rw [hW0]; simp)
    clear hW0
    have g0 := fW01 0
    have g1 := fW01 1
    have g2 := fW02 0
    have g3 := fW02 1
    clear fW00 fW01 fW02
    go_region
    go_wp2_with fail
    refine bodyPost_ret (v := .tuple #[.agg #[.int .i64 b1, .int .i64 b2], .agg #[.int .i64 c1, .int .i64 c2]]) (by simp [results, Try.results73, go_sem, zW01, zW02, yW01_0, yW01_1, yW02_0, yW02_1]) rfl ⟨rfl, ?_⟩
    repeat (first | with_reducible assumption | with_reducible exact Below.refl _ _ | with_reducible apply Below.drew | ((with_reducible refine Below.setCell ?_ ?_ _); rotate_left; (first | exact Nat.le_refl _ | omega | (simp <;> omega))) | ((with_reducible refine Below.alloc ?_ ?_ _); rotate_left; (first | omega | (simp <;> omega))))
  | 1, _ =>
    rw [show 1 + 1 = 2 from rfl, show 1 + 2 = 3 from rfl, v2, v3]
    clear v0 v1 v2 v3 v4
    go_enter Try.func73, Try.ntmps73
    go_wp2_with fail
    obtain ⟨W0, hW0⟩ : ∃ W0, W0 = (((w.alloc (.cells #[.int .i64 a1, .int .i64 a2, .int .i64 b1, .int .i64 b2, .int .i64 c1, .int .i64 c2] 53)).alloc (.cells #[.int .i64 0, .int .i64 0] 28)).alloc (.cells #[.int .i64 0, .int .i64 0] 28)) := ⟨_, rfl⟩
    rw [← hW0]
    have yW00_0 : W0.cell? ⟨w.heap.size, 0, none⟩ = some (.int .i64 a1) := by rw [hW0]; go_simp
    have yW00_1 : W0.cell? ⟨w.heap.size, 1, none⟩ = some (.int .i64 a2) := by rw [hW0]; go_simp
    have yW00_2 : W0.cell? ⟨w.heap.size, 2, none⟩ = some (.int .i64 b1) := by rw [hW0]; go_simp
    have yW00_3 : W0.cell? ⟨w.heap.size, 3, none⟩ = some (.int .i64 b2) := by rw [hW0]; go_simp
    have yW00_4 : W0.cell? ⟨w.heap.size, 4, none⟩ = some (.int .i64 c1) := by rw [hW0]; go_simp
    have yW00_5 : W0.cell? ⟨w.heap.size, 5, none⟩ = some (.int .i64 c2) := by rw [hW0]; go_simp
    have fW00 : ∀ o, W0.frozen? ⟨w.heap.size, o, none⟩ = false := by intro o; rw [hW0]; (repeat rw [frozen?_alloc_cells]); simp [World.frozen?]
    have zW00 : w.heap.size < W0.heap.size := by rw [hW0]; simp <;> omega
    have yW01_0 : W0.cell? ⟨w.heap.size + 1, 0, none⟩ = some (.int .i64 0) := by rw [hW0]; go_simp
    have yW01_1 : W0.cell? ⟨w.heap.size + 1, 1, none⟩ = some (.int .i64 0) := by rw [hW0]; go_simp
    have fW01 : ∀ o, W0.frozen? ⟨w.heap.size + 1, o, none⟩ = false := by intro o; rw [hW0]; (repeat rw [frozen?_alloc_cells]); simp [World.frozen?]
    have zW01 : w.heap.size + 1 < W0.heap.size := by rw [hW0]; simp <;> omega
    have yW02_0 : W0.cell? ⟨w.heap.size + 2, 0, none⟩ = some (.int .i64 0) := by rw [hW0]; go_simp
    have yW02_1 : W0.cell? ⟨w.heap.size + 2, 1, none⟩ = some (.int .i64 0) := by rw [hW0]; go_simp
    have fW02 : ∀ o, W0.frozen? ⟨w.heap.size + 2, o, none⟩ = false := by intro o; rw [hW0]; (repeat rw [frozen?_alloc_cells]); simp [World.frozen?]
    have zW02 : w.heap.size + 2 < W0.heap.size := by rw [hW0]; simp <;> omega
    have BW0 : Below w.heap.size w W0 := by rw [hW0]; exact (Below.alloc (Below.alloc (Below.alloc (Below.refl _ _) (by simp <;> omega) _) (by simp <;> omega) _) (by simp <;> omega) _)
    have eW0 : Hid (W0.heap.size = w.heap.size + 3) := Lib.hid (by rw [hW0]; simp)
    clear hW0
    have g0 := fW01 0
    have g1 := fW01 1
    have g2 := fW02 0
    have g3 := fW02 1
    clear fW00 fW01 fW02
    go_region
    go_wp2_with fail
    refine bodyPost_ret (v := .tuple #[.agg #[.int .i64 c1, .int .i64 c2], .agg #[.int .i64 a1, .int .i64 a2]]) (by simp [results, Try.results73, go_sem, zW01, zW02, yW01_0, yW01_1, yW02_0, yW02_1]) rfl ⟨rfl, ?_⟩
    repeat (first | with_reducible assumption | with_reducible exact Below.refl _ _ | with_reducible apply Below.drew | ((with_reducible refine Below.setCell ?_ ?_ _); rotate_left; (first | exact Nat.le_refl _ | omega | (simp <;> omega))) | ((with_reducible refine Below.alloc ?_ ?_ _); rotate_left; (first | omega | (simp <;> omega))))
  | 2, _ =>
    rw [show 2 + 1 = 3 from rfl, show 2 + 2 = 4 from rfl, v3, v4]
    clear v0 v1 v2 v3 v4
    go_enter Try.func73, Try.ntmps73
    go_wp2_with fail
    obtain ⟨W0, hW0⟩ : ∃ W0, W0 = (((w.alloc (.cells #[.int .i64 a1, .int .i64 a2, .int .i64 b1, .int .i64 b2, .int .i64 c1, .int .i64 c2] 53)).alloc (.cells #[.int .i64 0, .int .i64 0] 28)).alloc (.cells #[.int .i64 0, .int .i64 0] 28)) := ⟨_, rfl⟩
    rw [← hW0]
    have yW00_0 : W0.cell? ⟨w.heap.size, 0, none⟩ = some (.int .i64 a1) := by rw [hW0]; go_simp
    have yW00_1 : W0.cell? ⟨w.heap.size, 1, none⟩ = some (.int .i64 a2) := by rw [hW0]; go_simp
    have yW00_2 : W0.cell? ⟨w.heap.size, 2, none⟩ = some (.int .i64 b1) := by rw [hW0]; go_simp
    have yW00_3 : W0.cell? ⟨w.heap.size, 3, none⟩ = some (.int .i64 b2) := by rw [hW0]; go_simp
    have yW00_4 : W0.cell? ⟨w.heap.size, 4, none⟩ = some (.int .i64 c1) := by rw [hW0]; go_simp
    have yW00_5 : W0.cell? ⟨w.heap.size, 5, none⟩ = some (.int .i64 c2) := by rw [hW0]; go_simp
    have fW00 : ∀ o, W0.frozen? ⟨w.heap.size, o, none⟩ = false := by intro o; rw [hW0]; (repeat rw [frozen?_alloc_cells]); simp [World.frozen?]
    have zW00 : w.heap.size < W0.heap.size := by rw [hW0]; simp <;> omega
    have yW01_0 : W0.cell? ⟨w.heap.size + 1, 0, none⟩ = some (.int .i64 0) := by rw [hW0]; go_simp
    have yW01_1 : W0.cell? ⟨w.heap.size + 1, 1, none⟩ = some (.int .i64 0) := by rw [hW0]; go_simp
    have fW01 : ∀ o, W0.frozen? ⟨w.heap.size + 1, o, none⟩ = false := by intro o; rw [hW0]; (repeat rw [frozen?_alloc_cells]); simp [World.frozen?]
    have zW01 : w.heap.size + 1 < W0.heap.size := by rw [hW0]; simp <;> omega
    have yW02_0 : W0.cell? ⟨w.heap.size + 2, 0, none⟩ = some (.int .i64 0) := by rw [hW0]; go_simp
    have yW02_1 : W0.cell? ⟨w.heap.size + 2, 1, none⟩ = some (.int .i64 0) := by rw [hW0]; go_simp
    have fW02 : ∀ o, W0.frozen? ⟨w.heap.size + 2, o, none⟩ = false := by intro o; rw [hW0]; (repeat rw [frozen?_alloc_cells]); simp [World.frozen?]
    have zW02 : w.heap.size + 2 < W0.heap.size := by rw [hW0]; simp <;> omega
    have BW0 : Below w.heap.size w W0 := by rw [hW0]; exact (Below.alloc (Below.alloc (Below.alloc (Below.refl _ _) (by simp <;> omega) _) (by simp <;> omega) _) (by simp <;> omega) _)
    have eW0 : Hid (W0.heap.size = w.heap.size + 3) := Lib.hid (by rw [hW0]; simp)
    clear hW0
    have g0 := fW01 0
    have g1 := fW01 1
    have g2 := fW02 0
    have g3 := fW02 1
    clear fW00 fW01 fW02
    go_region
    go_wp2_with fail
    refine bodyPost_ret (v := .tuple #[.agg #[.int .i64 a1, .int .i64 a2], .agg #[.int .i64 b1, .int .i64 b2]]) (by simp [results, Try.results73, go_sem, zW01, zW02, yW01_0, yW01_1, yW02_0, yW02_1]) rfl ⟨rfl, ?_⟩
    repeat (first | with_reducible assumption | with_reducible exact Below.refl _ _ | with_reducible apply Below.drew | ((with_reducible refine Below.setCell ?_ ?_ _); rotate_left; (first | exact Nat.le_refl _ | omega | (simp <;> omega))) | ((with_reducible refine Below.alloc ?_ ?_ _); rotate_left; (first | omega | (simp <;> omega))))
end Go.Proofs.Ytmhdbodmpohdnaa
/- contract: the squares of all sides, by the program -/
namespace Go.Proofs.Ytmhdbodmpohdnaa
open Go.ChangeShapes Go.WideShapes Go.ChangeAt Go.RowKit Go.Joins
set_option linter.unusedVariables false
set_option linter.unusedSimpArgs false
set_option maxRecDepth 4000
/-- three numbers, the first k of them set, in block g; the other blocks are as in W0 -/
structure SqR (w W0 wr : World) (g k : Nat) (s : Nat → Int) : Prop where
  below : Below w.heap.size w wr
  size : W0.heap.size ≤ wr.heap.size
  other : ∀ b o, b < W0.heap.size → b ≠ g → wr.cell? ⟨b, o, none⟩ = W0.cell? ⟨b, o, none⟩ ∧ wr.frozen? ⟨b, o, none⟩ = W0.frozen? ⟨b, o, none⟩
  row : ∀ j, j < 3 → wr.cell? ⟨g, j, none⟩ = some (.int .i64 (if j < k then s j else 0)) ∧ wr.frozen? ⟨g, j, none⟩ = false
theorem sqr_below {w W0 wr wr' : World} {g k : Nat} {s : Nat → Int} (h : SqR w W0 wr g k s) (hg : g < W0.heap.size) (hb : Below wr.heap.size wr wr') : SqR w W0 wr' g k s := by
  obtain ⟨h1, h2, h3, h4⟩ := h
  have hc := (bcell hb).1
  have hf := (bcell hb).2
  have hz := hb.size
  exact ⟨h1.trans (hb.mono h1.size), by omega, fun b o hb' hne => by rw [hc _ _ (by omega), hf _ _ (by omega)]; exact h3 b o hb' hne, fun j hj => by rw [hc _ _ (by omega), hf _ _ (by omega)]; exact h4 j hj⟩
theorem sqr_store {w W0 wr : World} {g k : Nat} {s : Nat → Int} (h : SqR w W0 wr g k s) (hk : k < 3) (hw : w.heap.size ≤ g) : SqR w W0 (wr.setCell ⟨g, k, none⟩ (.int .i64 (s k))) g (k + 1) s := by
  obtain ⟨h1, h2, h3, h4⟩ := h
  refine ⟨h1.setCell hw _, by simpa [World.setCell] using h2, fun b o hb hne => ?_, fun j hj => ?_⟩
  · rw [World.cell?_setCell_other _ _ _ _ (fun e => hne (by injection e with e1 e2; exact e1.symm)), World.frozen?_setCell]; exact h3 b o hb hne
  · obtain ⟨c1, c2⟩ := h4 j hj
    refine ⟨?_, by rw [World.frozen?_setCell]; exact c2⟩
    by_cases hjk : j = k
    · subst hjk
      rw [World.cell?_setCell_same _ _ _ c1, if_pos (by omega)]
    · rw [World.cell?_setCell_other _ _ _ _ (fun e => hjk (by injection e with e1 e2; exact e2.symm)), c1]
      by_cases hlt : j < k
      · rw [if_pos hlt, if_pos (by omega)]
      · rw [if_neg hlt, if_neg (by omega)]
theorem sqP_back (p q : Int × Int) : (q.1 - p.1) * (q.1 - p.1) + (q.2 - p.2) * (q.2 - p.2) = sqP p q := by unfold sqP sqI; grind
set_option maxHeartbeats 4000000 in
theorem sideSquares_any (l : List (Int × Int)) (a1 a2 b1 b2 c1 c2 : Int) (w : World) (ht : Tri l a1 a2 b1 b2 c1 c2) :
    Calls Try.prog 67 #[.agg #[.int .i64 a1, .int .i64 a2, .int .i64 b1, .int .i64 b2, .int .i64 c1, .int .i64 c2]] w fun e w' => e = .returned (.agg #[.int .i64 (sdF l 0), .int .i64 (sdF l 1), .int .i64 (sdF l 2)]) ∧ Below w.heap.size w w' := by
  have hpg : ∀ i, (-40 ≤ (vx l i).1 ∧ (vx l i).1 ≤ 40) ∧ (-40 ≤ (vx l i).2 ∧ (vx l i).2 ≤ 40) := fun i => by
    have := vx_pg ht.2.pegs (good_pos ht.2) i
    unfold isPg isPegB at this
    simp only [Bool.and_eq_true, decide_eq_true_eq] at this
    exact this
  have KS := Lib.hid (fun i hi W => (show Calls Try.prog 73 #[.agg #[.int .i64 a1, .int .i64 a2, .int .i64 b1, .int .i64 b2, .int .i64 c1, .int .i64 c2], .int .i64 (i : Nat)] W fun e w' => e = .returned (.tuple #[.agg #[.int .i64 (vx l (i + 1)).1, .int .i64 (vx l (i + 1)).2], .agg #[.int .i64 (vx l (i + 2)).1, .int .i64 (vx l (i + 2)).2]]) ∧ Below W.heap.size W w' from by
    rw [ht.1]; exact side_any a1 a2 b1 b2 c1 c2 i hi W))
  have KM := Lib.hid (fun i W => minus_any (vx l (i + 2)).1 (vx l (i + 2)).2 (vx l (i + 1)).1 (vx l (i + 1)).2 W (by have := hpg (i + 2); unfold Mid; omega) (by have := hpg (i + 2); unfold Mid; omega) (by have := hpg (i + 1); unfold Mid; omega) (by have := hpg (i + 1); unfold Mid; omega))
  have KQ := Lib.hid (fun i W => (show Calls Try.prog 74 #[.agg #[.int .i64 ((vx l (i + 2)).1 - (vx l (i + 1)).1), .int .i64 ((vx l (i + 2)).2 - (vx l (i + 1)).2)]] W fun e w' => e = .returned (.int .i64 (sdF l i)) ∧ Below W.heap.size W w' from by
    have := square_any ((vx l (i + 2)).1 - (vx l (i + 1)).1) ((vx l (i + 2)).2 - (vx l (i + 1)).2) W (by have h1 := hpg (i + 2); have h2 := hpg (i + 1); omega) (by have h1 := hpg (i + 2); have h2 := hpg (i + 1); omega)
    rw [sqP_back (vx l (i + 1)) (vx l (i + 2))] at this
    exact this))
  clear ht hpg
  generalize sdF l = s at *
  go_enter Try.func67, Try.ntmps67
  go_wp2_with fail
  obtain ⟨W0, hW0⟩ : ∃ W0, W0 = (((w.alloc (.cells #[.int .i64 a1, .int .i64 a2, .int .i64 b1, .int .i64 b2, .int .i64 c1, .int .i64 c2] 53)).alloc (.cells #[.int .i64 0, .int .i64 0, .int .i64 0] 69)).alloc (.cells #[.int .i64 0, .int .i64 0, .int .i64 0] 69)) := ⟨_, rfl⟩
  rw [← hW0]
  have yW00_0 : W0.cell? ⟨w.heap.size, 0, none⟩ = some (.int .i64 a1) := by rw [hW0]; go_simp
  have yW00_1 : W0.cell? ⟨w.heap.size, 1, none⟩ = some (.int .i64 a2) := by rw [hW0]; go_simp
  have yW00_2 : W0.cell? ⟨w.heap.size, 2, none⟩ = some (.int .i64 b1) := by rw [hW0]; go_simp
  have yW00_3 : W0.cell? ⟨w.heap.size, 3, none⟩ = some (.int .i64 b2) := by rw [hW0]; go_simp
  have yW00_4 : W0.cell? ⟨w.heap.size, 4, none⟩ = some (.int .i64 c1) := by rw [hW0]; go_simp
  have yW00_5 : W0.cell? ⟨w.heap.size, 5, none⟩ = some (.int .i64 c2) := by rw [hW0]; go_simp
  have fW00 : ∀ o, W0.frozen? ⟨w.heap.size, o, none⟩ = false := by intro o; rw [hW0]; (repeat rw [frozen?_alloc_cells]); simp [World.frozen?]
  have zW00 : w.heap.size < W0.heap.size := by rw [hW0]; simp <;> omega
  have yW01_0 : W0.cell? ⟨w.heap.size + 1, 0, none⟩ = some (.int .i64 0) := by rw [hW0]; go_simp
  have yW01_1 : W0.cell? ⟨w.heap.size + 1, 1, none⟩ = some (.int .i64 0) := by rw [hW0]; go_simp
  have yW01_2 : W0.cell? ⟨w.heap.size + 1, 2, none⟩ = some (.int .i64 0) := by rw [hW0]; go_simp
  have fW01 : ∀ o, W0.frozen? ⟨w.heap.size + 1, o, none⟩ = false := by intro o; rw [hW0]; (repeat rw [frozen?_alloc_cells]); simp [World.frozen?]
  have zW01 : w.heap.size + 1 < W0.heap.size := by rw [hW0]; simp <;> omega
  have yW02_0 : W0.cell? ⟨w.heap.size + 2, 0, none⟩ = some (.int .i64 0) := by rw [hW0]; go_simp
  have yW02_1 : W0.cell? ⟨w.heap.size + 2, 1, none⟩ = some (.int .i64 0) := by rw [hW0]; go_simp
  have yW02_2 : W0.cell? ⟨w.heap.size + 2, 2, none⟩ = some (.int .i64 0) := by rw [hW0]; go_simp
  have fW02 : ∀ o, W0.frozen? ⟨w.heap.size + 2, o, none⟩ = false := by intro o; rw [hW0]; (repeat rw [frozen?_alloc_cells]); simp [World.frozen?]
  have zW02 : w.heap.size + 2 < W0.heap.size := by rw [hW0]; simp <;> omega
  have BW0 : Below w.heap.size w W0 := by rw [hW0]; exact (Below.alloc (Below.alloc (Below.alloc (Below.refl _ _) (by simp <;> omega) _) (by simp <;> omega) _) (by simp <;> omega) _)
  have eW0 : Hid (W0.heap.size = w.heap.size + 3) := Lib.hid (by rw [hW0]; simp)
  clear hW0
  have HS := Lib.hid (show SqR w W0 W0 (w.heap.size + 2) 0 s from ⟨BW0, Nat.le_refl _, fun b o _ _ => ⟨rfl, rfl⟩, fun j hj => by
    rw [if_neg (by omega)]
    match j, hj with
    | 0, _ => exact ⟨yW02_0, fW02 0⟩
    | 1, _ => exact ⟨yW02_1, fW02 1⟩
    | 2, _ => exact ⟨yW02_2, fW02 2⟩⟩)
  clear yW02_0 yW02_1 yW02_2 fW02
  have HX := Lib.hid (And.intro yW00_0 (And.intro yW00_1 (And.intro yW00_2 (And.intro yW00_3 (And.intro yW00_4 yW00_5)))))
  have HY := Lib.hid (And.intro yW01_0 (And.intro yW01_1 (And.intro yW01_2 fW01)))
  clear yW00_0 yW00_1 yW00_2 yW00_3 yW00_4 yW00_5 yW01_0 yW01_1 yW01_2 fW01 fW00
  go_wp2_with fail
  go_loopg [7] 3 (fun gg i wr => ∃ k : Nat, k ≤ 3 ∧ gg = 3 - k ∧ i = .int .i64 k ∧ Hid (SqR w W0 wr (w.heap.size + 2) k s))
  case atStart => exact ⟨0, Nat.zero_le _, rfl, rfl, HS⟩
  case round =>
    clear HS
    obtain ⟨k, hk, hgg, rfl, hS⟩ := hrel
    rename World => wo
    have HGK := Lib.hid hgg
    clear hgg
    by_cases hlt : k < 3
    · have o0 := fun o => (hS.out.other w.heap.size o zW00 (by omega)).1
      obtain ⟨h0, h1, h2, h3, h4, h5⟩ := HX.out
      have x0 := (o0 0).trans h0
      have x1 := (o0 1).trans h1
      have x2 := (o0 2).trans h2
      have x3 := (o0 3).trans h3
      have x4 := (o0 4).trans h4
      have x5 := (o0 5).trans h5
      have hz := hS.out.size
      have zz : w.heap.size < wo.heap.size := by omega
      clear o0 h0 h1 h2 h3 h4 h5
      have d1 : ((k : Int) < 3) := by omega
      go_wp2_with fail
      refine (KS.out k hlt _).mono ?_; rintro e w1 ⟨rfl, hb1⟩
      have S1 := Lib.hid (sqr_below hS.out zW02 hb1)
      clear hS x0 x1 x2 x3 x4 x5 hb1
      have z1 := S1.out.size
      go_wp2_with fail
      have BA : Below w1.heap.size w1 ((w1.alloc (.cells #[.int .i64 (vx l (k + 1)).1, .int .i64 (vx l (k + 1)).2] 28)).alloc (.cells #[.int .i64 (vx l (k + 2)).1, .int .i64 (vx l (k + 2)).2] 28)) := Below.alloc (Below.alloc (Below.refl _ _) (Nat.le_refl _) _) (by simp) _
      have S2 := Lib.hid (sqr_below S1.out zW02 BA)
      clear S1
      refine (KM.out k _).mono ?_; rintro e w2 ⟨rfl, hb2⟩
      have S3 := Lib.hid (sqr_below S2.out zW02 hb2)
      clear S2 hb2 BA
      go_wp2_with fail
      refine (KQ.out k _).mono ?_; rintro e w3 ⟨rfl, hb3⟩
      have S4 := Lib.hid (sqr_below S3.out zW02 hb3)
      obtain ⟨r1, r2⟩ := S4.out.row k hlt
      have S5 := Lib.hid (sqr_store S4.out hlt (by omega))
      have z4 := S4.out.size
      have zg : w.heap.size + 2 < w3.heap.size := by omega
      clear S3 hb3 S4
      go_wp2_with fail
      go_roundg (3 - (k + 1))
      case measure => have := HGK.out; omega
      case rel => exact ⟨k + 1, by omega, rfl, by go_num, S5⟩
    · have hk3 : k = 3 := by omega
      subst hk3
      have r0 := (hS.out.row 0 (by omega)).1
      have r1 := (hS.out.row 1 (by omega)).1
      have r2 := (hS.out.row 2 (by omega)).1
      rw [if_pos (by omega)] at r0 r1 r2
      have o1 := fun o => (hS.out.other (w.heap.size + 1) o zW01 (by omega))
      obtain ⟨h0, h1, h2, h3⟩ := HY.out
      have x0 := (o1 0).1.trans h0
      have x1 := (o1 1).1.trans h1
      have x2 := (o1 2).1.trans h2
      have x3 := (o1 0).2.trans (h3 0)
      have x4 := (o1 1).2.trans (h3 1)
      have x5 := (o1 2).2.trans (h3 2)
      have hz := hS.out.size
      have zz : w.heap.size + 1 < wo.heap.size := by omega
      have zg : w.heap.size + 2 < wo.heap.size := by omega
      have B1 := hS.out.below
      clear o1 h0 h1 h2 h3 hS
      go_wp2_with fail
      refine bodyPost_ret (v := .agg #[.int .i64 (s 0), .int .i64 (s 1), .int .i64 (s 2)]) (by simp [results, Try.results67, go_sem, zz, x0, x1, x2]) rfl ⟨rfl, ?_⟩
      repeat (first | with_reducible assumption | with_reducible exact Below.refl _ _ | with_reducible apply Below.drew | ((with_reducible refine Below.setCell ?_ ?_ _); rotate_left; (first | exact Nat.le_refl _ | omega | (simp <;> omega))) | ((with_reducible refine Below.alloc ?_ ?_ _); rotate_left; (first | omega | (simp <;> omega))))
end Go.Proofs.Ytmhdbodmpohdnaa
/- a triangle's corner, by its number -/
namespace Go.Proofs.Ytmhdbodmpohdnaa
open Go.ChangeShapes Go.WideShapes Go.ChangeAt Go.RowKit Go.Joins
set_option linter.unusedVariables false
set_option linter.unusedSimpArgs false
set_option maxRecDepth 4000
theorem index3_0 (a1 a2 b1 b2 c1 c2 : Int) (W : World) : (Instr.index 53 (.agg #[.int .i64 a1, .int .i64 a2, .int .i64 b1, .int .i64 b2, .int .i64 c1, .int .i64 c2]) (.int .i64 0)).run Try.prog W = .ok (.agg #[.int .i64 a1, .int .i64 a2]) W := by
  first | rfl | kernel_rfl | simp [Instr.index, go_sem]
theorem index3_1 (a1 a2 b1 b2 c1 c2 : Int) (W : World) : (Instr.index 53 (.agg #[.int .i64 a1, .int .i64 a2, .int .i64 b1, .int .i64 b2, .int .i64 c1, .int .i64 c2]) (.int .i64 1)).run Try.prog W = .ok (.agg #[.int .i64 b1, .int .i64 b2]) W := by
  first | rfl | kernel_rfl | simp [Instr.index, go_sem]
theorem index3_2 (a1 a2 b1 b2 c1 c2 : Int) (W : World) : (Instr.index 53 (.agg #[.int .i64 a1, .int .i64 a2, .int .i64 b1, .int .i64 b2, .int .i64 c1, .int .i64 c2]) (.int .i64 2)).run Try.prog W = .ok (.agg #[.int .i64 c1, .int .i64 c2]) W := by
  first | rfl | kernel_rfl | simp [Instr.index, go_sem]
end Go.Proofs.Ytmhdbodmpohdnaa
/- contract: the corner with the right angle, by the program -/
namespace Go.Proofs.Ytmhdbodmpohdnaa
open Go.ChangeShapes Go.WideShapes Go.ChangeAt Go.RowKit Go.Joins
set_option linter.unusedVariables false
set_option linter.unusedSimpArgs false
set_option maxRecDepth 4000
set_option maxHeartbeats 4000000 in
theorem sideSquaresP_any (l : List (Int × Int)) (a1 a2 b1 b2 c1 c2 : Int) (w : World) (ht : l = [(a1, a2), (b1, b2), (c1, c2)]) (hpg : ∀ i, (-40 ≤ (vx l i).1 ∧ (vx l i).1 ≤ 40) ∧ (-40 ≤ (vx l i).2 ∧ (vx l i).2 ≤ 40)) :
    Calls Try.prog 67 #[.agg #[.int .i64 a1, .int .i64 a2, .int .i64 b1, .int .i64 b2, .int .i64 c1, .int .i64 c2]] w fun e w' => e = .returned (.agg #[.int .i64 (sdF l 0), .int .i64 (sdF l 1), .int .i64 (sdF l 2)]) ∧ Below w.heap.size w w' := by
  have KS := Lib.hid (fun i hi W => (show Calls Try.prog 73 #[.agg #[.int .i64 a1, .int .i64 a2, .int .i64 b1, .int .i64 b2, .int .i64 c1, .int .i64 c2], .int .i64 (i : Nat)] W fun e w' => e = .returned (.tuple #[.agg #[.int .i64 (vx l (i + 1)).1, .int .i64 (vx l (i + 1)).2], .agg #[.int .i64 (vx l (i + 2)).1, .int .i64 (vx l (i + 2)).2]]) ∧ Below W.heap.size W w' from by
    rw [ht]; exact side_any a1 a2 b1 b2 c1 c2 i hi W))
  have KM := Lib.hid (fun i W => minus_any (vx l (i + 2)).1 (vx l (i + 2)).2 (vx l (i + 1)).1 (vx l (i + 1)).2 W (by have := hpg (i + 2); unfold Mid; omega) (by have := hpg (i + 2); unfold Mid; omega) (by have := hpg (i + 1); unfold Mid; omega) (by have := hpg (i + 1); unfold Mid; omega))
  have KQ := Lib.hid (fun i W => (show Calls Try.prog 74 #[.agg #[.int .i64 ((vx l (i + 2)).1 - (vx l (i + 1)).1), .int .i64 ((vx l (i + 2)).2 - (vx l (i + 1)).2)]] W fun e w' => e = .returned (.int .i64 (sdF l i)) ∧ Below W.heap.size W w' from by
    have := square_any ((vx l (i + 2)).1 - (vx l (i + 1)).1) ((vx l (i + 2)).2 - (vx l (i + 1)).2) W (by have h1 := hpg (i + 2); have h2 := hpg (i + 1); omega) (by have h1 := hpg (i + 2); have h2 := hpg (i + 1); omega)
    rw [sqP_back (vx l (i + 1)) (vx l (i + 2))] at this
    exact this))
  clear ht hpg
  generalize sdF l = s at *
  go_enter Try.func67, Try.ntmps67
  go_wp2_with fail
  obtain ⟨W0, hW0⟩ : ∃ W0, W0 = (((w.alloc (.cells #[.int .i64 a1, .int .i64 a2, .int .i64 b1, .int .i64 b2, .int .i64 c1, .int .i64 c2] 53)).alloc (.cells #[.int .i64 0, .int .i64 0, .int .i64 0] 69)).alloc (.cells #[.int .i64 0, .int .i64 0, .int .i64 0] 69)) := ⟨_, rfl⟩
  rw [← hW0]
  have yW00_0 : W0.cell? ⟨w.heap.size, 0, none⟩ = some (.int .i64 a1) := by rw [hW0]; go_simp
  have yW00_1 : W0.cell? ⟨w.heap.size, 1, none⟩ = some (.int .i64 a2) := by rw [hW0]; go_simp
  have yW00_2 : W0.cell? ⟨w.heap.size, 2, none⟩ = some (.int .i64 b1) := by rw [hW0]; go_simp
  have yW00_3 : W0.cell? ⟨w.heap.size, 3, none⟩ = some (.int .i64 b2) := by rw [hW0]; go_simp
  have yW00_4 : W0.cell? ⟨w.heap.size, 4, none⟩ = some (.int .i64 c1) := by rw [hW0]; go_simp
  have yW00_5 : W0.cell? ⟨w.heap.size, 5, none⟩ = some (.int .i64 c2) := by rw [hW0]; go_simp
  have fW00 : ∀ o, W0.frozen? ⟨w.heap.size, o, none⟩ = false := by intro o; rw [hW0]; (repeat rw [frozen?_alloc_cells]); simp [World.frozen?]
  have zW00 : w.heap.size < W0.heap.size := by rw [hW0]; simp <;> omega
  have yW01_0 : W0.cell? ⟨w.heap.size + 1, 0, none⟩ = some (.int .i64 0) := by rw [hW0]; go_simp
  have yW01_1 : W0.cell? ⟨w.heap.size + 1, 1, none⟩ = some (.int .i64 0) := by rw [hW0]; go_simp
  have yW01_2 : W0.cell? ⟨w.heap.size + 1, 2, none⟩ = some (.int .i64 0) := by rw [hW0]; go_simp
  have fW01 : ∀ o, W0.frozen? ⟨w.heap.size + 1, o, none⟩ = false := by intro o; rw [hW0]; (repeat rw [frozen?_alloc_cells]); simp [World.frozen?]
  have zW01 : w.heap.size + 1 < W0.heap.size := by rw [hW0]; simp <;> omega
  have yW02_0 : W0.cell? ⟨w.heap.size + 2, 0, none⟩ = some (.int .i64 0) := by rw [hW0]; go_simp
  have yW02_1 : W0.cell? ⟨w.heap.size + 2, 1, none⟩ = some (.int .i64 0) := by rw [hW0]; go_simp
  have yW02_2 : W0.cell? ⟨w.heap.size + 2, 2, none⟩ = some (.int .i64 0) := by rw [hW0]; go_simp
  have fW02 : ∀ o, W0.frozen? ⟨w.heap.size + 2, o, none⟩ = false := by intro o; rw [hW0]; (repeat rw [frozen?_alloc_cells]); simp [World.frozen?]
  have zW02 : w.heap.size + 2 < W0.heap.size := by rw [hW0]; simp <;> omega
  have BW0 : Below w.heap.size w W0 := by rw [hW0]; exact (Below.alloc (Below.alloc (Below.alloc (Below.refl _ _) (by simp <;> omega) _) (by simp <;> omega) _) (by simp <;> omega) _)
  have eW0 : Hid (W0.heap.size = w.heap.size + 3) := Lib.hid (by rw [hW0]; simp)
  clear hW0
  have HS := Lib.hid (show SqR w W0 W0 (w.heap.size + 2) 0 s from ⟨BW0, Nat.le_refl _, fun b o _ _ => ⟨rfl, rfl⟩, fun j hj => by
    rw [if_neg (by omega)]
    match j, hj with
    | 0, _ => exact ⟨yW02_0, fW02 0⟩
    | 1, _ => exact ⟨yW02_1, fW02 1⟩
    | 2, _ => exact ⟨yW02_2, fW02 2⟩⟩)
  clear yW02_0 yW02_1 yW02_2 fW02
  have HX := Lib.hid (And.intro yW00_0 (And.intro yW00_1 (And.intro yW00_2 (And.intro yW00_3 (And.intro yW00_4 yW00_5)))))
  have HY := Lib.hid (And.intro yW01_0 (And.intro yW01_1 (And.intro yW01_2 fW01)))
  clear yW00_0 yW00_1 yW00_2 yW00_3 yW00_4 yW00_5 yW01_0 yW01_1 yW01_2 fW01 fW00
  go_wp2_with fail
  go_loopg [7] 3 (fun gg i wr => ∃ k : Nat, k ≤ 3 ∧ gg = 3 - k ∧ i = .int .i64 k ∧ Hid (SqR w W0 wr (w.heap.size + 2) k s))
  case atStart => exact ⟨0, Nat.zero_le _, rfl, rfl, HS⟩
  case round =>
    clear HS
    obtain ⟨k, hk, hgg, rfl, hS⟩ := hrel
    rename World => wo
    have HGK := Lib.hid hgg
    clear hgg
    by_cases hlt : k < 3
    · have o0 := fun o => (hS.out.other w.heap.size o zW00 (by omega)).1
      obtain ⟨h0, h1, h2, h3, h4, h5⟩ := HX.out
      have x0 := (o0 0).trans h0
      have x1 := (o0 1).trans h1
      have x2 := (o0 2).trans h2
      have x3 := (o0 3).trans h3
      have x4 := (o0 4).trans h4
      have x5 := (o0 5).trans h5
      have hz := hS.out.size
      have zz : w.heap.size < wo.heap.size := by omega
      clear o0 h0 h1 h2 h3 h4 h5
      have d1 : ((k : Int) < 3) := by omega
      go_wp2_with fail
      refine (KS.out k hlt _).mono ?_; rintro e w1 ⟨rfl, hb1⟩
      have S1 := Lib.hid (sqr_below hS.out zW02 hb1)
      clear hS x0 x1 x2 x3 x4 x5 hb1
      have z1 := S1.out.size
      go_wp2_with fail
      have BA : Below w1.heap.size w1 ((w1.alloc (.cells #[.int .i64 (vx l (k + 1)).1, .int .i64 (vx l (k + 1)).2] 28)).alloc (.cells #[.int .i64 (vx l (k + 2)).1, .int .i64 (vx l (k + 2)).2] 28)) := Below.alloc (Below.alloc (Below.refl _ _) (Nat.le_refl _) _) (by simp) _
      have S2 := Lib.hid (sqr_below S1.out zW02 BA)
      clear S1
      refine (KM.out k _).mono ?_; rintro e w2 ⟨rfl, hb2⟩
      have S3 := Lib.hid (sqr_below S2.out zW02 hb2)
      clear S2 hb2 BA
      go_wp2_with fail
      refine (KQ.out k _).mono ?_; rintro e w3 ⟨rfl, hb3⟩
      have S4 := Lib.hid (sqr_below S3.out zW02 hb3)
      obtain ⟨r1, r2⟩ := S4.out.row k hlt
      have S5 := Lib.hid (sqr_store S4.out hlt (by omega))
      have z4 := S4.out.size
      have zg : w.heap.size + 2 < w3.heap.size := by omega
      clear S3 hb3 S4
      go_wp2_with fail
      go_roundg (3 - (k + 1))
      case measure => have := HGK.out; omega
      case rel => exact ⟨k + 1, by omega, rfl, by go_num, S5⟩
    · have hk3 : k = 3 := by omega
      subst hk3
      have r0 := (hS.out.row 0 (by omega)).1
      have r1 := (hS.out.row 1 (by omega)).1
      have r2 := (hS.out.row 2 (by omega)).1
      rw [if_pos (by omega)] at r0 r1 r2
      have o1 := fun o => (hS.out.other (w.heap.size + 1) o zW01 (by omega))
      obtain ⟨h0, h1, h2, h3⟩ := HY.out
      have x0 := (o1 0).1.trans h0
      have x1 := (o1 1).1.trans h1
      have x2 := (o1 2).1.trans h2
      have x3 := (o1 0).2.trans (h3 0)
      have x4 := (o1 1).2.trans (h3 1)
      have x5 := (o1 2).2.trans (h3 2)
      have hz := hS.out.size
      have zz : w.heap.size + 1 < wo.heap.size := by omega
      have zg : w.heap.size + 2 < wo.heap.size := by omega
      have B1 := hS.out.below
      clear o1 h0 h1 h2 h3 hS
      go_wp2_with fail
      refine bodyPost_ret (v := .agg #[.int .i64 (s 0), .int .i64 (s 1), .int .i64 (s 2)]) (by simp [results, Try.results67, go_sem, zz, x0, x1, x2]) rfl ⟨rfl, ?_⟩
      repeat (first | with_reducible assumption | with_reducible exact Below.refl _ _ | with_reducible apply Below.drew | ((with_reducible refine Below.setCell ?_ ?_ _); rotate_left; (first | exact Nat.le_refl _ | omega | (simp <;> omega))) | ((with_reducible refine Below.alloc ?_ ?_ _); rotate_left; (first | omega | (simp <;> omega))))
theorem indexS_0 (x y z : Int) (W : World) : (Instr.index 69 (.agg #[.int .i64 x, .int .i64 y, .int .i64 z]) (.int .i64 0)).run Try.prog W = .ok (.int .i64 x) W := by
  first | rfl | kernel_rfl | simp [Instr.index, go_sem]
theorem indexS_1 (x y z : Int) (W : World) : (Instr.index 69 (.agg #[.int .i64 x, .int .i64 y, .int .i64 z]) (.int .i64 1)).run Try.prog W = .ok (.int .i64 y) W := by
  first | rfl | kernel_rfl | simp [Instr.index, go_sem]
theorem indexS_2 (x y z : Int) (W : World) : (Instr.index 69 (.agg #[.int .i64 x, .int .i64 y, .int .i64 z]) (.int .i64 2)).run Try.prog W = .ok (.int .i64 z) W := by
  first | rfl | kernel_rfl | simp [Instr.index, go_sem]
/-- is a side's square as great as both other ones together? -/
def rtQ (s t : Int) : Bool := decide (2 * s = t)
/-- the corner with the right angle -/
def rcP (a b c : Int × Int) : Int × Int :=
  if 2 * sqP b c = sqP b c + sqP c a + sqP a b then a else if 2 * sqP c a = sqP b c + sqP c a + sqP a b then b else if 2 * sqP a b = sqP b c + sqP c a + sqP a b then c else (0, 0)
def rcB (a b c : Int × Int) : Bool :=
  decide (2 * sqP b c = sqP b c + sqP c a + sqP a b) || decide (2 * sqP c a = sqP b c + sqP c a + sqP a b) || decide (2 * sqP a b = sqP b c + sqP c a + sqP a b)
set_option maxRecDepth 100000 in
set_option maxHeartbeats 8000000 in
theorem rightCorner_any (a1 a2 b1 b2 c1 c2 : Int) (w : World) (ha : (-40 ≤ a1 ∧ a1 ≤ 40) ∧ (-40 ≤ a2 ∧ a2 ≤ 40)) (hb : (-40 ≤ b1 ∧ b1 ≤ 40) ∧ (-40 ≤ b2 ∧ b2 ≤ 40)) (hc : (-40 ≤ c1 ∧ c1 ≤ 40) ∧ (-40 ≤ c2 ∧ c2 ≤ 40)) :
    Calls Try.prog 54 #[.agg #[.int .i64 a1, .int .i64 a2, .int .i64 b1, .int .i64 b2, .int .i64 c1, .int .i64 c2]] w fun e w' => e = .returned (.tuple #[.agg #[.int .i64 (rcP (a1, a2) (b1, b2) (c1, c2)).1, .int .i64 (rcP (a1, a2) (b1, b2) (c1, c2)).2], .bool (rcB (a1, a2) (b1, b2) (c1, c2))]) ∧ Below w.heap.size w w' := by
  have v0 : vx [(a1, a2), (b1, b2), (c1, c2)] 0 = (a1, a2) := rfl
  have v1 : vx [(a1, a2), (b1, b2), (c1, c2)] 1 = (b1, b2) := rfl
  have v2 : vx [(a1, a2), (b1, b2), (c1, c2)] 2 = (c1, c2) := rfl
  have v3 : vx [(a1, a2), (b1, b2), (c1, c2)] 3 = (a1, a2) := vx_add [(a1, a2), (b1, b2), (c1, c2)] 0
  have v4 : vx [(a1, a2), (b1, b2), (c1, c2)] 4 = (b1, b2) := vx_add [(a1, a2), (b1, b2), (c1, c2)] 1
  have K := Lib.hid (fun W => sideSquaresP_any [(a1, a2), (b1, b2), (c1, c2)] a1 a2 b1 b2 c1 c2 W rfl (fun i => by
    have hm : vx [(a1, a2), (b1, b2), (c1, c2)] i = vx [(a1, a2), (b1, b2), (c1, c2)] (i % 3) := (vx_per [(a1, a2), (b1, b2), (c1, c2)] i).symm
    rw [hm]
    rcases (show i % 3 = 0 ∨ i % 3 = 1 ∨ i % 3 = 2 by omega) with e | e | e
    · rw [e, v0]; exact ha
    · rw [e, v1]; exact hb
    · rw [e, v2]; exact hc))
  have e0 : sdF [(a1, a2), (b1, b2), (c1, c2)] 0 = sqP (b1, b2) (c1, c2) := by show sqP (vx _ 1) (vx _ 2) = _; rw [v1, v2]
  have e1 : sdF [(a1, a2), (b1, b2), (c1, c2)] 1 = sqP (c1, c2) (a1, a2) := by show sqP (vx _ 2) (vx _ 3) = _; rw [v2, v3]
  have e2 : sdF [(a1, a2), (b1, b2), (c1, c2)] 2 = sqP (a1, a2) (b1, b2) := by show sqP (vx _ 3) (vx _ 4) = _; rw [v3, v4]
  rw [e0, e1, e2] at K
  clear e0 e1 e2 v0 v1 v2 v3 v4
  have d0 : 0 ≤ sqP (b1, b2) (c1, c2) ∧ sqP (b1, b2) (c1, c2) ≤ 12800 := sqI_bd hb.1 hb.2 hc.1 hc.2
  have d1 : 0 ≤ sqP (c1, c2) (a1, a2) ∧ sqP (c1, c2) (a1, a2) ≤ 12800 := sqI_bd hc.1 hc.2 ha.1 ha.2
  have d2 : 0 ≤ sqP (a1, a2) (b1, b2) ∧ sqP (a1, a2) (b1, b2) ≤ 12800 := sqI_bd ha.1 ha.2 hb.1 hb.2
  unfold rcP rcB
  generalize sqP (b1, b2) (c1, c2) = s0 at *
  generalize sqP (c1, c2) (a1, a2) = s1 at *
  generalize sqP (a1, a2) (b1, b2) = s2 at *
  obtain ⟨d01, d02⟩ := d0
  obtain ⟨d11, d12⟩ := d1
  obtain ⟨d21, d22⟩ := d2
  clear ha hb hc
  have X0 := indexS_0 s0 s1 s2
  have X1 := indexS_1 s0 s1 s2
  have X2 := indexS_2 s0 s1 s2
  have HR : Hid (∃ r : Int × Int, ∃ v : Bool, r = (if 2 * s0 = s0 + s1 + s2 then (a1, a2) else if 2 * s1 = s0 + s1 + s2 then (b1, b2) else if 2 * s2 = s0 + s1 + s2 then (c1, c2) else (0, 0)) ∧ v = (decide (2 * s0 = s0 + s1 + s2) || decide (2 * s1 = s0 + s1 + s2) || decide (2 * s2 = s0 + s1 + s2))) := Lib.hid ⟨_, _, rfl, rfl⟩
  obtain ⟨r, v, hr, hv⟩ := HR.out
  rw [← hr, ← hv]
  have HRR := Lib.hid hr
  have HVV := Lib.hid hv
  clear hr hv HR
  go_enter Try.func54, Try.ntmps54
  go_wp2_with fail
  obtain ⟨W0, hW0⟩ : ∃ W0, W0 = ((w.alloc (.cells #[.int .i64 a1, .int .i64 a2, .int .i64 b1, .int .i64 b2, .int .i64 c1, .int .i64 c2] 53)).alloc (.cells #[.int .i64 0, .int .i64 0] 28)) := ⟨_, rfl⟩
  rw [← hW0]
  have yW00_0 : W0.cell? ⟨w.heap.size, 0, none⟩ = some (.int .i64 a1) := by rw [hW0]; go_simp
  have yW00_1 : W0.cell? ⟨w.heap.size, 1, none⟩ = some (.int .i64 a2) := by rw [hW0]; go_simp
  have yW00_2 : W0.cell? ⟨w.heap.size, 2, none⟩ = some (.int .i64 b1) := by rw [hW0]; go_simp
  have yW00_3 : W0.cell? ⟨w.heap.size, 3, none⟩ = some (.int .i64 b2) := by rw [hW0]; go_simp
  have yW00_4 : W0.cell? ⟨w.heap.size, 4, none⟩ = some (.int .i64 c1) := by rw [hW0]; go_simp
  have yW00_5 : W0.cell? ⟨w.heap.size, 5, none⟩ = some (.int .i64 c2) := by rw [hW0]; go_simp
  have fW00 : ∀ o, W0.frozen? ⟨w.heap.size, o, none⟩ = false := by intro o; rw [hW0]; (repeat rw [frozen?_alloc_cells]); simp [World.frozen?]
  have zW00 : w.heap.size < W0.heap.size := by rw [hW0]; simp <;> omega
  have yW01_0 : W0.cell? ⟨w.heap.size + 1, 0, none⟩ = some (.int .i64 0) := by rw [hW0]; go_simp
  have yW01_1 : W0.cell? ⟨w.heap.size + 1, 1, none⟩ = some (.int .i64 0) := by rw [hW0]; go_simp
  have fW01 : ∀ o, W0.frozen? ⟨w.heap.size + 1, o, none⟩ = false := by intro o; rw [hW0]; (repeat rw [frozen?_alloc_cells]); simp [World.frozen?]
  have zW01 : w.heap.size + 1 < W0.heap.size := by rw [hW0]; simp <;> omega
  have BW0 : Below w.heap.size w W0 := by rw [hW0]; exact (Below.alloc (Below.alloc (Below.refl _ _) (by simp <;> omega) _) (by simp <;> omega) _)
  have eW0 : Hid (W0.heap.size = w.heap.size + 2) := Lib.hid (by rw [hW0]; simp)
  clear hW0
  refine (K.out W0).mono ?_; rintro e w1 ⟨rfl, hb1⟩
  have t0 := ((bcell hb1).1 _ 0 zW00).trans yW00_0
  have t1 := ((bcell hb1).1 _ 1 zW00).trans yW00_1
  have t2 := ((bcell hb1).1 _ 2 zW00).trans yW00_2
  have t3 := ((bcell hb1).1 _ 3 zW00).trans yW00_3
  have t4 := ((bcell hb1).1 _ 4 zW00).trans yW00_4
  have t5 := ((bcell hb1).1 _ 5 zW00).trans yW00_5
  have u0 := ((bcell hb1).1 _ 0 zW01).trans yW01_0
  have u1 := ((bcell hb1).1 _ 1 zW01).trans yW01_1
  have u2 := ((bcell hb1).2 _ 0 zW01).trans (fW01 0)
  have u3 := ((bcell hb1).2 _ 1 zW01).trans (fW01 1)
  have zt := Nat.lt_of_lt_of_le zW00 hb1.size
  have zu := Nat.lt_of_lt_of_le zW01 hb1.size
  have B1 := BW0.trans (hb1.mono BW0.size)
  clear hb1 BW0 eW0 yW00_0 yW00_1 yW00_2 yW00_3 yW00_4 yW00_5 yW01_0 yW01_1 fW00 fW01 zW00 zW01 K
  have zs := Nat.le_refl w1.heap.size
  go_wp2_with fail
  obtain ⟨W2, hW2⟩ : ∃ W2, W2 = (w1.alloc (.cells #[.int .i64 s0, .int .i64 s1, .int .i64 s2] 69)) := ⟨_, rfl⟩
  rw [← hW2]
  have yW20_0 : W2.cell? ⟨w1.heap.size, 0, none⟩ = some (.int .i64 s0) := by rw [hW2]; go_simp
  have yW20_1 : W2.cell? ⟨w1.heap.size, 1, none⟩ = some (.int .i64 s1) := by rw [hW2]; go_simp
  have yW20_2 : W2.cell? ⟨w1.heap.size, 2, none⟩ = some (.int .i64 s2) := by rw [hW2]; go_simp
  have fW20 : ∀ o, W2.frozen? ⟨w1.heap.size, o, none⟩ = false := by intro o; rw [hW2]; (repeat rw [frozen?_alloc_cells]); simp [World.frozen?]
  have zW20 : w1.heap.size < W2.heap.size := by rw [hW2]; simp <;> omega
  have BW2 : Below w1.heap.size w1 W2 := by rw [hW2]; exact (Below.alloc (Below.refl _ _) (by simp <;> omega) _)
  have eW2 : Hid (W2.heap.size = w1.heap.size + 1) := Lib.hid (by rw [hW2]; simp)
  clear hW2
  have B2 := B1.trans (BW2.mono B1.size)
  have m0 := ((bcell BW2).1 _ 0 zt).trans t0
  have m1 := ((bcell BW2).1 _ 1 zt).trans t1
  have m2 := ((bcell BW2).1 _ 2 zt).trans t2
  have m3 := ((bcell BW2).1 _ 3 zt).trans t3
  have m4 := ((bcell BW2).1 _ 4 zt).trans t4
  have m5 := ((bcell BW2).1 _ 5 zt).trans t5
  have n0 := ((bcell BW2).1 _ 0 zu).trans u0
  have n1 := ((bcell BW2).1 _ 1 zu).trans u1
  have n2 := ((bcell BW2).2 _ 0 zu).trans u2
  have n3 := ((bcell BW2).2 _ 1 zu).trans u3
  have zt2 := Nat.lt_of_lt_of_le zt BW2.size
  have zu2 := Nat.lt_of_lt_of_le zu BW2.size
  clear t0 t1 t2 t3 t4 t5 u0 u1 u2 u3 zt zu fW20 eW2 BW2 B1 zs
  have F0 : Hid (2 * s0 = s0 + s1 + s2 → r = (a1, a2) ∧ v = true) := Lib.hid (fun h => ⟨by rw [HRR.out, if_pos h], by rw [HVV.out, decide_eq_true h]; rfl⟩)
  have F1 : Hid (¬ 2 * s0 = s0 + s1 + s2 → 2 * s1 = s0 + s1 + s2 → r = (b1, b2) ∧ v = true) := Lib.hid (fun h h1 => ⟨by rw [HRR.out, if_neg h, if_pos h1], by rw [HVV.out, decide_eq_false h, decide_eq_true h1]; rfl⟩)
  have F2 : Hid (¬ 2 * s0 = s0 + s1 + s2 → ¬ 2 * s1 = s0 + s1 + s2 → 2 * s2 = s0 + s1 + s2 → r = (c1, c2) ∧ v = true) := Lib.hid (fun h h1 h2 => ⟨by rw [HRR.out, if_neg h, if_neg h1, if_pos h2], by rw [HVV.out, decide_eq_false h, decide_eq_false h1, decide_eq_true h2]; rfl⟩)
  have F3 : Hid (¬ 2 * s0 = s0 + s1 + s2 → ¬ 2 * s1 = s0 + s1 + s2 → ¬ 2 * s2 = s0 + s1 + s2 → r = (0, 0) ∧ v = false) := Lib.hid (fun h h1 h2 => ⟨by rw [HRR.out, if_neg h, if_neg h1, if_neg h2], by rw [HVV.out, decide_eq_false h, decide_eq_false h1, decide_eq_false h2]; rfl⟩)
  clear HRR HVV
  go_loopg [10] 3 (fun g i wr => ∃ k : Nat, k ≤ 3 ∧ g = 3 - k ∧ i = .int .i64 k ∧ wr = W2 ∧ Hid ((0 < k → ¬ 2 * s0 = s0 + s1 + s2) ∧ (1 < k → ¬ 2 * s1 = s0 + s1 + s2) ∧ (2 < k → ¬ 2 * s2 = s0 + s1 + s2)))
  case atStart => exact ⟨0, by omega, rfl, rfl, rfl, Lib.hid ⟨by omega, by omega, by omega⟩⟩
  case round =>
    obtain ⟨k, hk, hg, rfl, rfl, hD⟩ := hrel
    rcases (show k = 0 ∨ k = 1 ∨ k = 2 ∨ k = 3 by omega) with rfl | rfl | rfl | rfl
    · by_cases h : 2 * s0 = s0 + s1 + s2
      · obtain ⟨rfl, rfl⟩ := F0.out h
        clear F0 F1 F2 F3 X1 X2 hD
        go_wp2_with fail
        refine bodyPost_ret (v := .tuple #[.agg #[.int .i64 a1, .int .i64 a2], .bool true]) (by simp [results, Try.results54, go_sem, n0, n1, n2, n3]) rfl ⟨rfl, ?_⟩
        repeat (first | with_reducible assumption | with_reducible exact Below.refl _ _ | with_reducible apply Below.drew | ((with_reducible refine Below.setCell ?_ ?_ _); rotate_left; (first | exact Nat.le_refl _ | omega | (simp <;> omega))) | ((with_reducible refine Below.alloc ?_ ?_ _); rotate_left; (first | omega | (simp <;> omega))))
      · have HD : Hid ((0 < 0 + 1 → ¬ 2 * s0 = s0 + s1 + s2) ∧ (1 < 0 + 1 → ¬ 2 * s1 = s0 + s1 + s2) ∧ (2 < 0 + 1 → ¬ 2 * s2 = s0 + s1 + s2)) := Lib.hid ⟨fun _ => h, by omega, by omega⟩
        clear F0 F1 F2 F3 X1 X2 hD
        go_wp2_with fail
        go_roundg (3 - (0 + 1))
        case measure => omega
        case rel => exact ⟨0 + 1, by omega, rfl, by go_num, rfl, HD⟩
    · have hd0 := hD.out.1 (by omega)
      by_cases h : 2 * s1 = s0 + s1 + s2
      · obtain ⟨rfl, rfl⟩ := F1.out hd0 h
        clear F0 F1 F2 F3 X0 X2 hD hd0
        go_wp2_with fail
        refine bodyPost_ret (v := .tuple #[.agg #[.int .i64 b1, .int .i64 b2], .bool true]) (by simp [results, Try.results54, go_sem, n0, n1, n2, n3]) rfl ⟨rfl, ?_⟩
        repeat (first | with_reducible assumption | with_reducible exact Below.refl _ _ | with_reducible apply Below.drew | ((with_reducible refine Below.setCell ?_ ?_ _); rotate_left; (first | exact Nat.le_refl _ | omega | (simp <;> omega))) | ((with_reducible refine Below.alloc ?_ ?_ _); rotate_left; (first | omega | (simp <;> omega))))
      · have HD : Hid ((0 < 1 + 1 → ¬ 2 * s0 = s0 + s1 + s2) ∧ (1 < 1 + 1 → ¬ 2 * s1 = s0 + s1 + s2) ∧ (2 < 1 + 1 → ¬ 2 * s2 = s0 + s1 + s2)) := Lib.hid ⟨fun _ => hd0, fun _ => h, by omega⟩
        clear F0 F1 F2 F3 X0 X2 hD hd0
        go_wp2_with fail
        go_roundg (3 - (1 + 1))
        case measure => omega
        case rel => exact ⟨1 + 1, by omega, rfl, by go_num, rfl, HD⟩
    · have hd0 := hD.out.1 (by omega)
      have hd1 := hD.out.2.1 (by omega)
      by_cases h : 2 * s2 = s0 + s1 + s2
      · obtain ⟨rfl, rfl⟩ := F2.out hd0 hd1 h
        clear F0 F1 F2 F3 X0 X1 hD hd0 hd1
        go_wp2_with fail
        refine bodyPost_ret (v := .tuple #[.agg #[.int .i64 c1, .int .i64 c2], .bool true]) (by simp [results, Try.results54, go_sem, n0, n1, n2, n3]) rfl ⟨rfl, ?_⟩
        repeat (first | with_reducible assumption | with_reducible exact Below.refl _ _ | with_reducible apply Below.drew | ((with_reducible refine Below.setCell ?_ ?_ _); rotate_left; (first | exact Nat.le_refl _ | omega | (simp <;> omega))) | ((with_reducible refine Below.alloc ?_ ?_ _); rotate_left; (first | omega | (simp <;> omega))))
      · have HD : Hid ((0 < 2 + 1 → ¬ 2 * s0 = s0 + s1 + s2) ∧ (1 < 2 + 1 → ¬ 2 * s1 = s0 + s1 + s2) ∧ (2 < 2 + 1 → ¬ 2 * s2 = s0 + s1 + s2)) := Lib.hid ⟨fun _ => hd0, fun _ => hd1, fun _ => h⟩
        clear F0 F1 F2 F3 X0 X1 hD hd0 hd1
        go_wp2_with fail
        go_roundg (3 - (2 + 1))
        case measure => omega
        case rel => exact ⟨2 + 1, by omega, rfl, by go_num, rfl, HD⟩
    · obtain ⟨rfl, rfl⟩ := F3.out (hD.out.1 (by omega)) (hD.out.2.1 (by omega)) (hD.out.2.2 (by omega))
      clear F0 F1 F2 F3 X0 X1 X2 hD
      go_wp2_with fail
      refine bodyPost_ret (v := .tuple #[.agg #[.int .i64 0, .int .i64 0], .bool false]) (by simp [results, Try.results54, go_sem, n0, n1, n2, n3]) rfl ⟨rfl, ?_⟩
      repeat (first | with_reducible assumption | with_reducible exact Below.refl _ _ | with_reducible apply Below.drew | ((with_reducible refine Below.setCell ?_ ?_ _); rotate_left; (first | exact Nat.le_refl _ | omega | (simp <;> omega))) | ((with_reducible refine Below.alloc ?_ ?_ _); rotate_left; (first | omega | (simp <;> omega))))
end Go.Proofs.Ytmhdbodmpohdnaa
/- contracts: the greatest triangle, upright rectangles, both sides -/
namespace Go.Proofs.Ytmhdbodmpohdnaa
open Go.ChangeShapes Go.WideShapes Go.ChangeAt Go.RowKit Go.Joins
set_option linter.unusedVariables false
set_option linter.unusedSimpArgs false
set_option maxRecDepth 4000
set_option maxHeartbeats 1000000 in
theorem specGreatestTriangle_any (w h : Int) (W : World) :
    Calls Try.prog 15 #[.int .i64 w, .int .i64 h] W fun e w' => e = .returned (.tuple #[.int .i64 (bdV (bdB 12 w h) ((w - 1) * (h - 1))), .bool (bdB 12 w h)]) ∧ Below W.heap.size W w' := by
  have K := Lib.hid (ctBoard_any w h 12 W)
  by_cases hg : bdB 12 w h = true
  · obtain ⟨h1, h2, h3, h4⟩ := bdB_true hg
    obtain ⟨g1, g2⟩ := gr_bd h1 h2 h3 h4
    rw [hg] at K ⊢
    rw [bdV_t]
    clear hg
    go_enter Try.func15, Try.ntmps15
    go_wp2_with fail
    refine K.out.mono ?_; rintro e w1 ⟨rfl, hb1⟩
    go_wp2_with fail
    go_ret2
    exact ⟨rfl, hb1⟩
  · have hf : bdB 12 w h = false := by simpa using hg
    rw [hf] at K ⊢
    rw [bdV_f]
    clear hg hf
    go_enter Try.func15, Try.ntmps15
    go_wp2_with fail
    refine K.out.mono ?_; rintro e w1 ⟨rfl, hb1⟩
    go_wp2_with fail
    go_ret2
    exact ⟨rfl, hb1⟩
set_option maxHeartbeats 1000000 in
theorem implGreatestTriangle_any (w h : Int) (W : World) :
    Calls Try.prog 16 #[.int .i64 w, .int .i64 h] W fun e w' => e = .returned (.tuple #[.int .i64 (bdV (bdB 12 w h) ((w - 1) * (h - 1))), .bool (bdB 12 w h)]) ∧ Below W.heap.size W w' := by
  by_cases hg : bdB 12 w h = true
  · have K := Lib.hid (boardUpTo_t 12 w h W hg)
    obtain ⟨h1, h2, h3, h4⟩ := bdB_true hg
    obtain ⟨g1, g2⟩ := gr_bd h1 h2 h3 h4
    rw [hg, bdV_t]
    clear hg
    go_enter Try.func16, Try.ntmps16
    go_wp2_with fail
    refine K.out.mono ?_; rintro e w1 ⟨rfl, hb1⟩
    have BA := Below.alloc hb1 hb1.size (.cells #[.int .i64 w, .int .i64 h] 34)
    go_wp2_with fail
    go_ret2
    exact ⟨rfl, BA⟩
  · have hf : bdB 12 w h = false := by simpa using hg
    have K := Lib.hid (boardUpTo_f 12 w h W hf)
    rw [hf, bdV_f]
    clear hg hf
    go_enter Try.func16, Try.ntmps16
    go_wp2_with fail
    refine K.out.mono ?_; rintro e w1 ⟨rfl, hb1⟩
    have BA := Below.alloc hb1 hb1.size (.cells #[.int .i64 0, .int .i64 0] 34)
    go_wp2_with fail
    go_ret2
    exact ⟨rfl, BA⟩
set_option maxHeartbeats 1000000 in
theorem specCountUpright_any (w h : Int) (W : World) :
    Calls Try.prog 17 #[.int .i64 w, .int .i64 h] W fun e w' => e = .returned (.tuple #[.int .i64 (bdV (bdB 12 w h) (uprN w h)), .bool (bdB 12 w h)]) ∧ Below W.heap.size W w' := by
  have K := Lib.hid (ctBoard_any w h 12 W)
  by_cases hg : bdB 12 w h = true
  · obtain ⟨h1, h2, h3, h4⟩ := bdB_true hg
    obtain ⟨g1, g2⟩ := upr_bd h1 h2
    obtain ⟨g3, g4⟩ := upr_bd h3 h4
    obtain ⟨g5, g6⟩ := upp_bd g1 g2 g3 g4
    unfold uprN
    rw [hg] at K ⊢
    rw [bdV_t]
    clear hg
    go_enter Try.func17, Try.ntmps17
    go_wp2_with fail
    refine K.out.mono ?_; rintro e w1 ⟨rfl, hb1⟩
    go_wp2_with fail
    go_ret2
    exact ⟨rfl, hb1⟩
  · have hf : bdB 12 w h = false := by simpa using hg
    rw [hf] at K ⊢
    rw [bdV_f]
    clear hg hf
    go_enter Try.func17, Try.ntmps17
    go_wp2_with fail
    refine K.out.mono ?_; rintro e w1 ⟨rfl, hb1⟩
    go_wp2_with fail
    go_ret2
    exact ⟨rfl, hb1⟩
set_option maxHeartbeats 1000000 in
theorem implCountUpright_any (w h : Int) (W : World) :
    Calls Try.prog 18 #[.int .i64 w, .int .i64 h] W fun e w' => e = .returned (.tuple #[.int .i64 (bdV (bdB 12 w h) (uprN w h)), .bool (bdB 12 w h)]) ∧ Below W.heap.size W w' := by
  by_cases hg : bdB 12 w h = true
  · have K := Lib.hid (boardUpTo_t 12 w h W hg)
    obtain ⟨h1, h2, h3, h4⟩ := bdB_true hg
    obtain ⟨g1, g2⟩ := upr_bd h1 h2
    obtain ⟨g3, g4⟩ := upr_bd h3 h4
    obtain ⟨g5, g6⟩ := upp_bd g1 g2 g3 g4
    unfold uprN
    rw [hg, bdV_t]
    clear hg
    go_enter Try.func18, Try.ntmps18
    go_wp2_with fail
    refine K.out.mono ?_; rintro e w1 ⟨rfl, hb1⟩
    have BA := Below.alloc hb1 hb1.size (.cells #[.int .i64 w, .int .i64 h] 34)
    go_wp2_with fail
    go_ret2
    exact ⟨rfl, BA⟩
  · have hf : bdB 12 w h = false := by simpa using hg
    have K := Lib.hid (boardUpTo_f 12 w h W hf)
    rw [hf, bdV_f]
    clear hg hf
    go_enter Try.func18, Try.ntmps18
    go_wp2_with fail
    refine K.out.mono ?_; rintro e w1 ⟨rfl, hb1⟩
    have BA := Below.alloc hb1 hb1.size (.cells #[.int .i64 0, .int .i64 0] 34)
    go_wp2_with fail
    go_ret2
    exact ⟨rfl, BA⟩
end Go.Proofs.Ytmhdbodmpohdnaa
/- contract: triangles with a right angle, the program -/
namespace Go.Proofs.Ytmhdbodmpohdnaa
open Go.ChangeShapes Go.WideShapes Go.ChangeAt Go.RowKit Go.Joins
set_option linter.unusedVariables false
set_option linter.unusedSimpArgs false
set_option maxRecDepth 4000
open Go.Shelf
attribute [local go_sem] Oper.semAt_some
theorem threesOf_any (A : Option Addr) (N c : Nat) (w : World) :
    Calls Try.prog 53 #[.slice A N c] w fun e w' => e = .returned (.func (.func 66) #[] #[.pointer (some ⟨w.heap.size, 0, none⟩)]) ∧ w' = w.alloc (.cells #[.slice A N c] 38) := by
  go_enter Try.func53, Try.ntmps53
  go_wp2
  go_ret
  exact ⟨rfl, rfl⟩
theorem threes_stops (n : Nat) (hn : 1 ≤ n) (Bn c0 N c : Nat) (A : Option Addr) (f : Nat → Int × Int) (hN : N ≤ 200) (hNc : N ≤ c) (hc63 : c ≤ 9223372036854775807) (w : World)
    (hBz : Bn < w.heap.size) (hBn : w.cell? ⟨Bn, 0, none⟩ = some (.slice A N c)) (hBc : Bn ≠ c0) (hcz : c0 < w.heap.size)
    (hR : ∀ i, i < N → ∃ b off, A = some ⟨b, off, none⟩ ∧ b < w.heap.size ∧ b ≠ c0 ∧ w.cell? ⟨b, off + i * 2, none⟩ = some (.int .i64 (f i).1) ∧ w.cell? ⟨b, off + i * 2 + 1, none⟩ = some (.int .i64 (f i).2)) :
    SeqStopsK Fence.wide n Try.prog 66 #[.pointer (some ⟨Bn, 0, none⟩)] (fun x : Tr3 N => encT f x.1) (KpC c0) (fun ys => ys.map (·.1) = t3A N) (fun _ => True) 10000000 w := fun l J Jx W hW hJ _ hY h0 => by
  refine (threes1_in n hn l Bn c0 N c A f J Jx hN hNc hc63 (fun pre W' o hs => hJ _ _ _ none hs (World.grownBy_alloc W' o none) (fun r e => by cases e)) hY W (Nat.lt_of_lt_of_le hBz hW.size) ((hW.cell (p := ⟨Bn, 0, none⟩) hBz).trans hBn) hBc (Nat.lt_of_lt_of_le hcz hW.size) (fun i hi => ?_) h0).mono ?_
  · obtain ⟨b, off, e, h1, h2, h3, h4⟩ := hR i hi
    exact ⟨b, off, e, Nat.lt_of_lt_of_le h1 hW.size, h2, (hW.cell (p := ⟨b, off + i * 2, none⟩) h1).trans h3, (hW.cell (p := ⟨b, off + i * 2 + 1, none⟩) h1).trans h4⟩
  · rintro e W' ⟨hv, h | ⟨pre, h⟩⟩
    · exact ⟨hv, .inl h⟩
    · exact ⟨hv, .inr ⟨pre, trivial, h⟩⟩
theorem retP_readL {w w1 : World} {f : Nat → Int × Int} {n : Nat} {e : Ending} (h : RetP w (firsts f n) e w1) :
    ∃ A c, e = .returned (.slice A n c) ∧ n ≤ c ∧ c ≤ maxLen ∧ Below w.heap.size w w1 ∧ ∀ W, Below w1.heap.size w1 W → ∀ i, i < n → ∃ b off, A = some ⟨b, off, none⟩ ∧ w.heap.size ≤ b ∧ b < w1.heap.size ∧ W.cell? ⟨b, off + i * 2, none⟩ = some (.int .i64 (f i).1) ∧ W.cell? ⟨b, off + i * 2 + 1, none⟩ = some (.int .i64 (f i).2) := by
  obtain ⟨A, c, rfl, h1, h2, hb, hr⟩ := h
  rw [firsts_len] at h1 hr
  refine ⟨A, c, by rw [firsts_len], h1, h2, hb, fun W hW i hi => ?_⟩
  obtain ⟨b, off, e, b1, b2, hc⟩ := hr (by omega)
  obtain ⟨⟨x1, x2⟩, _⟩ := hc i hi
  rw [firsts_pt f n i hi] at x1 x2
  exact ⟨b, off, e, b1, b2, (hW.cell (p := ⟨b, off + i * 2, none⟩) b2).trans x1, (hW.cell (p := ⟨b, off + i * 2 + 1, none⟩) b2).trans x2⟩
/-- how many of a list's threes are so -/
def cnt3 (g : Nat × Nat × Nat → Bool) (L : List (Nat × Nat × Nat)) : Nat := (L.filter g).length
theorem cnt3_snoc (g : Nat × Nat × Nat → Bool) (L : List (Nat × Nat × Nat)) (t : Nat × Nat × Nat) : cnt3 g (L ++ [t]) = cnt3 g L + if g t = true then 1 else 0 := by
  unfold cnt3
  rw [List.filter_append, List.length_append]
  by_cases h : g t = true
  · rw [if_pos h]; simp [h]
  · rw [if_neg h]; simp [h]
theorem cnt3_le (g : Nat × Nat × Nat → Bool) (L : List (Nat × Nat × Nat)) : cnt3 g L ≤ L.length := List.length_filter_le _ _
theorem keepsFrom_below {b : Nat} {A B : World} (h : Below A.heap.size A B) : KeepsFrom b A B := ⟨h.size, fun k o _ hk _ => (h.block k (Array.getElem?_eq_some_iff.1 hk).1).trans hk⟩
/-- three points in a box -/
structure Th6 (W : World) (B : Nat) (f : Nat → Int × Int) (t : Nat × Nat × Nat) : Prop where
  hi : B < W.heap.size
  e0 : W.cell? ⟨B, 0, none⟩ = some (.int .i64 (f t.1).1)
  e1 : W.cell? ⟨B, 1, none⟩ = some (.int .i64 (f t.1).2)
  e2 : W.cell? ⟨B, 2, none⟩ = some (.int .i64 (f t.2.1).1)
  e3 : W.cell? ⟨B, 3, none⟩ = some (.int .i64 (f t.2.1).2)
  e4 : W.cell? ⟨B, 4, none⟩ = some (.int .i64 (f t.2.2).1)
  e5 : W.cell? ⟨B, 5, none⟩ = some (.int .i64 (f t.2.2).2)
theorem Th6.own {B b : Nat} {f : Nat → Int × Int} {t : Nat × Nat × Nat} : OwnFrom b (fun (_ : Unit) W => Th6 W B f t) := Own.from (fun s X Y row hs hg hr =>
  ⟨Nat.lt_of_lt_of_le hs.hi hg.size, cell_kept hs.e0 hg hr, cell_kept hs.e1 hg hr, cell_kept hs.e2 hg hr, cell_kept hs.e3 hg hr, cell_kept hs.e4 hg hr, cell_kept hs.e5 hg hr⟩) _
theorem Th6.new (W : World) (f : Nat → Int × Int) (t : Nat × Nat × Nat) (T : TypeId) : Th6 (W.alloc (.cells #[.int .i64 (f t.1).1, .int .i64 (f t.1).2, .int .i64 (f t.2.1).1, .int .i64 (f t.2.1).2, .int .i64 (f t.2.2).1, .int .i64 (f t.2.2).2] T)) W.heap.size f t :=
  ⟨by simp, by go_simp, by go_simp, by go_simp, by go_simp, by go_simp, by go_simp⟩
def rgT (f : Nat → Int × Int) (t : Nat × Nat × Nat) : Bool := rcB (f t.1) (f t.2.1) (f t.2.2)
def rgtN (nw nh : Nat) : Nat := cnt3 (rgT (bX nh)) (t3A (nw * nh))
set_option maxRecDepth 100000 in
set_option maxHeartbeats 4000000 in
theorem implCountRight_t (w h : Int) (W : World) (hg : bdB 6 w h = true) :
    Calls Try.prog 29 #[.int .i64 w, .int .i64 h] W fun e w' => e = .returned (.tuple #[.int .i64 ((rgtN w.toNat h.toNat : Nat) : Int), .bool true]) ∧ Below W.heap.size W w' := by
  have K := Lib.hid (fun W => boardUpTo_t 6 w h W hg)
  obtain ⟨h1, h2, h3, h4⟩ := bdB_true hg
  have nw : w.toNat ≤ 12 := by omega
  have nh : h.toNat ≤ 12 := by omega
  have h144 := bd_mul nw nh
  have KP := Lib.hid (fun W => boardPegs_any w.toNat h.toNat W nw nh)
  rw [show ((w.toNat : Nat) : Int) = w by omega, show ((h.toNat : Nat) : Int) = h by omega] at KP
  obtain ⟨R, hR⟩ : ∃ R, R = rgtN w.toNat h.toNat := ⟨_, rfl⟩
  rw [← hR]
  have HGO : Hid (R = cnt3 (rgT (bX h.toNat)) (t3A (w.toNat * h.toNat))) := Lib.hid hR
  clear hR
  refine (callsIn_wide (n := 9)).1 ?_
  refine callsIn_of_wp_marks Try.func29 rfl trivial ?_ rfl
  simp only [Try.ntmps29, List.size_toArray, List.length_cons, List.length_nil, Nat.reduceAdd, Nat.reduceSub, Array.replicate_succ, Array.replicate_zero, List.push_toArray, List.append_toArray, List.nil_append, List.cons_append]
  gi_wp2
  refine ⟨trivial, (callsIn_wide.2 (K.out W)).mono ?_⟩; rintro e w1 ⟨rfl, hb1⟩
  gi_wp2
  obtain ⟨W2, hW2⟩ : ∃ W2, W2 = (w1.alloc (.cells #[.int .i64 w, .int .i64 h] 34)).alloc (.cells #[.int .i64 0] 3) := ⟨_, rfl⟩
  have B2 : Below W.heap.size W W2 := by rw [hW2]; exact Below.alloc (Below.alloc hb1 hb1.size _) (by have := hb1.size; simp; omega) _
  have c2 : W2.cell? ⟨w1.heap.size + 1, 0, none⟩ = some (.int .i64 0) := by rw [hW2]; go_simp
  have f2 : W2.frozen? ⟨w1.heap.size + 1, 0, none⟩ = false := by rw [hW2]; (repeat rw [frozen?_alloc_cells]); simp [World.frozen?]
  have z2 : w1.heap.size + 1 < W2.heap.size := by rw [hW2]; simp
  rw [← hW2]
  clear hW2
  refine ⟨trivial, (callsIn_wide.2 (KP.out W2)).mono ?_⟩; intro e w3 hret
  obtain ⟨A, c, rfl, hc1, hc2, hb3, hrd⟩ := retP_readL hret
  have HC := Lib.hid hrd
  have B3 := B2.trans (hb3.mono B2.size)
  have c3 := ((bcell hb3).1 _ 0 z2).trans c2
  have f3 := ((bcell hb3).2 _ 0 z2).trans f2
  have z3 := Nat.lt_of_lt_of_le z2 hb3.size
  unfold maxLen at hc2
  clear hret hrd hb3 KP K c2 f2
  gi_wp2
  refine ⟨trivial, (callsIn_wide.2 (threesOf_any A _ c w3)).mono ?_⟩; rintro e w4 ⟨rfl, rfl⟩
  gi_wp2
  obtain ⟨WS, hWS⟩ : ∃ WS, WS = w3.alloc (.cells #[.slice A (w.toNat * h.toNat) c] 38) := ⟨_, rfl⟩
  have BS : Below w3.heap.size w3 WS := by rw [hWS]; exact Below.alloc (Below.refl _ _) (Nat.le_refl _) _
  have eS : Hid (WS.heap.size = w3.heap.size + 1) := Lib.hid (by rw [hWS]; simp)
  have bS : WS.cell? ⟨w3.heap.size, 0, none⟩ = some (.slice A (w.toNat * h.toNat) c) := by rw [hWS]; go_simp
  have cS := ((bcell BS).1 _ 0 z3).trans c3
  have fS := ((bcell BS).2 _ 0 z3).trans f3
  have zS := Nat.lt_of_lt_of_le z3 BS.size
  have BB := B3.trans (BS.mono B3.size)
  rw [← hWS]
  clear hWS c3 f3
  have HST : Hid (SeqStopsK Fence.wide 8 Try.prog 66 #[.pointer (some ⟨w3.heap.size, 0, none⟩)] (fun x : Tr3 (w.toNat * h.toNat) => encT (bX h.toNat) x.1) (KpC (w1.heap.size + 1)) (fun ys => ys.map (·.1) = t3A (w.toNat * h.toNat)) (fun _ => True) 10000000 WS) :=
    Lib.hid (threes_stops 8 (by omega) w3.heap.size (w1.heap.size + 1) (w.toNat * h.toNat) c A (bX h.toNat) (by omega) hc1 (by omega) WS (by have := eS.out; omega) bS (by omega) zS (fun i hi => by
      obtain ⟨b, off, e, q1, q2, q3, q4⟩ := HC.out WS BS i hi
      exact ⟨b, off, e, Nat.lt_of_lt_of_le q2 BS.size, by omega, q3, q4⟩))
  have HBD : Hid (∀ i, i < w.toNat * h.toNat → (-40 ≤ (bX h.toNat i).1 ∧ (bX h.toNat i).1 ≤ 40) ∧ (-40 ≤ (bX h.toNat i).2 ∧ (bX h.toNat i).2 ≤ 40)) := Lib.hid (fun i hi => by have := bX_bd hi; omega)
  have HLEN : Hid ((t3A (w.toNat * h.toNat)).length ≤ 10000000) := Lib.hid (by
    have l1 := t3A_len (w.toNat * h.toNat)
    have l2 := Nat.mul_le_mul h144 h144
    have l3 := Nat.mul_le_mul h144 l2
    omega)
  generalize bX h.toNat = f at *
  generalize w.toNat * h.toNat = N at *
  have HI : OwnFrom WS.heap.size (fun (pre : List (Tr3 N)) W' => (W'.cell? ⟨w1.heap.size + 1, 0, none⟩ = some (.int .i64 ((cnt3 (rgT f) (pre.map (·.1)) : Nat) : Int)) ∧ W'.frozen? ⟨w1.heap.size + 1, 0, none⟩ = false) ∧ Below W.heap.size W W') :=
    OwnFrom.and (Own.from (fun s A B row hs hg hr => ⟨cell_kept hs.1 hg hr, (frozen_kept hs.1 hg hr).trans hs.2⟩) _) (ownFrom_below (Nat.le_refl _) BB.size)
  have HIH := Lib.hid HI
  have hW1 : W.heap.size ≤ w1.heap.size + 1 := by have := hb1.size; omega
  clear HI bS nw nh h144 hg
  refine wpIn_rangeFunc_ownH (n := 9) rfl (by omega) (gf := 66) (lb := #[.pointer (some ⟨w3.heap.size, 0, none⟩)]) rfl trivial (enters_of Try.func66 (by kernel_rfl) rfl)
    HST.out KpC.trans (fun W' l o o' hl ho hc hw => KpC.put o' ho hc) (Below.refl _ _) (fun _ => rfl)
    (fun pre W' => (W'.cell? ⟨w1.heap.size + 1, 0, none⟩ = some (.int .i64 ((cnt3 (rgT f) (pre.map (·.1)) : Nat) : Int)) ∧ W'.frozen? ⟨w1.heap.size + 1, 0, none⟩ = false) ∧ Below W.heap.size W W')
    (fun _ _ _ => False) HIH.out (fun _ _ _ _ _ hs _ _ => hs) ⟨⟨cS, fS⟩, BB⟩
    (fun x a' W' => ∃ Bx, w1.heap.size + 1 < Bx ∧ Th6 W' Bx f x.1 ∧ a' = { tmps := #[.int .i64 w, .int .i64 h, undef, undef, .int .i64 0, .bool false, .pointer (some ⟨w1.heap.size, 0, none⟩), .bool true, .pointer (some ⟨w1.heap.size + 1, 0, none⟩), .pointer (some ⟨Bx, 0, none⟩), undef, undef,
      .tuple #[.agg #[.int .i64 w, .int .i64 h], .bool true], .int .i64 w, .int .i64 h, .tuple #[.agg #[.int .i64 w, .int .i64 h], .bool true], .agg #[.int .i64 w, .int .i64 h], .bool true, .bool true, .bool false, .agg #[.int .i64 w, .int .i64 h], .slice A N c,
      .func (.func 66) #[] #[.pointer (some ⟨w3.heap.size, 0, none⟩)], .agg #[.int .i64 (f x.1.1).1, .int .i64 (f x.1.1).2, .int .i64 (f x.1.2.1).1, .int .i64 (f x.1.2.1).2, .int .i64 (f x.1.2.2).1, .int .i64 (f x.1.2.2).2], undef, undef, undef, undef, undef, undef, undef, undef, undef], defers := [] })
    (fun x a' s X Y row hs hg hr => by
      obtain ⟨Bx, q1, q2, q3⟩ := hs
      exact ⟨Bx, q1, Th6.own (b := WS.heap.size) () X Y row q2 hg hr, q3⟩) ?assign ?body ?done ?stop
  case assign =>
    rintro l pre x W' K hi hK
    have hz : w1.heap.size + 1 < W'.heap.size := by
      obtain ⟨o, ho, _⟩ := cells_of_cell hi.1.1
      exact (Array.getElem?_eq_some_iff.1 ho).1
    have hn := hK _ _ ((KeepsOthers.alloc W' (.cells #[.int .i64 (f x.1.1).1, .int .i64 (f x.1.1).2, .int .i64 (f x.1.2.1).1, .int .i64 (f x.1.2.1).2, .int .i64 (f x.1.2.2).1, .int .i64 (f x.1.2.2).2] 53)).from _) (KpC.new _ _ _) (HIH.out.alloc _ hi) ⟨W'.heap.size, hz, Th6.new W' f x.1 _, rfl⟩
    clear hi hK
    unfold encT
    gi_wp2
    exact hn
  case body =>
    rintro l pre x a' W' hl ⟨r, hr⟩ ⟨⟨hc, hf⟩, hB⟩ ⟨Bx, hBx, h6, rfl⟩ hlt
    obtain ⟨⟨i, k, m⟩, hmk, hki, hiN⟩ := x
    simp only at h6 hmk hki hiN
    have KR := Lib.hid (fun W => rightCorner_any (f i).1 (f i).2 (f k).1 (f k).2 (f m).1 (f m).2 W (HBD.out i hiN) (HBD.out k (by omega)) (HBD.out m (by omega)))
    have hcb : cnt3 (rgT f) (pre.map (·.1)) ≤ pre.length := by have := cnt3_le (rgT f) (pre.map (·.1)); rw [List.length_map] at this; exact this
    have hsn := cnt3_snoc (rgT f) (pre.map (·.1)) (i, k, m)
    have hmp : (pre ++ [(⟨(i, k, m), hmk, hki, hiN⟩ : Tr3 N)]).map (·.1) = pre.map (·.1) ++ [(i, k, m)] := by simp
    have HSN : Hid (cnt3 (rgT f) ((pre ++ [(⟨(i, k, m), hmk, hki, hiN⟩ : Tr3 N)]).map (·.1)) = cnt3 (rgT f) (pre.map (·.1)) + if rcB (f i) (f k) (f m) = true then 1 else 0) := Lib.hid (by rw [hmp, hsn]; rfl)
    clear hsn hmp
    have hcz : w1.heap.size + 1 < W'.heap.size := by
      obtain ⟨o, ho, _⟩ := cells_of_cell hc
      exact (Array.getElem?_eq_some_iff.1 ho).1
    obtain ⟨hz6, g0, g1, g2, g3, g4, g5⟩ := h6
    generalize cnt3 (rgT f) (pre.map (·.1)) = C at *
    obtain ⟨r1, r2, hre⟩ : ∃ r1 r2, rcP (f i) (f k) (f m) = (r1, r2) := ⟨_, _, rfl⟩
    have KR2 : Hid (∀ W, Calls Try.prog 54 #[.agg #[.int .i64 (f i).1, .int .i64 (f i).2, .int .i64 (f k).1, .int .i64 (f k).2, .int .i64 (f m).1, .int .i64 (f m).2]] W fun e w' => e = .returned (.tuple #[.agg #[.int .i64 r1, .int .i64 r2], .bool (rcB (f i) (f k) (f m))]) ∧ Below W.heap.size W w') := Lib.hid (fun W => by
      have := KR.out W
      rw [show rcP ((f i).1, (f i).2) ((f k).1, (f k).2) ((f m).1, (f m).2) = (r1, r2) from hre] at this
      exact this)
    clear KR hre
    generalize rcB (f i) (f k) (f m) = rb at *
    obtain ⟨a1, a2, hae⟩ : ∃ a1 a2, f i = (a1, a2) := ⟨_, _, rfl⟩
    obtain ⟨b1, b2, hbe⟩ : ∃ b1 b2, f k = (b1, b2) := ⟨_, _, rfl⟩
    obtain ⟨d1, d2, hde⟩ : ∃ d1 d2, f m = (d1, d2) := ⟨_, _, rfl⟩
    rw [hae, hbe, hde] at KR2
    rw [hae] at g0 g1
    rw [hbe] at g2 g3
    rw [hde] at g4 g5
    simp only [hae, hbe, hde]
    simp only at g0 g1 g2 g3 g4 g5 KR2
    clear hae hbe hde
    by_cases hrb : rb = true
    · subst hrb
      have HC1 : Hid (cnt3 (rgT f) ((pre ++ [(⟨(i, k, m), hmk, hki, hiN⟩ : Tr3 N)]).map (·.1)) = C + 1) := Lib.hid (HSN.out.trans (by rw [if_pos rfl]))
      clear HSN
      gi_wp2
      refine ⟨trivial, (CallsIn.inRound l (callsIn_wide.2 (KR2.out W'))).mono ?_⟩; rintro e w5 ⟨rfl, hb5⟩
      have c5 := ((bcell hb5).1 _ 0 hcz).trans hc
      have f5 := ((bcell hb5).2 _ 0 hcz).trans hf
      have z5 := Nat.lt_of_lt_of_le hcz hb5.size
      have B5 := hB.trans (hb5.mono hB.size)
      have cX : (((w5.setCell ⟨w1.heap.size + 1, 0, none⟩ (.int .i64 ((C : Int) + 1))).alloc (.cells #[.int .i64 r1, .int .i64 r2] 28)).cell? ⟨w1.heap.size + 1, 0, none⟩ = some (.int .i64 ((cnt3 (rgT f) ((pre ++ [(⟨(i, k, m), hmk, hki, hiN⟩ : Tr3 N)]).map (·.1)) : Nat) : Int))) := by
        rw [HC1.out, World.cell?_alloc_lt _ _ ⟨w1.heap.size + 1, 0, none⟩ (by rw [World.size_setCell]; exact z5), World.cell?_setCell_same _ _ _ c5]
        rfl
      have fX : (((w5.setCell ⟨w1.heap.size + 1, 0, none⟩ (.int .i64 ((C : Int) + 1))).alloc (.cells #[.int .i64 r1, .int .i64 r2] 28)).frozen? ⟨w1.heap.size + 1, 0, none⟩ = false) := by
        rw [frozen?_alloc_cells, World.frozen?_setCell]; exact f5
      have bX : Below W.heap.size W ((w5.setCell ⟨w1.heap.size + 1, 0, none⟩ (.int .i64 ((C : Int) + 1))).alloc (.cells #[.int .i64 r1, .int .i64 r2] 28)) :=
        Below.alloc (B5.setCell (p := ⟨w1.heap.size + 1, 0, none⟩) hW1 _) (by rw [World.size_setCell]; exact B5.size) _
      have HX := Lib.hid (And.intro ((keepsFrom_below hb5).trans (((KeepsOthers.setCell w5 ⟨w1.heap.size + 1, 0, none⟩ (.int .i64 ((C : Int) + 1))).from WS.heap.size).trans ((KeepsOthers.alloc _ (.cells #[.int .i64 r1, .int .i64 r2] 28)).from _))) (And.intro ((KpC.below (c0 := w1.heap.size + 1) hb5).trans ((KpC.set w5 0 (.int .i64 ((C : Int) + 1))).trans (KpC.new _ _ (.cells #[.int .i64 r1, .int .i64 r2] 28)))) (And.intro (And.intro cX fX) bX)))
      clear hb5 hc hf g0 g1 g2 g3 g4 g5 KR2 cX fX bX B5
      gi_wp2
      exact HX.out
    · have hrf : rb = false := by simpa using hrb
      subst hrf
      have HC1 : Hid (cnt3 (rgT f) ((pre ++ [(⟨(i, k, m), hmk, hki, hiN⟩ : Tr3 N)]).map (·.1)) = C) := Lib.hid (HSN.out.trans (by rw [if_neg (by simp), Nat.add_zero]))
      clear HSN hrb
      gi_wp2
      refine ⟨trivial, (CallsIn.inRound l (callsIn_wide.2 (KR2.out W'))).mono ?_⟩; rintro e w5 ⟨rfl, hb5⟩
      have c5 := ((bcell hb5).1 _ 0 hcz).trans hc
      have f5 := ((bcell hb5).2 _ 0 hcz).trans hf
      have z5 := Nat.lt_of_lt_of_le hcz hb5.size
      have B5 := hB.trans (hb5.mono hB.size)
      have cX : ((w5.alloc (.cells #[.int .i64 r1, .int .i64 r2] 28)).cell? ⟨w1.heap.size + 1, 0, none⟩ = some (.int .i64 ((cnt3 (rgT f) ((pre ++ [(⟨(i, k, m), hmk, hki, hiN⟩ : Tr3 N)]).map (·.1)) : Nat) : Int))) := by
        rw [HC1.out, World.cell?_alloc_lt _ _ ⟨w1.heap.size + 1, 0, none⟩ z5]
        exact c5
      have fX : ((w5.alloc (.cells #[.int .i64 r1, .int .i64 r2] 28)).frozen? ⟨w1.heap.size + 1, 0, none⟩ = false) := by
        rw [frozen?_alloc_cells]; exact f5
      have bX : Below W.heap.size W (w5.alloc (.cells #[.int .i64 r1, .int .i64 r2] 28)) := Below.alloc B5 B5.size _
      have HX := Lib.hid (And.intro ((keepsFrom_below (b := WS.heap.size) hb5).trans ((KeepsOthers.alloc _ (.cells #[.int .i64 r1, .int .i64 r2] 28)).from _)) (And.intro ((KpC.below (c0 := w1.heap.size + 1) hb5).trans (KpC.new _ _ (.cells #[.int .i64 r1, .int .i64 r2] 28))) (And.intro (And.intro cX fX) bX)))
      clear hb5 hc hf g0 g1 g2 g3 g4 g5 KR2 cX fX bX B5
      gi_wp2
      exact HX.out
  case done =>
    rintro D ys W' hD hys ⟨⟨hc, hf⟩, hB⟩ hK
    rw [hys, ← HGO.out] at hc
    gi_wp2
    refine ⟨by simp, .inl ⟨_, _, rfl, run_takeDeferred hK, ?_⟩⟩
    refine ⟨.tuple #[.int .i64 (R : Int), .bool true], by simp [results, Try.results29, go_sem], rfl, hB.trans (belowK_b (w := W) (Nat.le_refl _) W' D _ _ (by have := BB.size; omega) hK rfl rfl)⟩
  case stop =>
    rintro D c pre W' _ _ h _
    exact h.elim
end Go.Proofs.Ytmhdbodmpohdnaa
/- contracts: a triangle's corners together; twice its area without a sign -/
namespace Go.Proofs.Ytmhdbodmpohdnaa
open Go.ChangeShapes Go.WideShapes Go.ChangeAt Go.RowKit Go.Joins
set_option linter.unusedVariables false
set_option linter.unusedSimpArgs false
set_option maxRecDepth 4000
theorem twiceSize_any (a1 a2 b1 b2 c1 c2 : Int) (w : World) (ha : Sz a1 a2) (hb : Sz b1 b2) (hc : Sz c1 c2) :
    Calls Try.prog 64 #[.agg #[.int .i64 a1, .int .i64 a2, .int .i64 b1, .int .i64 b2, .int .i64 c1, .int .i64 c2]] w fun e w' => e = .returned (.int .i64 ((twI a1 a2 b1 b2 c1 c2).natAbs : Int)) ∧ Below w.heap.size w w' := by
  have K := Lib.hid (fun W => twice_any a1 a2 b1 b2 c1 c2 W ha hb hc)
  obtain ⟨t1, t2⟩ := twI_bd ha hb hc
  generalize twI a1 a2 b1 b2 c1 c2 = t at *
  clear ha hb hc
  have e1 : IntKind.i64.wrap (-t) = -t := IntWalk.i64_in _ (by omega)
  by_cases h : t < -t
  all_goals
    go_enter Try.func64, Try.ntmps64
    go_wp2_with fail
    obtain ⟨W0, hW0⟩ : ∃ W0, W0 = (w.alloc (.cells #[.int .i64 a1, .int .i64 a2, .int .i64 b1, .int .i64 b2, .int .i64 c1, .int .i64 c2] 53)) := ⟨_, rfl⟩
    rw [← hW0]
    have yW00_0 : W0.cell? ⟨w.heap.size, 0, none⟩ = some (.int .i64 a1) := by rw [hW0]; go_simp
    have yW00_1 : W0.cell? ⟨w.heap.size, 1, none⟩ = some (.int .i64 a2) := by rw [hW0]; go_simp
    have yW00_2 : W0.cell? ⟨w.heap.size, 2, none⟩ = some (.int .i64 b1) := by rw [hW0]; go_simp
    have yW00_3 : W0.cell? ⟨w.heap.size, 3, none⟩ = some (.int .i64 b2) := by rw [hW0]; go_simp
    have yW00_4 : W0.cell? ⟨w.heap.size, 4, none⟩ = some (.int .i64 c1) := by rw [hW0]; go_simp
    have yW00_5 : W0.cell? ⟨w.heap.size, 5, none⟩ = some (.int .i64 c2) := by rw [hW0]; go_simp
    have fW00 : ∀ o, W0.frozen? ⟨w.heap.size, o, none⟩ = false := by intro o; rw [hW0]; (repeat rw [frozen?_alloc_cells]); simp [World.frozen?]
    have zW00 : w.heap.size < W0.heap.size := by rw [hW0]; simp <;> omega
    have BW0 : Below w.heap.size w W0 := by rw [hW0]; exact (Below.alloc (Below.refl _ _) (by simp <;> omega) _)
    have eW0 : Hid (W0.heap.size = w.heap.size + 1) := Lib.hid (by rw [hW0]; simp)
    clear hW0
    refine wp_region_BT 6 (fun W => Below (W0).heap.size (W0) W) (by kernel_rfl) (by kernel_rfl) (by repeat (first | exact Below.refl _ _ | apply Below.drew)) ?_
    simp only [List.take_succ_cons, List.take_zero, List.drop_succ_cons, List.drop_zero]
    first | refine wpH_skip (by rfl) ?_ | (refine wpH_text (v := ?_) (by rfl) (fun W k1 => ?_) ?_; rotate_left; (obtain ⟨hc1, hf1⟩ := bcell k1;  go_simp; refine comes_v ?_; exact k1))
    (try simp only [Act.put, List.setIfInBounds_toArray, List.set_cons_zero, List.set_cons_succ])
    first | refine wpH_skip (by rfl) ?_ | (refine wpH_text (v := .int .i64 t) (by rfl) (fun W k1 => ?_) ?_; (obtain ⟨hc1, hf1⟩ := bcell k1;  go_simp; exact comes_c ( K.out _) (fun wn hbn => k1.trans (hbn.mono k1.size))))
    (try simp only [Act.put, List.setIfInBounds_toArray, List.set_cons_zero, List.set_cons_succ])
    first | refine wpH_skip (by rfl) ?_ | (refine wpH_text (v := ?_) (by rfl) (fun W k1 => ?_) ?_; rotate_left; (obtain ⟨hc1, hf1⟩ := bcell k1;  go_simp; refine comes_v ?_; exact k1))
    (try simp only [Act.put, List.setIfInBounds_toArray, List.set_cons_zero, List.set_cons_succ])
    first | refine wpH_skip (by rfl) ?_ | (refine wpH_text (v := .int .i64 t) (by rfl) (fun W k1 => ?_) ?_; (obtain ⟨hc1, hf1⟩ := bcell k1;  go_simp; exact comes_c ( K.out _) (fun wn hbn => k1.trans (hbn.mono k1.size))))
    (try simp only [Act.put, List.setIfInBounds_toArray, List.set_cons_zero, List.set_cons_succ])
    first | refine wpH_skip (by rfl) ?_ | (refine wpH_text (v := ?_) (by rfl) (fun W k1 => ?_) ?_; rotate_left; (obtain ⟨hc1, hf1⟩ := bcell k1;  go_simp; refine comes_v ?_; exact k1))
    (try simp only [Act.put, List.setIfInBounds_toArray, List.set_cons_zero, List.set_cons_succ])
    first | refine wpH_skip (by rfl) ?_ | (refine wpH_text (v := ?_) (by rfl) (fun W k1 => ?_) ?_; rotate_left; (obtain ⟨hc1, hf1⟩ := bcell k1;  go_simp; refine comes_v ?_; exact k1))
    (try simp only [Act.put, List.setIfInBounds_toArray, List.set_cons_zero, List.set_cons_succ])
    refine wpH_nil ?_
    intro W k1; obtain ⟨hc1, hf1⟩ := bcell k1
    have B1 : Below w.heap.size w W := BW0.trans (k1.mono BW0.size)
    go_wp2_with fail
    go_ret
    exact ⟨ret_int (by omega), B1⟩
end Go.Proofs.Ytmhdbodmpohdnaa
/- contract: threes of pegs told by their areas, in a map -/
namespace Go.Proofs.Ytmhdbodmpohdnaa
open Go.ChangeShapes Go.WideShapes Go.ChangeAt Go.RowKit Go.Joins
set_option linter.unusedVariables false
set_option linter.unusedSimpArgs false
set_option maxRecDepth 4000
open Go.Shelf
open Go.Maps (IsMap)
attribute [local go_sem] Oper.semAt_some
/-- a map of numbers of one's own, which holds g q at q -/
def MapS (W : World) (b n : Nat) (g : Int → Int) : Prop :=
  ∃ D : DataW Unit, W.ownsMap Try.prog 3 (plainElem Try.prog 3) b n D ∧ IsMap D ∧ ∀ q : Int, (Lit.int .i64 q).wf = true → D.atKey (.int .i64 q) (.lit (.int .i64 0)) = .lit (.int .i64 (g q))
theorem MapS.same {W W' : World} {b n : Nat} {g : Int → Int} (h : MapS W b n g) (e : W'.heap[b]? = W.heap[b]?) : MapS W' b n g := by
  obtain ⟨D, ⟨es, ck, h1, h2⟩, h3⟩ := h
  exact ⟨D, ⟨es, ck, e.trans h1, h2⟩, h3⟩
theorem MapS.lt {W : World} {b n : Nat} {g : Int → Int} (h : MapS W b n g) : b < W.heap.size := by
  obtain ⟨D, ⟨es, ck, h1, h2⟩, h3⟩ := h
  exact (Array.getElem?_eq_some_iff.1 h1).1
theorem MapS.below {W W' : World} {b n : Nat} {g : Int → Int} (h : MapS W b n g) (hb : Below W.heap.size W W') : MapS W' b n g := h.same (hb.block b h.lt)
theorem MapS.congr {W : World} {b n : Nat} {g g' : Int → Int} (h : MapS W b n g) (e : ∀ q, g q = g' q) : MapS W b n g' := by
  obtain ⟨D, h1, h2, h3⟩ := h
  exact ⟨D, h1, h2, fun q hq => by rw [← e q]; exact h3 q hq⟩
theorem MapS.new (W : World) : MapS (W.alloc (.map #[] 0)) W.heap.size 0 (fun _ => 0) :=
  ⟨.map [], World.ownsMap_made W Try.prog 3 (plainElem Try.prog 3), ⟨_, rfl⟩, fun q _ => rfl⟩
theorem MapS.put {W' : World} {b n : Nat} {g : Int → Int} {D : DataW Unit} {x : Int} (v : Int) (h2 : IsMap D) (h3 : ∀ q : Int, (Lit.int .i64 q).wf = true → D.atKey (.int .i64 q) (.lit (.int .i64 0)) = .lit (.int .i64 (g q)))
    (h : W'.ownsMap Try.prog 3 (plainElem Try.prog 3) b n (D.put (.int .i64 x) (.lit (.int .i64 v)))) : MapS W' b n (fun q => if q = x then v else g q) := by
  refine ⟨_, h, ?_, fun q hq => ?_⟩
  · obtain ⟨es, rfl⟩ := h2
    exact ⟨_, rfl⟩
  · show _ = DataW.lit (.int .i64 (if q = x then v else g q))
    by_cases e : q = x
    · subst e
      rw [if_pos rfl, Go.Maps.atKey_put_same h2 (by trivial)]
    · rw [if_neg e, Go.Maps.atKey_put_other (fun q' => e (by injection q'))]
      exact h3 q hq
theorem KpC.turned {c0 : Nat} {W W' : World} (hg : W.grownBy W' (some c0)) : KpC c0 W W' :=
  ⟨hg.size, fun k o hn hk _ => (hg.block k (Array.getElem?_eq_some_iff.1 hk).1 (fun e => hn (by injection e))).trans hk⟩
/-- twice the area of a three, without a sign -/
def szT (f : Nat → Int × Int) (t : Nat × Nat × Nat) : Int := ((twI (f t.1).1 (f t.1).2 (f t.2.1).1 (f t.2.1).2 (f t.2.2).1 (f t.2.2).2).natAbs : Int)
def szQ (f : Nat → Int × Int) (q : Int) (t : Nat × Nat × Nat) : Bool := decide (szT f t = q)
/-- how many threes have an area -/
def arN (f : Nat → Int × Int) (L : List (Nat × Nat × Nat)) (q : Int) : Int := ((cnt3 (szQ f q) L : Nat) : Int)
theorem arN_snoc (f : Nat → Int × Int) (L : List (Nat × Nat × Nat)) (t : Nat × Nat × Nat) (q : Int) : arN f (L ++ [t]) q = if q = szT f t then arN f L (szT f t) + 1 else arN f L q := by
  unfold arN
  rw [cnt3_snoc]
  unfold szQ
  by_cases h : q = szT f t
  · subst h; simp
  · rw [if_neg h, if_neg (by simpa using fun e => h e.symm)]
    simp
theorem arN_bd (f : Nat → Int × Int) (L : List (Nat × Nat × Nat)) (q : Int) : 0 ≤ arN f L q ∧ arN f L q ≤ L.length := by
  have := cnt3_le (szQ f q) L
  unfold arN
  omega
set_option maxRecDepth 100000 in
set_option maxHeartbeats 4000000 in
theorem takerOf_any (nw nh : Nat) (W : World) (h1 : nw ≤ 12) (h2 : nh ≤ 12) :
    Calls Try.prog 52 #[.agg #[.int .i64 nw, .int .i64 nh]] W fun e w' => ∃ bx bm n, e = .returned (.func (.func 65) #[] #[.pointer (some ⟨bx, 0, none⟩)]) ∧ Below W.heap.size W w' ∧ W.heap.size ≤ bm ∧ W.heap.size ≤ bx ∧ w'.cell? ⟨bx, 0, none⟩ = some (.map (some bm)) ∧ n ≤ 10000000 ∧ MapS w' bm n (arN (bX nh) (t3A (nw * nh))) := by
  have KP := Lib.hid (fun W => boardPegs_any nw nh W h1 h2)
  have h144 := bd_mul h1 h2
  have hmm := @run_makeMap Try.prog
  refine (callsIn_wide (n := 9)).1 ?_
  refine callsIn_of_wp_marks Try.func52 rfl trivial ?_ rfl
  simp only [Try.ntmps52, List.size_toArray, List.length_cons, List.length_nil, Nat.reduceAdd, Nat.reduceSub, Array.replicate_succ, Array.replicate_zero, List.push_toArray, List.append_toArray, List.nil_append, List.cons_append]
  gi_wp2
  obtain ⟨W2, hW2⟩ : ∃ W2, W2 = ((W.alloc (.cells #[.int .i64 (nw : Int), .int .i64 (nh : Int)] 34)).alloc (.map #[] 0)).alloc (.cells #[.map (some (W.heap.size + 1))] 66) := ⟨_, rfl⟩
  have B2 : Below W.heap.size W W2 := by rw [hW2]; exact Below.alloc (Below.alloc (Below.alloc (Below.refl _ _) (by simp) _) (by simp) _) (by simp <;> omega) _
  have c2 : W2.cell? ⟨W.heap.size + 2, 0, none⟩ = some (.map (some (W.heap.size + 1))) := by rw [hW2]; go_simp
  have z2 : W.heap.size + 2 < W2.heap.size := by rw [hW2]; simp
  have m2 : MapS W2 (W.heap.size + 1) 0 (arN (bX nh) []) := by
    have q1 := MapS.new (W.alloc (.cells #[.int .i64 (nw : Int), .int .i64 (nh : Int)] 34))
    rw [World.size_alloc] at q1
    have q2 := (q1.below (Below.alloc (Below.refl _ _) (Nat.le_refl _) (.cells #[.map (some (W.heap.size + 1))] 66))).congr (g' := arN (bX nh) []) (fun q => rfl)
    rw [hW2]
    exact q2
  rw [← hW2]
  clear hW2 hmm
  refine ⟨trivial, (callsIn_wide.2 (KP.out W2)).mono ?_⟩; intro e w3 hret
  obtain ⟨A, c, rfl, hc1, hc2, hb3, hrd⟩ := retP_readL hret
  have HC := Lib.hid hrd
  have B3 := B2.trans (hb3.mono B2.size)
  have c3 := ((bcell hb3).1 _ 0 z2).trans c2
  have m3 := Lib.hid (m2.below hb3)
  have z3 := Nat.lt_of_lt_of_le z2 hb3.size
  unfold maxLen at hc2
  clear hret hrd hb3 KP c2 m2
  gi_wp2
  refine ⟨trivial, (callsIn_wide.2 (threesOf_any A _ c w3)).mono ?_⟩; rintro e w4 ⟨rfl, rfl⟩
  gi_wp2
  obtain ⟨WS, hWS⟩ : ∃ WS, WS = w3.alloc (.cells #[.slice A (nw * nh) c] 38) := ⟨_, rfl⟩
  have BS : Below w3.heap.size w3 WS := by rw [hWS]; exact Below.alloc (Below.refl _ _) (Nat.le_refl _) _
  have eS : Hid (WS.heap.size = w3.heap.size + 1) := Lib.hid (by rw [hWS]; simp)
  have bS : WS.cell? ⟨w3.heap.size, 0, none⟩ = some (.slice A (nw * nh) c) := by rw [hWS]; go_simp
  have cS := ((bcell BS).1 _ 0 z3).trans c3
  have mS := m3.out.below BS
  have zS := Nat.lt_of_lt_of_le z3 BS.size
  have BB := B3.trans (BS.mono B3.size)
  rw [← hWS]
  clear hWS c3 m3
  have HST : Hid (SeqStopsK Fence.wide 8 Try.prog 66 #[.pointer (some ⟨w3.heap.size, 0, none⟩)] (fun x : Tr3 (nw * nh) => encT (bX nh) x.1) (KpC (W.heap.size + 1)) (fun ys => ys.map (·.1) = t3A (nw * nh)) (fun _ => True) 10000000 WS) :=
    Lib.hid (threes_stops 8 (by omega) w3.heap.size (W.heap.size + 1) (nw * nh) c A (bX nh) (by omega) hc1 (by omega) WS (by have := eS.out; omega) bS (by omega) (by omega) (fun i hi => by
      obtain ⟨b, off, e, q1, q2, q3, q4⟩ := HC.out WS BS i hi
      exact ⟨b, off, e, Nat.lt_of_lt_of_le q2 BS.size, by omega, q3, q4⟩))
  have HBD : Hid (∀ i, i < nw * nh → Sz (bX nh i).1 (bX nh i).2) := Lib.hid (fun i hi => bX_sz h1 h2 hi)
  have HLEN : Hid ((t3A (nw * nh)).length ≤ 10000000) := Lib.hid (by
    have l1 := t3A_len (nw * nh)
    have l2 := Nat.mul_le_mul h144 h144
    have l3 := Nat.mul_le_mul h144 l2
    omega)
  have HNN : Hid (∃ f N, f = bX nh ∧ N = nw * nh) := Lib.hid ⟨_, _, rfl, rfl⟩
  obtain ⟨f, N, hf, hN⟩ := HNN.out
  have HF := Lib.hid hf
  have HN := Lib.hid hN
  rw [← hf] at HST HBD mS
  rw [← hN] at HST HBD HLEN
  rw [← hN]
  have HI : OwnFrom WS.heap.size (fun (pre : List (Tr3 N)) W' => (W'.cell? ⟨W.heap.size + 2, 0, none⟩ = some (.map (some (W.heap.size + 1))) ∧ MapS W' (W.heap.size + 1) pre.length (arN f (pre.map (·.1)))) ∧ Below W.heap.size W W') :=
    OwnFrom.and (fun s A B row hs hg hr => ⟨cell_kept hs.1 hg (fun r e => (hr r e).2), hs.2.same (hg.block _ hs.2.lt (fun e => by have := (hr _ e.symm).1; omega))⟩) (ownFrom_below (Nat.le_refl _) BB.size)
  have HIH := Lib.hid HI
  clear HI bS h144 hf hN HNN
  refine wpIn_rangeFunc_ownH (n := 9) rfl (by omega) (gf := 66) (lb := #[.pointer (some ⟨w3.heap.size, 0, none⟩)]) rfl trivial (enters_of Try.func66 (by kernel_rfl) rfl)
    HST.out KpC.trans (fun W' l o o' hl ho hc hw => KpC.put o' ho hc) (Below.refl _ _) (fun _ => rfl)
    (fun pre W' => (W'.cell? ⟨W.heap.size + 2, 0, none⟩ = some (.map (some (W.heap.size + 1))) ∧ MapS W' (W.heap.size + 1) pre.length (arN f (pre.map (·.1)))) ∧ Below W.heap.size W W')
    (fun _ _ _ => False) HIH.out (fun _ _ _ _ _ hs _ _ => hs) ⟨⟨cS, mS⟩, BB⟩
    (fun x a' W' => ∃ Bx, W.heap.size + 2 < Bx ∧ Th6 W' Bx f x.1 ∧ a' = { tmps := #[.agg #[.int .i64 (nw : Int), .int .i64 (nh : Int)], .pointer (some ⟨W.heap.size, 0, none⟩), Value.nilFunc, .pointer (some ⟨W.heap.size + 1 + 1, 0, none⟩), .pointer (some ⟨Bx, 0, none⟩), .map (some (W.heap.size + 1)), .agg #[.int .i64 (nw : Int), .int .i64 (nh : Int)], .slice A N c,
      .func (.func 66) #[] #[.pointer (some ⟨w3.heap.size, 0, none⟩)], .agg #[.int .i64 (f x.1.1).1, .int .i64 (f x.1.1).2, .int .i64 (f x.1.2.1).1, .int .i64 (f x.1.2.1).2, .int .i64 (f x.1.2.2).1, .int .i64 (f x.1.2.2).2], undef, undef, undef, undef, undef, undef], defers := [] })
    (fun x a' s X Y row hs hg hr => by
      obtain ⟨Bx, q1, q2, q3⟩ := hs
      exact ⟨Bx, q1, Th6.own (b := WS.heap.size) () X Y row q2 hg hr, q3⟩) ?assign ?body ?done ?stop
  case assign =>
    rintro l pre x W' K hi hK
    have hz : W.heap.size + 2 < W'.heap.size := by
      obtain ⟨o, ho, _⟩ := cells_of_cell hi.1.1
      exact (Array.getElem?_eq_some_iff.1 ho).1
    have hn := hK _ _ ((KeepsOthers.alloc W' (.cells #[.int .i64 (f x.1.1).1, .int .i64 (f x.1.1).2, .int .i64 (f x.1.2.1).1, .int .i64 (f x.1.2.1).2, .int .i64 (f x.1.2.2).1, .int .i64 (f x.1.2.2).2] 53)).from _) (KpC.new _ _ _) (HIH.out.alloc _ hi) ⟨W'.heap.size, hz, Th6.new W' f x.1 _, rfl⟩
    clear hi hK
    unfold encT
    gi_wp2
    exact hn
  case body =>
    rintro l pre x a' W' hl ⟨r, hr⟩ ⟨⟨hc, hm⟩, hB⟩ ⟨Bx, hBx, h6, rfl⟩ hlt
    obtain ⟨⟨i, k, m⟩, hmk, hki, hiN⟩ := x
    simp only at h6 hmk hki hiN
    have KR := Lib.hid (fun W => twiceSize_any (f i).1 (f i).2 (f k).1 (f k).2 (f m).1 (f m).2 W (HBD.out i hiN) (HBD.out k (by omega)) (HBD.out m (by omega)))
    have hcz : W.heap.size + 2 < W'.heap.size := by
      obtain ⟨o, ho, _⟩ := cells_of_cell hc
      exact (Array.getElem?_eq_some_iff.1 ho).1
    obtain ⟨hz6, g0, g1, g2, g3, g4, g5⟩ := h6
    have hsz : (twI (f i).1 (f i).2 (f k).1 (f k).2 (f m).1 (f m).2).natAbs ≤ 80000000000 := by
      have := twI_bd (HBD.out i hiN) (HBD.out k (by omega)) (HBD.out m (by omega))
      omega
    have hsn := arN_snoc f (pre.map (·.1)) (i, k, m)
    have hmp : (pre ++ [(⟨(i, k, m), hmk, hki, hiN⟩ : Tr3 N)]).map (·.1) = pre.map (·.1) ++ [(i, k, m)] := by simp
    obtain ⟨D, hown, hD, hat⟩ := hm
    have es : szT f (i, k, m) = ((twI (f i).1 (f i).2 (f k).1 (f k).2 (f m).1 (f m).2).natAbs : Int) := rfl
    rw [← es] at KR
    have hs2 : 0 ≤ szT f (i, k, m) ∧ szT f (i, k, m) ≤ 80000000000 := by rw [es]; omega
    have hbd := arN_bd f (pre.map (·.1)) (szT f (i, k, m))
    rw [List.length_map] at hbd
    clear es hsz
    have HSN : Hid (∀ q, arN f ((pre ++ [(⟨(i, k, m), hmk, hki, hiN⟩ : Tr3 N)]).map (·.1)) q = if q = szT f (i, k, m) then arN f (pre.map (·.1)) (szT f (i, k, m)) + 1 else arN f (pre.map (·.1)) q) := Lib.hid (fun q => by rw [hmp]; exact hsn q)
    clear hsn hmp
    generalize szT f (i, k, m) = sz at *
    have hwf : (Lit.int .i64 sz).wf = true := by
      have m1 : IntKind.i64.min = -9223372036854775808 := by decide
      have m2 : IntKind.i64.max = 9223372036854775807 := by decide
      show (decide (IntKind.i64.min ≤ sz) && decide (sz ≤ IntKind.i64.max)) = true
      rw [m1, m2]
      simp
      omega
    have hkey := Go.Maps.keyOf_int_mk Try.underlying3 hwf
    have hat0 := hat sz hwf
    generalize arN f (pre.map (·.1)) sz = cn at *
    have HOWN : Hid (∀ w5, Below W'.heap.size W' w5 → w5.ownsMap Try.prog 3 (plainElem (H := Unit) Try.prog 3) (W.heap.size + 1) pre.length D) := Lib.hid (fun w5 hb => by
      obtain ⟨es, ck, q1, q2⟩ := hown
      exact ⟨es, ck, (hb.block _ (by omega)).trans q1, q2⟩)
    have hcn : cn ≤ 10000000 ∧ 0 ≤ cn := by omega
    obtain ⟨cn1, cn2⟩ := hcn
    have ew : IntKind.i64.wrap (cn + 1) = cn + 1 := IntWalk.i64_in _ (by omega)
    have hmx : Try.prog.follows .mixedOrders = true := by kernel_rfl
    have hl2 : pre.length < maxLen := by unfold maxLen; omega
    have hwf2 : (Lit.int .i64 (cn + 1)).wf = true := by
      have m1 : IntKind.i64.min = -9223372036854775808 := by decide
      have m2 : IntKind.i64.max = 9223372036854775807 := by decide
      show (decide (IntKind.i64.min ≤ cn + 1) && decide (cn + 1 ≤ IntKind.i64.max)) = true
      rw [m1, m2]
      simp
      omega
    gi_wp2
    gi_region_with_o ((refine ⟨trivial, ?_⟩; gi_at_call 64; refine (CallsIn.inRound l (callsIn_wide.2 (KR.out _))).mono ?_; rintro e w5 ⟨rfl, hb5⟩; have hb6 := ((Below.refl W'.heap.size W').drew).trans hb5; have hown5 := HOWN.out w5 hb6; have HB6 := Lib.hid hb6; have c5 := ((bcell hb6).1 _ 0 hcz).trans hc; clear hb5 hb6; obtain ⟨c', hlk, hat5, hwc⟩ := hown5.lookup_int (Go.Maps.int_keyed Try.underlying3) Try.underlying66 Try.underlying3 (Try.zeroValue3 _) hkey; obtain rfl : c' = cn := (by rw [hat0] at hat5; injection hat5 with q1; injection q1 with _ q2; exact q2.symm); clear hat5 hwc; obtain ⟨w6, hup, hown6, hgr6⟩ := hown5.update (Go.Maps.int_keyed Try.underlying3) Try.underlying66 hl2 hkey (plainElem_int Try.underlying3 hwf2); have HO6 := Lib.hid hown6; have HG6 := Lib.hid hgr6; clear hown6 hgr6 hown5))
    all_goals gi_wp2
    all_goals
      have B5 := hB.trans (HB6.out.mono hB.size)
      have z56 := HB6.out.size
      have hblk : w6.heap[W.heap.size + 2]? = w5.heap[W.heap.size + 2]? := HG6.out.block (W.heap.size + 2) (by omega) (fun e => by injection e with e; omega)
      have hcc : w6.cell? ⟨W.heap.size + 2, 0, none⟩ = some (.map (some (W.heap.size + 1))) := (World.cell?_of_block hblk).trans c5
      refine ⟨(keepsFrom_below HB6.out).trans (KeepsFrom.of_grownBy HG6.out (fun j e => by cases e; omega)), (KpC.below HB6.out).trans (KpC.turned HG6.out), ⟨hcc, ?_⟩, B5.grown HG6.out B5.size (fun k e => by cases e; omega)⟩
      rw [List.length_append]
      exact (MapS.put _ hD hat HO6.out).congr (fun q => (HSN.out q).symm)
  case done =>
    rintro D ys W' hD hys ⟨⟨hc, hm⟩, hB⟩ hK
    gi_wp2
    refine ⟨by simp, .inl ⟨_, _, rfl, run_takeDeferred hK, ?_⟩⟩
    have hKb := belowK_b (w := W) (Nat.le_refl _) W' D (.deferred (some [])) (.deferred none) (by have := BB.size; omega) hK rfl rfl
    have hgr := grownBy_putObj' W' D (.deferred none)
    have hlen : ys.length ≤ 10000000 := by have e : ys.length = (ys.map (·.1)).length := (List.length_map _).symm; rw [e, hys]; exact HLEN.out
    rw [hys, HF.out] at hm
    exact ⟨_, results_tmp rfl _ _ _, W.heap.size + 2, W.heap.size + 1, ys.length, rfl, hB.trans hKb, by omega, by omega, cell_kept hc hgr (fun r e => by cases e; exact ⟨_, hK, rfl⟩), hlen, by rw [← HN.out]; exact hm.same (hgr.block _ hm.lt (fun e => by injection e with e; have := hm.lt; have := BB.size; omega))⟩
  case stop =>
    rintro D c pre W' _ _ h _
    exact h.elim
end Go.Proofs.Ytmhdbodmpohdnaa
/- contracts: threes taken out by one area; CountOfArea, the program -/
namespace Go.Proofs.Ytmhdbodmpohdnaa
open Go.ChangeShapes Go.WideShapes Go.ChangeAt Go.RowKit Go.Joins
set_option linter.unusedVariables false
set_option linter.unusedSimpArgs false
set_option maxRecDepth 4000
open Go.Maps (IsMap)
theorem MapS.del {W' : World} {b n : Nat} {g : Int → Int} {D : DataW Unit} {x : Int} (h2 : IsMap D) (h3 : ∀ q : Int, (Lit.int .i64 q).wf = true → D.atKey (.int .i64 q) (.lit (.int .i64 0)) = .lit (.int .i64 (g q)))
    (h : W'.ownsMap Try.prog 3 (plainElem Try.prog 3) b n (D.del (.int .i64 x))) : MapS W' b n (fun q => if q = x then 0 else g q) := by
  refine ⟨_, h, ?_, fun q hq => ?_⟩
  · obtain ⟨es, rfl⟩ := h2
    exact ⟨_, rfl⟩
  · show _ = DataW.lit (.int .i64 (if q = x then 0 else g q))
    by_cases e : q = x
    · subst e
      rw [if_pos rfl, Go.Maps.atKey_del_same]
    · rw [if_neg e, Go.Maps.atKey_del_other (fun q' => e (by injection q'))]
      exact h3 q hq
theorem wf_of {q : Int} (h1 : -9223372036854775808 ≤ q) (h2 : q ≤ 9223372036854775807) : (Lit.int .i64 q).wf = true := by
  have m1 : IntKind.i64.min = -9223372036854775808 := by decide
  have m2 : IntKind.i64.max = 9223372036854775807 := by decide
  show (decide (IntKind.i64.min ≤ q) && decide (q ≤ IntKind.i64.max)) = true
  rw [m1, m2]
  simp
  omega
set_option maxRecDepth 100000 in
set_option maxHeartbeats 4000000 in
theorem take1_any (bx bm n sb : Nat) (q : Int) (g : Int → Int) (w : World) (hx : w.cell? ⟨bx, 0, none⟩ = some (.map (some bm))) (hm : MapS w bm n g) (hs : w.cell? ⟨sb, 0, none⟩ = some (.int .i64 q)) (hq : -1000000000000 ≤ q ∧ q ≤ 1000000000000) (hg : 0 ≤ g q ∧ g q ≤ 10000000) :
    Calls Try.prog 65 #[.slice (some ⟨sb, 0, none⟩) 1 1, .pointer (some ⟨bx, 0, none⟩)] w fun e w' => e = .returned (.int .i64 (g q)) ∧ w.grownBy w' (some bm) ∧ MapS w' bm n (fun x => if x = q then 0 else g x) := by
  have hzx : bx < w.heap.size := by
    obtain ⟨o, ho, _⟩ := cells_of_cell hx
    exact (Array.getElem?_eq_some_iff.1 ho).1
  obtain ⟨D, hown, hD, hat⟩ := hm
  have hwf := wf_of (q := q) (by omega) (by omega)
  have hkey := Go.Maps.keyOf_int_mk Try.underlying3 hwf
  have hat0 := hat q hwf
  have HAT := Lib.hid hat
  have HX := Lib.hid hx
  generalize hgq : g q = cn at *
  obtain ⟨g1, g2⟩ := hg
  clear hat hgq
  go_enter Try.func65, Try.ntmps65
  go_wp2_with fail
  go_loopg [5, 23] 1 (fun gg t i wr => (gg = 1 ∧ i = .int .i64 0 ∧ t = .int .i64 0 ∧ w = wr) ∨ (gg = 0 ∧ i = .int .i64 1 ∧ t = .int .i64 cn ∧ Hid (w.grownBy wr (some bm) ∧ MapS wr bm n (fun x => if x = q then 0 else g x))))
  case atStart => exact .inl ⟨rfl, rfl, rfl, rfl⟩
  case round =>
    rcases hrel with ⟨hgg, rfl, rfl, rfl⟩ | ⟨hgg, rfl, rfl, hF⟩
    · go_wp2_with (first
        | (at_lookup; refine wpList_lookup_own_int _ rfl _ _ 66 rfl 3 3 .i64 (Go.Maps.int_keyed Try.underlying3) Try.underlying66 Try.underlying3 (Try.zeroValue3 _) bm n _ rfl hown _ _ rfl hkey ?_; intro c hat5 hwc; obtain rfl : c = cn := (by rw [hat0] at hat5; injection hat5 with q1; injection q1 with _ q2; exact q2.symm); clear hat5 hwc)
        | (at_delete; refine wpList_delete_own _ rfl _ _ 66 3 rfl 3 (Go.Maps.int_keyed Try.underlying3) Try.underlying66 _ bm n D rfl hown _ _ rfl hkey ?_; intro w1 hown1 hturn1))
      have HF : Hid (w.grownBy w1 (some bm) ∧ MapS w1 bm n (fun x => if x = q then 0 else g x)) := Lib.hid ⟨hturn1.grown, MapS.del hD HAT.out hown1⟩
      clear hown1 hturn1 hat0
      go_roundg 0
      case measure => omega
      case rel => exact .inr ⟨rfl, rfl, rfl, HF⟩
    · clear hat0 hx
      go_wp2_with fail
      go_ret
      exact ⟨rfl, hF.out.1, hF.out.2⟩
def arB (w h t : Int) : Bool := bdB 6 w h && (decide (0 ≤ t) && decide (t ≤ 200))
def arV (w h t : Int) : Int := bdV (arB w h t) (arN (bX h.toNat) (t3A (w.toNat * h.toNat)) t)
theorem ar_bd {N : Nat} (h : N ≤ 144) (f : Nat → Int × Int) (q : Int) : 0 ≤ arN f (t3A N) q ∧ arN f (t3A N) q ≤ 10000000 := by
  have h1 := arN_bd f (t3A N) q
  have l1 := t3A_len N
  have l2 := Nat.mul_le_mul h h
  have l3 := Nat.mul_le_mul h l2
  omega
set_option maxHeartbeats 4000000 in
theorem implCountOfArea_any (w h t : Int) (W : World) :
    Calls Try.prog 27 #[.int .i64 w, .int .i64 h, .int .i64 t] W fun e w' => e = .returned (.tuple #[.int .i64 (arV w h t), .bool (arB w h t)]) ∧ Below W.heap.size W w' := by
  unfold arV arB
  by_cases hg : bdB 6 w h = true
  · have K := Lib.hid (fun W => boardUpTo_t 6 w h W hg)
    obtain ⟨h1, h2, h3, h4⟩ := bdB_true hg
    rw [hg, Bool.true_and]
    by_cases ht : 0 ≤ t ∧ t ≤ 200
    · rw [decide_eq_true ht.1, decide_eq_true ht.2, Bool.and_self, bdV_t]
      have nw : w.toNat ≤ 12 := by omega
      have nh : h.toNat ≤ 12 := by omega
      have KT := Lib.hid (fun W => takerOf_any w.toNat h.toNat W nw nh)
      rw [show ((w.toNat : Nat) : Int) = w by omega, show ((h.toNat : Nat) : Int) = h by omega] at KT
      have hgb := ar_bd (bd_mul nw nh) (bX h.toNat) t
      have HGB := Lib.hid hgb
      obtain ⟨t1, t2⟩ := ht
      have g1 : ¬ t < 0 := by omega
      have g2 : ¬ 200 < t := by omega
      generalize arN (bX h.toNat) (t3A (w.toNat * h.toNat)) = g at *
      clear hg nw nh hgb
      go_enter Try.func27, Try.ntmps27
      go_wp2_with fail
      refine (K.out W).mono ?_; rintro e w1 ⟨rfl, hb1⟩
      go_wp2_with fail
      obtain ⟨W2, hW2⟩ : ∃ W2, W2 = (w1.alloc (.cells #[.int .i64 w, .int .i64 h] 34)) := ⟨_, rfl⟩
      rw [← hW2]
      have yW20_0 : W2.cell? ⟨w1.heap.size, 0, none⟩ = some (.int .i64 w) := by rw [hW2]; go_simp
      have yW20_1 : W2.cell? ⟨w1.heap.size, 1, none⟩ = some (.int .i64 h) := by rw [hW2]; go_simp
      have fW20 : ∀ o, W2.frozen? ⟨w1.heap.size, o, none⟩ = false := by intro o; rw [hW2]; (repeat rw [frozen?_alloc_cells]); simp [World.frozen?]
      have zW20 : w1.heap.size < W2.heap.size := by rw [hW2]; simp <;> omega
      have BW2 : Below w1.heap.size w1 W2 := by rw [hW2]; exact (Below.alloc (Below.refl _ _) (by simp <;> omega) _)
      have eW2 : Hid (W2.heap.size = w1.heap.size + 1) := Lib.hid (by rw [hW2]; simp)
      clear hW2
      have B2 := hb1.trans (BW2.mono hb1.size)
      refine (KT.out W2).mono ?_; rintro e w3 ⟨bx, bm, n, rfl, hb3, q1, q2, q3, q4, q5⟩
      have B3 := B2.trans (hb3.mono B2.size)
      have z3 := B2.size
      have HM := Lib.hid q5
      have zx : bx < w3.heap.size := by
        obtain ⟨o, ho, _⟩ := cells_of_cell q3
        exact (Array.getElem?_eq_some_iff.1 ho).1
      clear hb3 hb1 B2 KT K yW20_0 yW20_1 fW20 zW20 eW2 BW2 q5
      have cx := ((bcell (Below.alloc (Below.refl w3.heap.size w3) (Nat.le_refl _) (.cells #[.int .i64 t] 3))).1 _ 0 zx).trans q3
      have ms := HM.out.below (Below.alloc (Below.refl w3.heap.size w3) (Nat.le_refl _) (.cells #[.int .i64 t] 3))
      have KK := Lib.hid (take1_any bx bm n w3.heap.size t g (w3.alloc (.cells #[.int .i64 t] 3)) cx ms (by go_simp) (by omega) HGB.out)
      have B4 := Below.alloc B3 B3.size (.cells #[.int .i64 t] 3)
      clear cx ms
      go_wp2_with fail
      refine KK.out.mono ?_; rintro e w5 ⟨rfl, hgr, _⟩
      have B5 := B4.grown hgr B4.size (fun k e => by cases e; omega)
      clear hgr B4 B3
      go_wp2_with fail
      go_ret2
      exact ⟨rfl, B5⟩
    · have hb : (decide (0 ≤ t) && decide (t ≤ 200)) = false := by simp; omega
      rw [hb, bdV_f]
      clear hg hb
      by_cases g1 : t < 0
      · go_enter Try.func27, Try.ntmps27
        go_wp2_with fail
        refine (K.out W).mono ?_; rintro e w1 ⟨rfl, hb1⟩
        have BA := Below.alloc hb1 hb1.size (.cells #[.int .i64 w, .int .i64 h] 34)
        go_wp2_with fail
        go_ret2
        exact ⟨rfl, BA⟩
      · have g2 : 200 < t := by omega
        go_enter Try.func27, Try.ntmps27
        go_wp2_with fail
        refine (K.out W).mono ?_; rintro e w1 ⟨rfl, hb1⟩
        have BA := Below.alloc hb1 hb1.size (.cells #[.int .i64 w, .int .i64 h] 34)
        go_wp2_with fail
        go_ret2
        exact ⟨rfl, BA⟩
  · have hf : bdB 6 w h = false := by simpa using hg
    have K := Lib.hid (boardUpTo_f 6 w h W hf)
    rw [hf, Bool.false_and, bdV_f]
    clear hg hf
    go_enter Try.func27, Try.ntmps27
    go_wp2_with fail
    refine K.out.mono ?_; rintro e w1 ⟨rfl, hb1⟩
    have BA := Below.alloc hb1 hb1.size (.cells #[.int .i64 0, .int .i64 0] 34)
    go_wp2_with fail
    go_ret2
    exact ⟨rfl, BA⟩
end Go.Proofs.Ytmhdbodmpohdnaa

