/- joined: Rt Tb00 Tb0 Tb On Ra Oo Oad Oae Oaf Oag -/
import Derived.Test.YtmhdbodmpohdnaaZCountSlopes1
import Derived.StillTail
import Derived.Maps.AppendAt
import Derived.Maps.OwnIn
import Derived.Maps.OwnOps
import Derived.Maps.OwnSet
import Derived.DeepKeys4
/- A statement that leaves the order of its first operations open, all of which come to one value in every world that meets S and lead to such a world again; the last ones stand in one order: one walk, in the order of the text. -/
namespace Go.Proofs.Ytmhdbodmpohdnaa
open Go.ChangeShapes Go.WideShapes Go.ChangeAt Go.RowKit Go.Joins
set_option linter.unusedVariables false
set_option linter.unusedSimpArgs false
set_option maxRecDepth 4000
section
variable {P : Program} {ops : Array Oper} {md : Region.Mode} {S : World → Prop}
def wpAnyS (P : Program) (md : Region.Mode) (ops : Array Oper) (S : World → Prop) (n : Nat) (L : Array Bool → Act → Prop) : Nat → Array Bool → Act → Prop
  | 0, listed, a => L listed a
  | f + 1, listed, a => Region.ready md ops listed ≠ [] ∧ ∀ i ∈ Region.ready md ops listed, i < n ∧ ∃ oi v, ops[i]? = some oi ∧ Steady P ops S oi v a ∧ wpAnyS P md ops S n L f (listed.setIfInBounds i true) (a.put oi.dst v)
theorem wpAny_of_S {n g : Nat} {L : Array Bool → Act → Prop} {Q : Exit → Act → World → Prop} (hL : ∀ listed a, L listed a → ∀ w, S w → wpAny P md ops Q g listed a w) :
    ∀ (f : Nat) (listed : Array Bool) (a : Act), wpAnyS P md ops S n L f listed a → ∀ w, S w → wpAny P md ops Q (f + g) listed a w
  | 0, listed, a, h, w, hS => by rw [Nat.zero_add]; exact hL _ _ h w hS
  | f + 1, listed, a, h, w, hS => by
    rw [show f + 1 + g = (f + g) + 1 by omega]
    exact ⟨fun h0 => absurd h0 h.1, fun i hi => by
      obtain ⟨_, oi, v, ho, hy, hn⟩ := h.2 i hi
      exact steady_op ho hy hS fun w' hS' => wpAny_of_S hL f _ _ hn w' hS'⟩
theorem wpAnyS_first {n i : Nat} {oi : Oper} {v : Value} {L : Array Bool → Act → Prop} (hi : ops[i]? = some oi) (hsel : ∀ (j : Nat) (o : Oper) cs b, ops[j]? = some o → o.op ≠ .select cs b)
    (hs : Region.sinkB md ops n = true) (hc : Region.chainB md ops n = true) (hn : n < ops.size) (hin : i < n)
    (hdone : ∀ listed a, L listed a → ∀ j ∈ Region.ready md ops listed, n ≤ j) :
    ∀ (f : Nat) (listed : Array Bool) (a : Act), HeadInv md ops n listed →
      (∀ j oj, ops[j]? = some oj → j ≠ i → listed.getD j true = false → (∀ e ∈ oj.after, Region.binds md e = true → e.on ≠ i) → oi.apart ops oj = true) →
      i ∈ Region.ready md ops listed → Steady P ops S oi v a →
      wpAnyS P md ops S n L f (listed.setIfInBounds i true) (a.put oi.dst v) → wpAnyS P md ops S n L (f + 1) listed a := by
  intro f
  induction f with
  | zero =>
    intro listed a inv _ hr hy H
    have hun := (mem_ready.1 hr).1
    refine ⟨fun h => (by rw [h] at hr; cases hr), fun j hj => ?_⟩
    have hjn : j < n := by
      rcases Nat.lt_or_ge j n with h | h
      · exact h
      · exact absurd hj (tail_waits hs hc hn inv _ i rfl hin hun j h)
    refine ⟨hjn, ?_⟩
    by_cases hji : j = i
    · subst hji; exact ⟨oi, v, hi, hy, H⟩
    · have := hdone _ _ H j (ready_mono hj hji)
      omega
  | succ f ih =>
    intro listed a inv hfree hr hy H
    have hun := (mem_ready.1 hr).1
    refine ⟨fun h => (by rw [h] at hr; cases hr), fun j hj => ?_⟩
    have hjn : j < n := by
      rcases Nat.lt_or_ge j n with h | h
      · exact h
      · exact absurd hj (tail_waits hs hc hn inv _ i rfl hin hun j h)
    refine ⟨hjn, ?_⟩
    by_cases hji : j = i
    · subst hji; exact ⟨oi, v, hi, hy, H⟩
    · obtain ⟨_, oj, u, hoj, hsj, Hj⟩ := H.2 j (ready_mono hj hji)
      obtain ⟨hjun, oj', hoj', hall⟩ := mem_ready.1 hj
      obtain rfl : oj' = oj := Option.some.inj (hoj'.symm.trans hoj)
      have hnot : ∀ e ∈ oj'.after, Region.binds md e = true → e.on ≠ i := fun e he hb heq => by
        have h1 := hall e he hb
        rw [heq, getD_both hun] at h1
        cases h1
      obtain ⟨h1, h2, h3⟩ := Oper.apart_spec (hfree j oj' hoj hji hjun hnot)
      have k1 : Steady P ops S oj' u a := steady_same hsj (execOp_put oj' (fun cs b => hsel j oj' cs b hoj) a oi.dst v h1).symm (wanted_put oj' a oi.dst v h1).symm
      have k2 : Steady P ops S oi v (a.put oj'.dst u) := steady_same hy (execOp_put oi (fun cs b => hsel i oi cs b hi) a oj'.dst u h3) (wanted_put oi a oj'.dst u h3)
      refine ⟨oj', u, hoj, k1, ih _ _ (inv.set hj hjn) (fun k ok hk hki hun hno => ?_) (ready_mono hr (Ne.symm hji)) k2 ?_⟩
      · refine hfree k ok hk hki ?_ hno
        by_cases hjk : j = k
        · subst hjk; exact hjun
        · rw [getD_set_ne true hjk] at hun; exact hun
      · rw [Array.setIfInBounds_comm _ _ hji, ← Act.put_comm a v u h2]
        exact Hj
/-- the head, in the text's order -/
def wpH (P : Program) (ops : Array Oper) (S : World → Prop) (T : Act → Prop) : List Oper → Act → Prop
  | [], a => T a
  | o :: rest, a => ∃ v, Steady P ops S o v a ∧ wpH P ops S T rest (a.put o.dst v)
theorem wpAnyS_lex {n g : Nat} {T : Act → Prop} (hsel : Region.noSelect ops = true) (hs : Region.sinkB md ops n = true) (hc : Region.chainB md ops n = true) (hn : n < ops.size) :
    ∀ (l : List Oper) (k : Nat) (listed : Array Bool) (a : Act), (∀ j, j < l.length → l[j]? = ops[k + j]?) → k + l.length = n → HeadInv md ops n listed →
    Region.lexHead md ops g l.length k listed = true → wpH P ops S T l a →
    wpAnyS P md ops S n (fun listed' a' => Region.seqB md ops g n listed' = true ∧ T a') l.length listed a
  | [], k, listed, a, _, hk, _, hB, h => by
    have : k = n := by simpa using hk
    subst this
    exact ⟨by simpa [Region.lexHead] using hB, h⟩
  | o :: l, k, listed, a, hl, hk, inv, hB, h => by
    have h0 : ops[k]? = some o := by simpa using (hl 0 (by simp)).symm
    simp only [List.length_cons, Region.lexHead, Bool.and_eq_true] at hB
    obtain ⟨⟨hr, hf⟩, hB'⟩ := hB
    have hkn : k < n := by simp only [List.length_cons] at hk; omega
    have hr' : k ∈ Region.ready md ops listed := by simpa using hr
    obtain ⟨v, hy, hK⟩ := h
    exact wpAnyS_first h0 (Region.noSelect_spec hsel) hs hc hn hkn (fun listed' a' hL => seqB_ready hL.1) l.length listed a inv (Region.free_spec h0 hf) hr' hy
      (wpAnyS_lex hsel hs hc hn l (k + 1) _ _ (fun j hj => by have := hl (j + 1) (by simp; omega); simpa [Nat.add_assoc, Nat.add_comm 1 j] using this) (by simp only [List.length_cons] at hk; omega) (inv.set hr' hkn) hB' hK)
theorem wp_region_BT {id : Nat} {Q : Exit → Act → World → Prop} {a : Act} {w : World} {l : List Oper} (n : Nat) (S : World → Prop) (hm : P.follows .mixedOrders = true) (hB : Region.lexTailB .any l.toArray n = true) (hS : S w.drew)
    (h : wpH P l.toArray S (fun a' => ∀ W, S W → wpList P l.toArray Q (l.drop n) a' W) (l.take n) a) : (Code.region id l.toArray true).wp P Q a w := by
  simp only [Region.lexTailB, Bool.and_eq_true, decide_eq_true_eq] at hB
  obtain ⟨⟨⟨⟨hsel, hn⟩, hs⟩, hc⟩, hlex⟩ := hB
  have hn' : n < l.length := by simpa using hn
  have htl : (l.take n).length = n := by simp; omega
  have hdl : (l.drop n).length = l.toArray.size - n := by simp
  have inv0 : HeadInv .any l.toArray n (Array.replicate l.toArray.size false) :=
    ⟨by simp, fun j oj _ hl => (by rw [getD_replicate_false] at hl; cases hl), fun t _ ht => getD_in (by simpa using ht) (getD_replicate_false _ _)⟩
  have H := wpAnyS_lex (md := .any) (g := l.toArray.size - n) hsel hs hc hn (l.take n) 0 _ a (fun j hj => by
    have hj' : j < n := by rw [htl] at hj; exact hj
    simp [hj']) (by simpa using htl) inv0 (by rw [htl]; exact hlex) h
  refine wp_region_any hm ?_
  have := wpAny_of_S (Q := Q) (g := l.toArray.size - n) (fun listed a' hL W hW => by
    have := wpAny_of_seq (md := .any) (Q' := Q) (l.drop n) n listed a' W (fun j => by simp [List.getElem?_drop]) (by rw [hdl]; exact hL.1) (hL.2 W hW)
    rwa [hdl] at this) _ _ _ H w.drew hS
  rw [htl, show n + (l.toArray.size - n) = l.toArray.size by omega] at this
  exact this
theorem wpH_text {T : Act → Prop} {o : Oper} {rest : List Oper} {a : Act} {v : Value} (hw : Region.wanted o (yielded ops a.tmps) = true) (hy : ∀ w, S w → Comes P S v ((execOp a.eval o).run P w))
    (h : wpH P ops S T rest (a.put o.dst v)) : wpH P ops S T (o :: rest) a := ⟨v, Or.inl ⟨hw, hy⟩, h⟩
theorem wpH_skip {T : Act → Prop} {o : Oper} {rest : List Oper} {a : Act} (hw : Region.wanted o (yielded ops a.tmps) = false)
    (h : wpH P ops S T rest (a.put o.dst undef)) : wpH P ops S T (o :: rest) a := ⟨undef, Or.inr ⟨hw, rfl⟩, h⟩
theorem wpH_nil {T : Act → Prop} {a : Act} (h : T a) : wpH P ops S T [] a := h
end
end Go.Proofs.Ytmhdbodmpohdnaa
/- contracts: differences of points, squares -/
namespace Go.Proofs.Ytmhdbodmpohdnaa
open Go.ChangeShapes Go.WideShapes Go.ChangeAt Go.RowKit Go.Joins
set_option linter.unusedVariables false
set_option linter.unusedSimpArgs false
set_option maxRecDepth 4000
/-- numbers that leave room -/
def Mid (x : Int) : Prop := -1000000000000 ≤ x ∧ x ≤ 1000000000000
theorem minus_any (a1 a2 b1 b2 : Int) (w : World) (h1 : Mid a1) (h2 : Mid a2) (h3 : Mid b1) (h4 : Mid b2) :
    Calls Try.prog 56 #[.agg #[.int .i64 a1, .int .i64 a2], .agg #[.int .i64 b1, .int .i64 b2]] w fun e w' => e = .returned (.agg #[.int .i64 (a1 - b1), .int .i64 (a2 - b2)]) ∧ Below w.heap.size w w' := by
  obtain ⟨x1, x2⟩ := h1
  obtain ⟨x3, x4⟩ := h2
  obtain ⟨x5, x6⟩ := h3
  obtain ⟨x7, x8⟩ := h4
  go_enter Try.func56, Try.ntmps56
  go_wp2
  refine bodyPost_ret (v := .agg #[.int .i64 (a1 - b1), .int .i64 (a2 - b2)]) (by simp [results, Try.results56, go_sem]) rfl ⟨rfl, ?_⟩
  repeat (first | with_reducible assumption | with_reducible exact Below.refl _ _ | with_reducible apply Below.drew | ((with_reducible refine Below.setCell ?_ ?_ _); rotate_left; (first | exact Nat.le_refl _ | omega | (simp <;> omega))) | ((with_reducible refine Below.alloc ?_ ?_ _); rotate_left; (first | omega | (simp <;> omega))))
theorem sq_bd {x : Int} (h : -100000000 ≤ x ∧ x ≤ 100000000) : 0 ≤ x * x ∧ x * x ≤ 10000000000000000 := by
  have h1 := mul_bd (x := x) (y := x) (m := 100000000) (n := 100000000) (by omega) (by omega) (by omega) (by omega)
  refine ⟨?_, by omega⟩
  rcases Int.le_total 0 x with h | h
  · exact Int.mul_nonneg h h
  · have := Int.mul_nonneg (show 0 ≤ -x by omega) (show 0 ≤ -x by omega)
    rwa [Int.neg_mul_neg] at this
theorem square_any (a1 a2 : Int) (w : World) (h1 : -100000000 ≤ a1 ∧ a1 ≤ 100000000) (h2 : -100000000 ≤ a2 ∧ a2 ≤ 100000000) :
    Calls Try.prog 74 #[.agg #[.int .i64 a1, .int .i64 a2]] w fun e w' => e = .returned (.int .i64 (a1 * a1 + a2 * a2)) ∧ Below w.heap.size w w' := by
  obtain ⟨x1, x2⟩ := sq_bd h1
  obtain ⟨x3, x4⟩ := sq_bd h2
  go_enter Try.func74, Try.ntmps74
  go_wp2
  go_ret
  exact ⟨rfl, (by repeat (first | exact Below.refl _ _ | assumption | apply Below.drew | refine Below.alloc ?_ (by simp <;> omega) _))⟩
end Go.Proofs.Ytmhdbodmpohdnaa
/- contracts: sums and differences of points; a triangle's area and sum -/
namespace Go.Proofs.Ytmhdbodmpohdnaa
open Go.ChangeShapes Go.WideShapes Go.ChangeAt Go.RowKit Go.Joins
set_option linter.unusedVariables false
set_option linter.unusedSimpArgs false
set_option maxRecDepth 4000
/-- a triangle as a value -/
def thr (a1 a2 b1 b2 c1 c2 : Int) : Value := .agg #[.int .i64 a1, .int .i64 a2, .int .i64 b1, .int .i64 b2, .int .i64 c1, .int .i64 c2]
theorem twice_any (a1 a2 b1 b2 c1 c2 : Int) (w : World) (ha : Sz a1 a2) (hb : Sz b1 b2) (hc : Sz c1 c2) :
    Calls Try.prog 72 #[.agg #[.int .i64 a1, .int .i64 a2, .int .i64 b1, .int .i64 b2, .int .i64 c1, .int .i64 c2]] w fun e w' => e = .returned (.int .i64 (twI a1 a2 b1 b2 c1 c2)) ∧ Below w.heap.size w w' := by
  have K := Lib.hid (fun W => twiceThree_any a1 a2 b1 b2 c1 c2 W ha hb hc)
  clear ha hb hc
  go_enter Try.func72, Try.ntmps72
  go_wp2_with fail
  refine (K.out _).mono ?_; rintro e w1 ⟨rfl, hb1⟩
  obtain ⟨hc1, hf1⟩ := bcell hb1
  have z1_0 : w.heap.size < w1.heap.size := by (have := hb1.size; simp at this; omega)
  have B1 : Below w.heap.size w w1 := (Below.alloc (Below.refl _ _) (by simp <;> omega) _).trans (hb1.mono (by simp <;> omega))
  go_wp2_with fail
  go_ret
  exact ⟨rfl, B1⟩
end Go.Proofs.Ytmhdbodmpohdnaa
/- contracts: points added, and taken several times -/
namespace Go.Proofs.Ytmhdbodmpohdnaa
open Go.ChangeShapes Go.WideShapes Go.ChangeAt Go.RowKit Go.Joins
set_option linter.unusedVariables false
set_option linter.unusedSimpArgs false
set_option maxRecDepth 4000
theorem plus_any (a1 a2 b1 b2 : Int) (w : World) (h1 : Mid a1) (h2 : Mid a2) (h3 : Mid b1) (h4 : Mid b2) :
    Calls Try.prog 68 #[.agg #[.int .i64 a1, .int .i64 a2], .agg #[.int .i64 b1, .int .i64 b2]] w fun e w' => e = .returned (.agg #[.int .i64 (a1 + b1), .int .i64 (a2 + b2)]) ∧ Below w.heap.size w w' := by
  obtain ⟨x1, x2⟩ := h1
  obtain ⟨x3, x4⟩ := h2
  obtain ⟨x5, x6⟩ := h3
  obtain ⟨x7, x8⟩ := h4
  go_enter Try.func68, Try.ntmps68
  go_wp2
  refine bodyPost_ret (v := .agg #[.int .i64 (a1 + b1), .int .i64 (a2 + b2)]) (by simp [results, Try.results68, go_sem]) rfl ⟨rfl, ?_⟩
  repeat (first | with_reducible assumption | with_reducible exact Below.refl _ _ | with_reducible apply Below.drew | ((with_reducible refine Below.setCell ?_ ?_ _); rotate_left; (first | exact Nat.le_refl _ | omega | (simp <;> omega))) | ((with_reducible refine Below.alloc ?_ ?_ _); rotate_left; (first | omega | (simp <;> omega))))
theorem times_any (a1 a2 n : Int) (w : World) (h1 : -1000000000000000 ≤ a1 * n ∧ a1 * n ≤ 1000000000000000) (h2 : -1000000000000000 ≤ a2 * n ∧ a2 * n ≤ 1000000000000000) :
    Calls Try.prog 57 #[.agg #[.int .i64 a1, .int .i64 a2], .int .i64 n] w fun e w' => e = .returned (.agg #[.int .i64 (a1 * n), .int .i64 (a2 * n)]) ∧ Below w.heap.size w w' := by
  obtain ⟨x1, x2⟩ := h1
  obtain ⟨x3, x4⟩ := h2
  go_enter Try.func57, Try.ntmps57
  go_wp2
  refine bodyPost_ret (v := .agg #[.int .i64 (a1 * n), .int .i64 (a2 * n)]) (by simp [results, Try.results57, go_sem]) rfl ⟨rfl, ?_⟩
  repeat (first | with_reducible assumption | with_reducible exact Below.refl _ _ | with_reducible apply Below.drew | ((with_reducible refine Below.setCell ?_ ?_ _); rotate_left; (first | exact Nat.le_refl _ | omega | (simp <;> omega))) | ((with_reducible refine Below.alloc ?_ ?_ _); rotate_left; (first | omega | (simp <;> omega))))
end Go.Proofs.Ytmhdbodmpohdnaa
/- contract: how many pegs of a board follow each other -/
namespace Go.Proofs.Ytmhdbodmpohdnaa
open Go.ChangeShapes Go.WideShapes Go.ChangeAt Go.RowKit Go.Joins
set_option linter.unusedVariables false
set_option linter.unusedSimpArgs false
set_option maxRecDepth 4000
/-- a point of the call's own, in block b -/
structure PtC (w W : World) (b : Nat) (x y : Int) : Prop where
  lo : w.heap.size ≤ b
  hi : b < W.heap.size
  c0 : W.cell? ⟨b, 0, none⟩ = some (.int .i64 x)
  c1 : W.cell? ⟨b, 1, none⟩ = some (.int .i64 y)
  fz : ∀ o, W.frozen? ⟨b, o, none⟩ = false
theorem PtC.up {w W W' : World} {b : Nat} {x y : Int} (h : PtC w W b x y) (hb : Below W.heap.size W W') : PtC w W' b x y :=
  ⟨h.lo, Nat.lt_of_lt_of_le h.hi hb.size, ((bcell hb).1 _ _ h.hi).trans h.c0, ((bcell hb).1 _ _ h.hi).trans h.c1, fun o => ((bcell hb).2 _ _ h.hi).trans (h.fz o)⟩
theorem PtC.new {w W : World} (hs : w.heap.size ≤ W.heap.size) (x y : Int) (t : TypeId) : PtC w (W.alloc (.cells #[.int .i64 x, .int .i64 y] t)) W.heap.size x y :=
  ⟨hs, by simp, by go_simp, by go_simp, fun o => by (repeat rw [frozen?_alloc_cells]); simp [World.frozen?]⟩
theorem PtC.store {w W : World} {b : Nat} {x y : Int} (h : PtC w W b x y) (x' y' : Int) : PtC w ((W.setCell ⟨b, 0, none⟩ (.int .i64 x')).setCell ⟨b, 1, none⟩ (.int .i64 y')) b x' y' := by
  have e0 := World.cell?_setCell_same W ⟨b, 0, none⟩ (.int .i64 x') h.c0
  have e1 : (W.setCell ⟨b, 0, none⟩ (.int .i64 x')).cell? ⟨b, 1, none⟩ = some (.int .i64 y) := (World.cell?_setCell_other W ⟨b, 0, none⟩ ⟨b, 1, none⟩ _ (by simp)).trans h.c1
  have e2 := World.cell?_setCell_same (W.setCell ⟨b, 0, none⟩ (.int .i64 x')) ⟨b, 1, none⟩ (.int .i64 y') e1
  have e3 : ((W.setCell ⟨b, 0, none⟩ (.int .i64 x')).setCell ⟨b, 1, none⟩ (.int .i64 y')).cell? ⟨b, 0, none⟩ = some (.int .i64 x') := (World.cell?_setCell_other _ ⟨b, 1, none⟩ ⟨b, 0, none⟩ _ (by simp)).trans e0
  exact ⟨h.lo, by simp only [World.size_setCell]; exact h.hi, e3, e2, fun o => by rw [World.frozen?_setCell, World.frozen?_setCell]; exact h.fz o⟩
set_option maxHeartbeats 4000000 in
theorem countAlong_any (nw nh : Nat) (p1 p2 s1 s2 : Int) (w : World) (h1 : nw ≤ 12) (h2 : nh ≤ 12) (hp1 : 0 ≤ p1 ∧ p1 ≤ 12) (hp2 : 0 ≤ p2 ∧ p2 ≤ 12) (hs1 : -12 ≤ s1 ∧ s1 ≤ 12) (hs2 : -12 ≤ s2 ∧ s2 ≤ 12) (hpos : 1 ≤ s1 ∨ (s1 = 0 ∧ 1 ≤ s2)) :
    Calls Try.prog 70 #[.agg #[.int .i64 nw, .int .i64 nh], .agg #[.int .i64 p1, .int .i64 p2], .agg #[.int .i64 s1, .int .i64 s2]] w fun e w' => e = .returned (.int .i64 (alg nw nh s1 s2 13 p1 p2)) ∧ Below w.heap.size w w' := by
  have KH : Hid (∀ x y W, Calls Try.prog 46 #[.agg #[.int .i64 nw, .int .i64 nh], .agg #[.int .i64 x, .int .i64 y]] W fun e w' => e = .returned (.bool (onQ nw nh x y)) ∧ Below W.heap.size W w') :=
    Lib.hid (fun x y W => by rw [onQ_eq]; exact has_any nw nh x y W (by omega) (by omega))
  have KP : Hid (∀ x y W, -24 ≤ x ∧ x ≤ 24 → -24 ≤ y ∧ y ≤ 24 → Calls Try.prog 68 #[.agg #[.int .i64 x, .int .i64 y], .agg #[.int .i64 s1, .int .i64 s2]] W fun e w' => e = .returned (.agg #[.int .i64 (x + s1), .int .i64 (y + s2)]) ∧ Below W.heap.size W w') :=
    Lib.hid (fun x y W hx hy => plus_any x y s1 s2 W (by unfold Mid; omega) (by unfold Mid; omega) (by unfold Mid; omega) (by unfold Mid; omega))
  have HP0 : Hid (potP nw nh s1 s2 13 p1 p2) := Lib.hid (by unfold potP; omega)
  have HON : Hid (∀ f x y, potP nw nh s1 s2 f x y → onQ nw nh x y = true → ∃ g, f = g + 1 ∧ potP nw nh s1 s2 g (x + s1) (y + s2) ∧ 0 ≤ x ∧ x < nw ∧ 0 ≤ y ∧ y < nh) := Lib.hid (fun f x y h1 h2 => pot_on h1 h2)
  have HA1 : Hid (∀ g x y, onQ nw nh x y = true → alg nw nh s1 s2 (g + 1) x y = 1 + alg nw nh s1 s2 g (x + s1) (y + s2)) := Lib.hid (fun g x y h => alg_on h)
  have HA0 : Hid (∀ f x y, onQ nw nh x y = false → alg nw nh s1 s2 f x y = 0) := Lib.hid (fun f x y h => alg_off h)
  have HW : Hid (nw ≤ 12 ∧ nh ≤ 12) := Lib.hid ⟨h1, h2⟩
  have HS : Hid ((-12 ≤ s1 ∧ s1 ≤ 12) ∧ (-12 ≤ s2 ∧ s2 ≤ 12)) := Lib.hid ⟨hs1, hs2⟩
  have HT : Hid (∃ T, T = alg nw nh s1 s2 13 p1 p2) := Lib.hid ⟨_, rfl⟩
  obtain ⟨T, hT⟩ := HT.out
  rw [← hT]
  have HTE := Lib.hid hT
  clear hpos HT hT hs1 hs2 h1 h2
  generalize alg nw nh s1 s2 = G at *
  generalize potP nw nh s1 s2 = PP at *
  generalize onQ nw nh = O at *
  go_enter Try.func70, Try.ntmps70
  go_wp2_with fail
  obtain ⟨W0, hW0⟩ : ∃ W0, W0 = ((w.alloc (.cells #[.int .i64 (nw : Int), .int .i64 (nh : Int)] 34)).alloc (.cells #[.int .i64 p1, .int .i64 p2] 28)).alloc (.cells #[.int .i64 s1, .int .i64 s2] 28) := ⟨_, rfl⟩
  have QP := Lib.hid (PtC.new (w := W0) (Nat.le_refl _) p1 p2 28)
  have BP := Below.alloc (Below.refl W0.heap.size W0) (Nat.le_refl _) (.cells #[.int .i64 p1, .int .i64 p2] 28)
  have eW0 : Hid (W0.heap.size = w.heap.size + 3) := Lib.hid (by rw [hW0]; simp)
  have BW0 : Below w.heap.size w W0 := by rw [hW0]; exact Below.alloc (Below.alloc (Below.alloc (Below.refl _ _) (by simp) _) (by simp) _) (by simp <;> omega) _
  have b0 : W0.cell? ⟨w.heap.size, 0, none⟩ = some (.int .i64 (nw : Int)) := by rw [hW0]; go_simp
  have b1 : W0.cell? ⟨w.heap.size, 1, none⟩ = some (.int .i64 (nh : Int)) := by rw [hW0]; go_simp
  have d0 : W0.cell? ⟨w.heap.size + 2, 0, none⟩ = some (.int .i64 s1) := by rw [hW0]; go_simp
  have d1 : W0.cell? ⟨w.heap.size + 2, 1, none⟩ = some (.int .i64 s2) := by rw [hW0]; go_simp
  have zb : w.heap.size < W0.heap.size := by have := eW0.out; omega
  have zd : w.heap.size + 2 < W0.heap.size := by have := eW0.out; omega
  have QP1 : Hid (PtC W0 (W0.alloc (.cells #[.int .i64 p1, .int .i64 p2] 28)) (w.heap.size + 1 + 1 + 1) p1 p2) := Lib.hid (by rw [show w.heap.size + 1 + 1 + 1 = W0.heap.size by have := eW0.out; omega]; exact QP.out)
  clear QP
  rw [← hW0]
  clear hW0
  go_loopg [7, 8] 14 (fun g s q wr => ∃ (f j b : Nat) (x y : Int), g = f + 1 ∧ j + f = 13 ∧ s = .int .i64 (j : Int) ∧ q = .pointer (some ⟨b, 0, none⟩) ∧ Below W0.heap.size W0 wr ∧ Hid (PtC W0 wr b x y) ∧ Hid (PP f x y) ∧ Hid (T = j + G f x y) ∧ (-12 ≤ x ∧ x ≤ 24) ∧ (-12 ≤ y ∧ y ≤ 24))
  case atStart => exact ⟨13, 0, _, p1, p2, rfl, rfl, rfl, rfl, BP, QP1, HP0, Lib.hid (by rw [HTE.out, Nat.zero_add]), by omega, by omega⟩
  case round =>
    clear QP1 BP
    obtain ⟨f, j, b, x, y, hg, hj, rfl, rfl, hB, hQ, hP, hE, hx, hy⟩ := hrel
    rename World => wo
    have HGK := Lib.hid hg
    clear hg
    have q0 := hQ.out.c0
    have q1 := hQ.out.c1
    have qz := hQ.out.hi
    have r0 := ((bcell hB).1 _ 0 zb).trans b0
    have r1 := ((bcell hB).1 _ 1 zb).trans b1
    have zo := Nat.lt_of_lt_of_le zb hB.size
    have KHx := Lib.hid (fun W => KH.out x y W)
    by_cases ho : O x y = true
    · obtain ⟨g, hf, hP2, k1, k2, k3, k4⟩ := HON.out f x y hP.out ho
      have hW := HW.out
      have hS := HS.out
      have HE2 := Lib.hid (HA1.out g x y ho)
      rw [ho] at KHx
      have HP2 := Lib.hid hP2
      have KPx := Lib.hid (fun W => KP.out x y W (by omega) (by omega))
      have HFG := Lib.hid hf
      clear hP hP2 hf ho
      go_wp2_with fail
      refine (KHx.out wo).mono ?_; rintro e w1 ⟨rfl, hb1⟩
      have B1 := hB.trans (hb1.mono hB.size)
      have Q1 := hQ.out.up hb1
      clear hQ q0 q1 qz r0 r1 hb1 KHx
      have q0 := Q1.c0
      have q1 := Q1.c1
      have qz := Q1.hi
      have d0' := ((bcell B1).1 _ 0 zd).trans d0
      have d1' := ((bcell B1).1 _ 1 zd).trans d1
      have zd' := Nat.lt_of_lt_of_le zd B1.size
      have zo1 := B1.size
      have QN := PtC.new (w := W0) (W := w1) zo1 x y 28
      have BN := Below.alloc B1 zo1 (.cells #[.int .i64 x, .int .i64 y] 28)
      have HQN := Lib.hid QN
      have HBN := Lib.hid BN
      clear QN BN Q1
      go_wp2_with fail
      obtain ⟨w2, hw2⟩ : ∃ w2, w2 = w1.alloc (.cells #[.int .i64 x, .int .i64 y] 28) := ⟨_, rfl⟩
      rw [← hw2] at HQN HBN ⊢
      clear hw2
      refine (KPx.out w2).mono ?_; rintro e w3 ⟨rfl, hb3⟩
      have Q3 := HQN.out.up hb3
      have B3 := HBN.out.trans (hb3.mono HBN.out.size)
      have e0 := Q3.c0
      have e1 := Q3.c1
      have ez := Q3.hi
      have ef := Q3.fz
      have HQ4 := Lib.hid (Q3.store (x + s1) (y + s2))
      have HB4 := Lib.hid ((B3.setCell (p := ⟨w1.heap.size, 0, none⟩) Q3.lo (.int .i64 (x + s1))).setCell (p := ⟨w1.heap.size, 1, none⟩) Q3.lo (.int .i64 (y + s2)))
      clear hb3 HQN HBN B1 Q3 B3 q0 q1 d0' d1' KPx
      go_wp2_with fail
      go_roundg (g + 1)
      case measure => have := HGK.out; have := HFG.out; omega
      case rel => exact ⟨g, j + 1, _, x + s1, y + s2, rfl, by have := HFG.out; omega, by go_num, rfl, HB4.out, HQ4, HP2, Lib.hid (by rw [hE.out, HFG.out, HE2.out]; omega), by omega, by omega⟩
    · have hof : O x y = false := by simpa using ho
      rw [hof] at KHx
      have HE2 := Lib.hid (HA0.out f x y hof)
      clear ho hof
      go_wp2_with fail
      refine (KHx.out wo).mono ?_; rintro e w1 ⟨rfl, hb1⟩
      have B1 := hB.trans (hb1.mono hB.size)
      clear hQ q0 q1 qz r0 r1 hb1 KHx
      go_wp2_with fail
      go_ret
      exact ⟨ret_int (by have := hE.out; have := HE2.out; omega), BW0.trans (B1.mono BW0.size)⟩
end Go.Proofs.Ytmhdbodmpohdnaa
/- 'x = append(x, ..)' whose order is open: the first operation, a move, may come ahead of any other one up to the append. -/
namespace Go.Proofs.Ytmhdbodmpohdnaa
open Go.ChangeShapes Go.WideShapes Go.ChangeAt Go.RowKit Go.Joins
set_option linter.unusedVariables false
set_option linter.unusedSimpArgs false
set_option maxRecDepth 4000
section
variable {P : Program} {ops : Array Oper} {md : Region.Mode} {S : World → Prop}
def sink1B (md : Region.Mode) (ops : Array Oper) (n : Nat) : Bool :=
  (List.range n).all fun i => decide (i = 0) || (List.range (n + 1)).any fun j => decide (i < j) && Region.waitsFor md ops j i
theorem tail_waits1 {n : Nat} {listed : Array Bool} (hs : sink1B md ops n = true) (hc : Region.chainB md ops n = true) (hn : n < ops.size) (inv : HeadInv md ops n listed) :
    ∀ (d i : Nat), n - i = d → i < n → i ≠ 0 → listed.getD i true = false → ∀ t, n ≤ t → t ∉ Region.ready md ops listed := by
  intro d
  induction d using Nat.strongRecOn with
  | _ d ih =>
    intro i hd hi hi0 hun t ht hr
    obtain ⟨_, ot, hot, hall⟩ := mem_ready.1 hr
    have htlt : t < ops.size := (Array.getElem?_eq_some_iff.1 hot).1
    by_cases htn : t = n
    · subst htn
      have h1 := List.all_eq_true.1 hs i (List.mem_range.2 hi)
      simp only [Bool.or_eq_true, decide_eq_true_eq] at h1
      rcases h1 with h1 | h1
      · exact hi0 h1
      obtain ⟨j, hj, hj2⟩ := List.any_eq_true.1 h1
      simp only [Bool.and_eq_true, decide_eq_true_eq] at hj2
      obtain ⟨oj, hoj, e, he, hb, hon⟩ := Region.waitsFor_spec hj2.2
      have hjle : j ≤ t := by have := List.mem_range.1 hj; omega
      by_cases hjt : j = t
      · subst hjt
        have : oj = ot := Option.some.inj (hoj.symm.trans hot)
        subst this
        have h2 := hall e he hb
        rw [hon, getD_both hun] at h2
        cases h2
      · cases hl : listed.getD j false with
        | true =>
          have h2 := inv.closed j oj hoj hl e he hb
          rw [hon, getD_both hun] at h2
          cases h2
        | false =>
          have hjs : j < listed.size := by rw [inv.size]; omega
          exact ih (t - j) (by omega) j rfl (by omega) (by omega) (getD_in hjs hl) t (Nat.le_refl _) hr
    · have h1 := List.all_eq_true.1 hc t (List.mem_range.2 htlt)
      simp only [Bool.or_eq_true, decide_eq_true_eq] at h1
      rcases h1 with h1 | h1
      · omega
      · obtain ⟨o', ho', e, he, hb, hon⟩ := Region.waitsFor_spec h1
        have : o' = ot := Option.some.inj (ho'.symm.trans hot)
        subst this
        have h2 := hall e he hb
        rw [hon, getD_both (inv.tail (t - 1) (by omega) (by omega))] at h2
        cases h2
theorem wpAnyS_first1 {n i : Nat} {oi : Oper} {v : Value} {L : Array Bool → Act → Prop} (hi : ops[i]? = some oi) (hsel : ∀ (j : Nat) (o : Oper) cs b, ops[j]? = some o → o.op ≠ .select cs b)
    (hs : sink1B md ops n = true) (hc : Region.chainB md ops n = true) (hn : n < ops.size) (hin : i < n) (hi0 : i ≠ 0)
    (hdone : ∀ listed a, L listed a → ∀ j ∈ Region.ready md ops listed, n ≤ j) :
    ∀ (f : Nat) (listed : Array Bool) (a : Act), HeadInv md ops n listed →
      (∀ j oj, ops[j]? = some oj → j ≠ i → listed.getD j true = false → (∀ e ∈ oj.after, Region.binds md e = true → e.on ≠ i) → oi.apart ops oj = true) →
      i ∈ Region.ready md ops listed → Steady P ops S oi v a →
      wpAnyS P md ops S n L f (listed.setIfInBounds i true) (a.put oi.dst v) → wpAnyS P md ops S n L (f + 1) listed a := by
  intro f
  induction f with
  | zero =>
    intro listed a inv _ hr hy H
    have hun := (mem_ready.1 hr).1
    refine ⟨fun h => (by rw [h] at hr; cases hr), fun j hj => ?_⟩
    have hjn : j < n := by
      rcases Nat.lt_or_ge j n with h | h
      · exact h
      · exact absurd hj (tail_waits1 hs hc hn inv _ i rfl hin hi0 hun j h)
    refine ⟨hjn, ?_⟩
    by_cases hji : j = i
    · subst hji; exact ⟨oi, v, hi, hy, H⟩
    · have := hdone _ _ H j (ready_mono hj hji)
      omega
  | succ f ih =>
    intro listed a inv hfree hr hy H
    have hun := (mem_ready.1 hr).1
    refine ⟨fun h => (by rw [h] at hr; cases hr), fun j hj => ?_⟩
    have hjn : j < n := by
      rcases Nat.lt_or_ge j n with h | h
      · exact h
      · exact absurd hj (tail_waits1 hs hc hn inv _ i rfl hin hi0 hun j h)
    refine ⟨hjn, ?_⟩
    by_cases hji : j = i
    · subst hji; exact ⟨oi, v, hi, hy, H⟩
    · obtain ⟨_, oj, u, hoj, hsj, Hj⟩ := H.2 j (ready_mono hj hji)
      obtain ⟨hjun, oj', hoj', hall⟩ := mem_ready.1 hj
      obtain rfl : oj' = oj := Option.some.inj (hoj'.symm.trans hoj)
      have hnot : ∀ e ∈ oj'.after, Region.binds md e = true → e.on ≠ i := fun e he hb heq => by
        have h1 := hall e he hb
        rw [heq, getD_both hun] at h1
        cases h1
      obtain ⟨h1, h2, h3⟩ := Oper.apart_spec (hfree j oj' hoj hji hjun hnot)
      have k1 : Steady P ops S oj' u a := steady_same hsj (execOp_put oj' (fun cs b => hsel j oj' cs b hoj) a oi.dst v h1).symm (wanted_put oj' a oi.dst v h1).symm
      have k2 : Steady P ops S oi v (a.put oj'.dst u) := steady_same hy (execOp_put oi (fun cs b => hsel i oi cs b hi) a oj'.dst u h3) (wanted_put oi a oj'.dst u h3)
      refine ⟨oj', u, hoj, k1, ih _ _ (inv.set hj hjn) (fun k ok hk hki hun hno => ?_) (ready_mono hr (Ne.symm hji)) k2 ?_⟩
      · refine hfree k ok hk hki ?_ hno
        by_cases hjk : j = k
        · subst hjk; exact hjun
        · rw [getD_set_ne true hjk] at hun; exact hun
      · rw [Array.setIfInBounds_comm _ _ hji, ← Act.put_comm a v u h2]
        exact Hj
theorem wpAnyS_lex1 {n g : Nat} {T : Act → Prop} (hsel : Region.noSelect ops = true) (hs : sink1B md ops n = true) (hc : Region.chainB md ops n = true) (hn : n < ops.size) :
    ∀ (l : List Oper) (k : Nat) (listed : Array Bool) (a : Act), (∀ j, j < l.length → l[j]? = ops[k + j]?) → k + l.length = n → k ≠ 0 → HeadInv md ops n listed →
    Region.lexHead md ops g l.length k listed = true → wpH P ops S T l a →
    wpAnyS P md ops S n (fun listed' a' => Region.seqB md ops g n listed' = true ∧ T a') l.length listed a
  | [], k, listed, a, _, hk, _, _, hB, h => by
    have : k = n := by simpa using hk
    subst this
    exact ⟨by simpa [Region.lexHead] using hB, h⟩
  | o :: l, k, listed, a, hl, hk, hk0, inv, hB, h => by
    have h0 : ops[k]? = some o := by simpa using (hl 0 (by simp)).symm
    simp only [List.length_cons, Region.lexHead, Bool.and_eq_true] at hB
    obtain ⟨⟨hr, hf⟩, hB'⟩ := hB
    have hkn : k < n := by simp only [List.length_cons] at hk; omega
    have hr' : k ∈ Region.ready md ops listed := by simpa using hr
    obtain ⟨v, hy, hK⟩ := h
    exact wpAnyS_first1 h0 (Region.noSelect_spec hsel) hs hc hn hkn hk0 (fun listed' a' hL => seqB_ready hL.1) l.length listed a inv (Region.free_spec h0 hf) hr' hy
      (wpAnyS_lex1 hsel hs hc hn l (k + 1) _ _ (fun j hj => by have := hl (j + 1) (by simp; omega); simpa [Nat.add_assoc, Nat.add_comm 1 j] using this) (by simp only [List.length_cons] at hk; omega) (by omega) (inv.set hr' hkn) hB' hK)
/-- what the first operation behind the head comes to: a value, in a world of its own -/
def TailV (P : Program) (ops : Array Oper) (Q : Exit → Act → World → Prop) (o : Oper) (rest : List Oper) (a : Act) (W : World) : Prop :=
  ∃ v w', (execOp a.eval o).run P W = .ok (.value v) w' ∧ wpList P ops Q rest (a.put o.dst v) w'
theorem op_value {o : Oper} {a : Act} {K : Act → World → Prop} {Q : Exit → Act → World → Prop} {W w' : World} {v : Value} (h1 : (execOp a.eval o).run P W = .ok (.value v) w') (h2 : K (a.put o.dst v) w') : o.wp P a W K Q := by
  unfold Oper.wp
  rw [h1]
  exact h2
theorem wpOp_value {i : Nat} {o : Oper} {a : Act} {K : Act → World → Prop} {Q : Exit → Act → World → Prop} {W w' : World} {v : Value} (hi : ops[i]? = some o) (hw : Region.wanted o (yielded ops a.tmps) = true)
    (h1 : (execOp a.eval o).run P W = .ok (.value v) w') (h2 : K (a.put o.dst v) w') : wpOp P ops Q i K a W := by
  unfold wpOp
  simp only [hi, hw, if_true]
  left
  exact op_value h1 h2
theorem wpAny_lazy {n g : Nat} {o0 on : Oper} {rest : List Oper} {v0 : Value} {Q : Exit → Act → World → Prop} (h0 : ops[0]? = some o0) (hon : ops[n]? = some on) (hn0 : n ≠ 0)
    (hrest : ∀ j, rest[j]? = ops[n + 1 + j]?) (hg : rest.length = g) (hsel : ∀ (j : Nat) (o : Oper) cs b, ops[j]? = some o → o.op ≠ .select cs b)
    (hap : o0.apart ops on = true) (hw1 : Region.waitsFor md ops (n + 1) 0 = true) (hc : Region.chainB md ops n = true) (hsz : n + 1 < ops.size) (hwn : ∀ a : Act, Region.wanted on (yielded ops a.tmps) = true) :
    ∀ (f : Nat) (listed : Array Bool) (a : Act), HeadInv md ops n listed →
      (∀ j oj, ops[j]? = some oj → j ≠ 0 → listed.getD j true = false → (∀ e ∈ oj.after, Region.binds md e = true → e.on ≠ 0) → o0.apart ops oj = true) →
      0 ∈ Region.ready md ops listed → Region.wanted o0 (yielded ops a.tmps) = true → (∀ w, (execOp a.eval o0).run P w = .ok (.value v0) w) →
      wpAnyS P md ops S n (fun listed' a' => Region.seqB md ops (g + 1) n listed' = true ∧ ∀ W, S W → TailV P ops Q on rest a' W) f (listed.setIfInBounds 0 true) (a.put o0.dst v0) →
      ∀ W, S W → wpAny P md ops Q (f + 1 + (g + 1)) listed a W := by
  intro f
  induction f with
  | zero =>
    intro listed a inv hfree hr hw hp H W hS
    obtain ⟨hB, hT⟩ := H
    obtain ⟨v, w', hv, hl⟩ := hT W hS
    have hB' := hB
    simp only [Region.seqB, Bool.and_eq_true, decide_eq_true_eq] at hB'
    obtain ⟨hrd, hB2⟩ := hB'
    have done : wpAny P md ops Q (g + 1) (listed.setIfInBounds 0 true) (a.put o0.dst v0) W := by
      refine ⟨fun h => (by rw [hrd] at h; cases h), fun i hi => ?_⟩
      rw [hrd] at hi
      have hin : i = n := by simpa using hi
      subst hin
      refine wpOp_value hon (hwn _) hv ?_
      have := wpAny_of_seq (md := md) (Q' := Q) rest (i + 1) ((listed.setIfInBounds 0 true).setIfInBounds i true) _ w' hrest (by rw [hg]; exact hB2) hl
      rw [hg] at this
      exact this
    rw [show 0 + 1 + (g + 1) = (g + 1) + 1 by omega]
    refine ⟨fun h => (by rw [h] at hr; cases hr), fun j hj => ?_⟩
    by_cases hj0 : j = 0
    · subst hj0
      exact wpOp_value h0 hw (hp W) done
    · have hjr := ready_mono (i := 0) hj hj0
      rw [hrd] at hjr
      have hjn : j = n := by simpa using hjr
      subst hjn
      obtain ⟨a1, a2, a3⟩ := Oper.apart_spec hap
      have hv2 : (execOp a.eval on).run P W = .ok (.value v) w' := by
        rw [← execOp_put on (fun cs b => hsel j on cs b hon) a o0.dst v0 a1]; exact hv
      refine wpOp_value hon (hwn _) hv2 ?_
      refine ⟨fun h => ?_, fun i hi => ?_⟩
      · have := ready_mono (i := j) hr (Ne.symm hj0)
        rw [h] at this; cases this
      · have hi0 : i = 0 := by
          apply Classical.byContradiction
          intro hi0
          have h0un : (listed.setIfInBounds j true).getD 0 false = false := by
            rw [getD_set_ne false hj0]; exact getD_both (mem_ready.1 hr).1
          have hi' := ready_mono (i := 0) hi hi0
          rw [Array.setIfInBounds_comm _ _ hj0] at hi'
          cases g with
          | zero =>
            simp only [Region.seqB, List.isEmpty_iff] at hB2
            rw [hB2] at hi'
            cases hi'
          | succ g =>
            simp only [Region.seqB, Bool.and_eq_true, decide_eq_true_eq] at hB2
            rw [hB2.1] at hi'
            have hi1 : i = j + 1 := by simpa using hi'
            subst hi1
            obtain ⟨_, oi, hoi, hall⟩ := mem_ready.1 hi
            obtain ⟨o', ho', e, he, hb, hon'⟩ := Region.waitsFor_spec hw1
            have : o' = oi := Option.some.inj (ho'.symm.trans hoi)
            subst this
            have h2 := hall e he hb
            rw [hon', h0un] at h2
            cases h2
        subst hi0
        have hp2 : (execOp (a.put on.dst v).eval o0).run P w' = .ok (.value v0) w' := by
          rw [execOp_put o0 (fun cs b => hsel 0 o0 cs b h0) a on.dst v a3]; exact hp w'
        have hw2 : Region.wanted o0 (yielded ops (a.put on.dst v).tmps) = true := by rw [wanted_put o0 a on.dst v a3]; exact hw
        refine wpOp_value h0 hw2 hp2 ?_
        rw [Array.setIfInBounds_comm _ _ hj0, ← Act.put_comm a v0 v a2]
        have := wpAny_of_seq (md := md) (Q' := Q) rest (j + 1) ((listed.setIfInBounds 0 true).setIfInBounds j true) _ w' hrest (by rw [hg]; exact hB2) hl
        rw [hg] at this
        exact this
  | succ f ih =>
    intro listed a inv hfree hr hw hp H W hS
    rw [show f + 1 + 1 + (g + 1) = (f + 1 + (g + 1)) + 1 by omega]
    refine ⟨fun h => (by rw [h] at hr; cases hr), fun j hj => ?_⟩
    by_cases hj0 : j = 0
    · subst hj0
      refine wpOp_value h0 hw (hp W) ?_
      refine wpAny_of_S (Q := Q) (g := g + 1) (fun listed' a' hL W' hW' => ?_) (f + 1) _ _ H W hS
      obtain ⟨hB, hT⟩ := hL
      obtain ⟨v, w', hv, hl⟩ := hT W' hW'
      simp only [Region.seqB, Bool.and_eq_true, decide_eq_true_eq] at hB
      refine ⟨fun h => (by rw [hB.1] at h; cases h), fun i hi => ?_⟩
      rw [hB.1] at hi
      have hin : i = n := by simpa using hi
      subst hin
      refine wpOp_value hon (hwn _) hv ?_
      have := wpAny_of_seq (md := md) (Q' := Q) rest (i + 1) (listed'.setIfInBounds i true) _ w' hrest (by rw [hg]; exact hB.2) hl
      rw [hg] at this
      exact this
    · obtain ⟨hjn, oj, u, hoj, hsj, Hj⟩ := H.2 j (ready_mono hj hj0)
      obtain ⟨hjun, oj', hoj', hall⟩ := mem_ready.1 hj
      obtain rfl : oj' = oj := Option.some.inj (hoj'.symm.trans hoj)
      have hnot : ∀ e ∈ oj'.after, Region.binds md e = true → e.on ≠ 0 := fun e he hb heq => by
        have h1 := hall e he hb
        rw [heq, getD_both (mem_ready.1 hr).1] at h1
        cases h1
      obtain ⟨h1, h2, h3⟩ := Oper.apart_spec (hfree j oj' hoj hj0 hjun hnot)
      have k1 : Steady P ops S oj' u a := steady_same hsj (execOp_put oj' (fun cs b => hsel j oj' cs b hoj) a o0.dst v0 h1).symm (wanted_put oj' a o0.dst v0 h1).symm
      refine steady_op hoj k1 hS fun w' hS' => ?_
      refine ih (listed.setIfInBounds j true) (a.put oj'.dst u) (inv.set hj hjn) (fun k ok hk hki hun hno => ?_) (ready_mono hr (Ne.symm hj0)) (by rw [wanted_put o0 a oj'.dst u h3]; exact hw) (fun w => ?_) ?_ w' hS'
      · refine hfree k ok hk hki ?_ hno
        by_cases hjk : j = k
        · subst hjk; exact hjun
        · rw [getD_set_ne true hjk] at hun; exact hun
      · rw [execOp_put o0 (fun cs b => hsel 0 o0 cs b h0) a oj'.dst u h3]; exact hp w
      · rw [Array.setIfInBounds_comm _ _ hj0, ← Act.put_comm a v0 u h2]
        exact Hj
def lexAppB (md : Region.Mode) (ops : Array Oper) (n : Nat) : Bool :=
  Region.noSelect ops && decide (n + 1 < ops.size) && sink1B md ops n && Region.chainB md ops n && Region.waitsFor md ops (n + 1) 0 &&
    (Region.ready md ops (Array.replicate ops.size false)).contains 0 && Region.free md ops (Array.replicate ops.size false) 0 &&
    Region.lexHead md ops (ops.size - n) (n - 1) 1 ((Array.replicate ops.size false).setIfInBounds 0 true)
theorem wp_region_AP {id : Nat} {Q : Exit → Act → World → Prop} {a : Act} {w : World} {l : List Oper} (n : Nat) {o0 on : Oper} {hd rest : List Oper} {v0 : Value} (S : World → Prop) (hm : P.follows .mixedOrders = true) (hB : lexAppB .any l.toArray n = true) (hS : S w.drew)
    (hl0 : l.take n = o0 :: hd) (hln : l.drop n = on :: rest) (hap : o0.apart l.toArray on = true) (hwn : ∀ a, Region.wanted on (yielded l.toArray a) = true)
    (hw0 : Region.wanted o0 (yielded l.toArray a.tmps) = true) (hp : ∀ w, (execOp a.eval o0).run P w = .ok (.value v0) w)
    (h : wpH P l.toArray S (fun a' => ∀ W, S W → TailV P l.toArray Q on rest a' W) hd (a.put o0.dst v0)) : (Code.region id l.toArray true).wp P Q a w := by
  simp only [lexAppB, Bool.and_eq_true, decide_eq_true_eq] at hB
  obtain ⟨⟨⟨⟨⟨⟨⟨hsel, hn⟩, hs⟩, hc⟩, hw1⟩, hr0⟩, hf0⟩, hlex⟩ := hB
  have hn' : n + 1 < l.length := by simpa using hn
  have hn0 : n ≠ 0 := by
    intro h0
    subst h0
    simp at hl0
  have htl : (l.take n).length = n := by simp; omega
  have hhd : hd.length = n - 1 := by
    have := congrArg List.length hl0
    simp at this
    omega
  have h0i : l.toArray[0]? = some o0 := by
    have h0 : (l.take n)[0]? = some o0 := by rw [hl0]; rfl
    have hlt : 0 < n := by omega
    simpa [List.getElem?_take, hlt] using h0
  have hoi : l.toArray[n]? = some on := by
    have h0 : (l.drop n)[0]? = some on := by rw [hln]; rfl
    simpa [List.getElem?_drop] using h0
  have hrest : ∀ j, rest[j]? = l.toArray[n + 1 + j]? := fun j => by
    have h0 : (l.drop n)[j + 1]? = rest[j]? := by rw [hln]; rfl
    rw [← h0]
    simp [List.getElem?_drop]
    congr 1
    omega
  have hrl : rest.length = l.toArray.size - n - 1 := by
    have := congrArg List.length hln
    simp at this ⊢
    omega
  have inv0 : HeadInv .any l.toArray n (Array.replicate l.toArray.size false) :=
    ⟨by simp, fun j oj _ hl => (by rw [getD_replicate_false] at hl; cases hl), fun t _ ht => getD_in (by simpa using ht) (getD_replicate_false _ _)⟩
  have hr0' : 0 ∈ Region.ready .any l.toArray (Array.replicate l.toArray.size false) := by simpa using hr0
  have H := wpAnyS_lex1 (md := .any) (g := l.toArray.size - n) hsel hs hc (by omega) hd 1 _ _ (fun j hj => by
    have h0 : (l.take n)[j + 1]? = hd[j]? := by rw [hl0]; rfl
    rw [← h0]
    have hlt : j + 1 < n := by omega
    simp [List.getElem?_take, hlt, Nat.add_comm 1 j]) (by omega) (by omega) (inv0.set hr0' (by omega)) (by rw [hhd]; exact hlex) h
  refine wp_region_any hm ?_
  have hg1 : l.toArray.size - n = rest.length + 1 := by rw [hrl]; omega
  rw [hg1] at H
  have := wpAny_lazy (md := .any) (Q := Q) h0i hoi hn0 hrest rfl (Region.noSelect_spec hsel) hap hw1 hc hn (fun a => hwn a.tmps) hd.length _ a inv0 (Region.free_spec h0i hf0) hr0' hw0 hp H w.drew hS
  rw [hhd, show n - 1 + 1 + (rest.length + 1) = l.toArray.size by rw [hrl]; omega] at this
  exact this
end
end Go.Proofs.Ytmhdbodmpohdnaa
/- contract: the straight lines of a board, the program -/
namespace Go.Proofs.Ytmhdbodmpohdnaa
open Go.ChangeShapes Go.WideShapes Go.ChangeAt Go.RowKit Go.Joins
set_option linter.unusedVariables false
set_option linter.unusedSimpArgs false
set_option maxRecDepth 4000
theorem bt_keep' {w W W' : World} (h : Below w.heap.size w W) (hb : Below W.heap.size W W') : Below w.heap.size w W' := h.trans (hb.mono h.size)
theorem stC_eq (w h k m : Nat) : stC w h k m = (decide (stepN (bX h k).1 (bX h k).2 (bX h m).1 (bX h m).2 = 1) && !(onQ w h ((bX h k).1 - ((bX h m).1 - (bX h k).1)) ((bX h k).2 - ((bX h m).2 - (bX h k).2)))) := by
  unfold stC cnd bX stepN
  simp only
  congr 1
  rw [Bool.eq_iff_iff]
  simp only [decide_eq_true_eq]
  constructor
  · intro q
    have := Nat.eq_of_beq_eq_true q
    omega
  · intro q
    have : ∀ x : Nat, ((x : Nat) : Int) = 1 → Nat.beq x 1 = true := fun x hx => by
      have : x = 1 := by omega
      subst this
      rfl
    exact this _ q
theorem stE_eq (w h k m : Nat) : stE w h k m = ((bX h m).1 - (bX h k).1, (bX h m).2 - (bX h k).2, ((alg w h ((bX h m).1 - (bX h k).1) ((bX h m).2 - (bX h k).2) 13 (bX h k).1 (bX h k).2 : Nat) : Int)) := rfl
theorem bX_lt {h k m : Nat} (hkm : k < m) (hh : 0 < h) : 1 ≤ (bX h m).1 - (bX h k).1 ∨ ((bX h m).1 - (bX h k).1 = 0 ∧ 1 ≤ (bX h m).2 - (bX h k).2) := by
  unfold bX
  simp only
  have e1 := Nat.div_add_mod k h
  have e2 := Nat.div_add_mod m h
  have l1 := Nat.mod_lt k hh
  have l2 := Nat.mod_lt m hh
  rcases Nat.lt_trichotomy (k / h) (m / h) with g | g | g
  · left; omega
  · right; rw [g] at e1; omega
  · have := Nat.mul_le_mul_left h (show m / h + 1 ≤ k / h from g)
    rw [Nat.mul_add, Nat.mul_one] at this
    omega
/-- steps and numbers as cells -/
def flat3 (l : List (Int × Int × Int)) : List Value := l.flatMap fun p => [.int .i64 p.1, .int .i64 p.2.1, .int .i64 p.2.2]
theorem flat3_snoc (l : List (Int × Int × Int)) (p : Int × Int × Int) : flat3 (l ++ [p]) = flat3 l ++ [.int .i64 p.1, .int .i64 p.2.1, .int .i64 p.2.2] := by
  unfold flat3; rw [List.flatMap_append]; rfl
theorem flat3_get (l : List (Int × Int × Int)) : ∀ i p, l[i]? = some p → (flat3 l)[i * 3]? = some (.int .i64 p.1) ∧ (flat3 l)[i * 3 + 1]? = some (.int .i64 p.2.1) ∧ (flat3 l)[i * 3 + 2]? = some (.int .i64 p.2.2) := by
  induction l with
  | nil => intro i p h; simp at h
  | cons q l ih =>
    intro i p hi
    have e : flat3 (q :: l) = [.int .i64 q.1, .int .i64 q.2.1, .int .i64 q.2.2] ++ flat3 l := rfl
    rw [e]
    cases i with
    | zero => simp at hi; subst hi; exact ⟨rfl, rfl, rfl⟩
    | succ i =>
      have h := ih i p (by simpa using hi)
      rw [show (i + 1) * 3 = 3 + i * 3 by omega, List.getElem?_append_right (by simp), List.getElem?_append_right (by simp; omega), List.getElem?_append_right (by simp; omega)]
      simpa [show 3 + i * 3 - 3 = i * 3 by omega, show 3 + i * 3 + 1 - 3 = i * 3 + 1 by omega, show 3 + i * 3 + 2 - 3 = i * 3 + 2 by omega] using h
theorem straight_info : (Try.prog.info? 64).map (fun i => (i.zero, i.size, i.bytes)) = some (some (.agg #[.int .i64 0, .int .i64 0, .int .i64 0]), 3, 24) := by kernel_rfl
theorem three_cells {w : World} {g : Nat} {x y z : Value} (h1 : w.cell? ⟨g, 0, none⟩ = some x) (h2 : w.cell? ⟨g, 1, none⟩ = some y) (h3 : w.cell? ⟨g, 2, none⟩ = some z) : ∀ j u, [x, y, z][j]? = some u → w.cell? ((⟨g, 0, none⟩ : Addr).add j) = some u := by
  intro j u hj
  match j, hj with
  | 0, hj => simp at hj; subst hj; exact h1
  | 1, hj => simp at hj; subst hj; exact h2
  | 2, hj => simp at hj; subst hj; exact h3
theorem three_one (x y z : Int) : ∀ u ∈ [Value.int .i64 x, Value.int .i64 y, Value.int .i64 z], u.oneCell' = true := by
  intro u hu; simp at hu; rcases hu with rfl | rfl | rfl <;> rfl
def RowT (w : World) (base : Nat) (v : Value) (L : List (Int × Int × Int)) : Prop := w.ownsRow base 64 3 v L.length (flat3 L)
theorem rowT_below {w w' : World} {base B : Nat} {v : Value} {L : List (Int × Int × Int)} (h : RowT w base v L) (hb : Below B w w') (hB : w.heap.size ≤ B) : RowT w' base v L := by
  have hlt := World.ownsRow.lt h
  obtain ⟨h1, h2⟩ := h
  rcases h2 with h2 | ⟨g, cap, cur, hv, hg, hh, r⟩
  · exact ⟨h1, .inl h2⟩
  · have hl := hlt g (by rw [hv]; rfl)
    exact ⟨h1, .inr ⟨g, cap, cur, hv, hg, (hb.block g (by omega)).trans hh, r⟩⟩
theorem PtC.grown {w W W' : World} {b : Nat} {x y : Int} {row : Option Nat} (h : PtC w W b x y) (hg : W.grownBy W' row) (hne : row ≠ some b) : PtC w W' b x y := by
  have hb : W'.heap[b]? = W.heap[b]? := hg.block b h.hi (fun e => hne e.symm)
  exact ⟨h.lo, Nat.lt_of_lt_of_le h.hi hg.size, (World.cell?_of_block hb).trans h.c0, (World.cell?_of_block hb).trans h.c1, fun o => (World.frozen?_of_block hb).trans (h.fz o)⟩
/-- the world of the inner loop -/
structure LnS (w1 W : World) (v : Value) (L : List (Int × Int × Int)) (X : Nat) (a1 a2 : Int) : Prop where
  bel : Below w1.heap.size w1 W
  row : RowT W w1.heap.size v L
  box : PtC w1 W X a1 a2
  oth : v.ownBlock ≠ some X
theorem LnS.up {w1 W W' : World} {v : Value} {L : List (Int × Int × Int)} {X : Nat} {a1 a2 : Int} (h : LnS w1 W v L X a1 a2) (hb : Below W.heap.size W W') : LnS w1 W' v L X a1 a2 :=
  ⟨h.bel.trans (hb.mono h.bel.size), rowT_below h.row hb (Nat.le_refl _), h.box.up hb, h.oth⟩
theorem LnS.new {w1 W : World} {v : Value} {L : List (Int × Int × Int)} (hb : Below w1.heap.size w1 W) (hr : RowT W w1.heap.size v L) (a1 a2 : Int) : LnS w1 (W.alloc (.cells #[.int .i64 a1, .int .i64 a2] 28)) v L W.heap.size a1 a2 :=
  ⟨Below.alloc hb hb.size _, World.ownsRow.alloc hr _, PtC.new hb.size a1 a2 _, fun e => by have := (World.ownsRow.lt hr _ e).2; omega⟩
theorem LnS.push {w1 W w' : World} {v v' : Value} {L : List (Int × Int × Int)} {X : Nat} {a1 a2 : Int} {p : Int × Int × Int} (h : LnS w1 W v L X a1 a2) (ho : w'.ownsRow w1.heap.size 64 3 v' (L.length + 1) (flat3 L ++ [.int .i64 p.1, .int .i64 p.2.1, .int .i64 p.2.2])) (hg : W.grownBy w' v.ownBlock) (hat : v'.ownBlock = v.ownBlock ∨ v'.ownBlock = some W.heap.size) : LnS w1 w' v' (L ++ [p]) X a1 a2 :=
  ⟨h.bel.grown hg h.bel.size (fun g hgk => (World.ownsRow.lt h.row g hgk).1), by unfold RowT; rw [flat3_snoc, List.length_append]; exact ho, h.box.grown hg h.oth, by
    rcases hat with e | e
    · rw [e]; exact h.oth
    · rw [e]; intro q; have := h.box.hi; injection q with q; omega⟩
/-- what a call gives that makes a list of lines -/
def RetT (w : World) (L : List (Int × Int × Int)) (e : Ending) (w' : World) : Prop :=
  ∃ v, e = .returned v ∧ Below w.heap.size w w' ∧ RowT w' w.heap.size v L
theorem rowT_base {w : World} {base base' : Nat} {v : Value} {L : List (Int × Int × Int)} (h : RowT w base v L) (hB : base' ≤ base) : RowT w base' v L := by
  obtain ⟨h1, h2⟩ := h
  refine ⟨h1, ?_⟩
  rcases h2 with h2 | ⟨g, cap, cur, hv, hg, r⟩
  · exact .inl h2
  · exact .inr ⟨g, cap, cur, hv, Nat.le_trans hB hg, r⟩
set_option maxRecDepth 100000 in
set_option maxHeartbeats 8000000 in
theorem straights_any (nw nh : Nat) (w : World) (h1 : nw ≤ 12) (h2 : nh ≤ 12) :
    Calls Try.prog 59 #[.agg #[.int .i64 nw, .int .i64 nh]] w (RetT w (stS nw nh (nw * nh))) := by
  obtain ⟨i0, hi0, hz0, hz1, hz2⟩ := info_parts straight_info
  have HI := Lib.hid (And.intro hi0 (And.intro hz0 (And.intro hz1 hz2)))
  have h3 := bd_mul h1 h2
  have KP := Lib.hid (fun W => boardPegs_any nw nh W h1 h2)
  have HW : Hid (nw ≤ 12 ∧ nh ≤ 12) := Lib.hid ⟨h1, h2⟩
  have KST : Hid (∀ k m W, k < nw * nh → m < nw * nh → Calls Try.prog 63 #[.agg #[.int .i64 (bX nh k).1, .int .i64 (bX nh k).2], .agg #[.int .i64 (bX nh m).1, .int .i64 (bX nh m).2]] W fun e w' => e = .returned (.int .i64 (stepN (bX nh k).1 (bX nh k).2 (bX nh m).1 (bX nh m).2)) ∧ Below W.heap.size W w') :=
    Lib.hid (fun k m W hk hm => stepsTo_any _ _ _ _ W (bX_sz h1 h2 hk) (bX_sz h1 h2 hm))
  have KHS : Hid (∀ x y W, Calls Try.prog 46 #[.agg #[.int .i64 nw, .int .i64 nh], .agg #[.int .i64 x, .int .i64 y]] W fun e w' => e = .returned (.bool (onQ nw nh x y)) ∧ Below W.heap.size W w') :=
    Lib.hid (fun x y W => by rw [onQ_eq]; exact has_any nw nh x y W (by omega) (by omega))
  have KAL : Hid (∀ k m W, k < m → m < nw * nh → Calls Try.prog 70 #[.agg #[.int .i64 nw, .int .i64 nh], .agg #[.int .i64 (bX nh k).1, .int .i64 (bX nh k).2], .agg #[.int .i64 ((bX nh m).1 - (bX nh k).1), .int .i64 ((bX nh m).2 - (bX nh k).2)]] W fun e w' => e = .returned (.int .i64 ((alg nw nh ((bX nh m).1 - (bX nh k).1) ((bX nh m).2 - (bX nh k).2) 13 (bX nh k).1 (bX nh k).2 : Nat) : Int)) ∧ Below W.heap.size W w') :=
    Lib.hid (fun k m W hkm hm => by
      have b1 := bX_bd (show k < nw * nh by omega)
      have b2 := bX_bd hm
      exact countAlong_any nw nh _ _ _ _ W h1 h2 (by omega) (by omega) (by omega) (by omega) (bX_lt hkm (by omega)))
  have HBD : Hid (∀ k, k < nw * nh → 0 ≤ (bX nh k).1 ∧ (bX nh k).1 ≤ 12 ∧ 0 ≤ (bX nh k).2 ∧ (bX nh k).2 ≤ 12) := Lib.hid (fun k hk => by have := bX_bd hk; omega)
  have HCC : Hid (∀ k m, stC nw nh k m = (decide (stepN (bX nh k).1 (bX nh k).2 (bX nh m).1 (bX nh m).2 = 1) && !(onQ nw nh ((bX nh k).1 - ((bX nh m).1 - (bX nh k).1)) ((bX nh k).2 - ((bX nh m).2 - (bX nh k).2))))) := Lib.hid (fun k m => stC_eq nw nh k m)
  have HR0 : Hid (∀ k, stR nw nh k 0 = []) := Lib.hid (fun k => rfl)
  have HRY : Hid (∀ k j, stC nw nh k (k + 1 + j) = true → stR nw nh k (j + 1) = stR nw nh k j ++ [((bX nh (k + 1 + j)).1 - (bX nh k).1, (bX nh (k + 1 + j)).2 - (bX nh k).2, ((alg nw nh ((bX nh (k + 1 + j)).1 - (bX nh k).1) ((bX nh (k + 1 + j)).2 - (bX nh k).2) 13 (bX nh k).1 (bX nh k).2 : Nat) : Int))]) := Lib.hid (fun k j h => by rw [stR, if_pos h, stE_eq])
  have HRN : Hid (∀ k j, stC nw nh k (k + 1 + j) = false → stR nw nh k (j + 1) = stR nw nh k j) := Lib.hid (fun k j h => by rw [stR, if_neg (by rw [h]; simp)])
  have HS0 : Hid (stS nw nh 0 = []) := Lib.hid rfl
  have HS1 : Hid (∀ k, stS nw nh (k + 1) = stS nw nh k ++ stR nw nh k (nw * nh - 1 - k)) := Lib.hid (fun k => rfl)
  have HLN : Hid (∀ k j, k ≤ nw * nh → j ≤ nw * nh → (stS nw nh k ++ stR nw nh k j).length ≤ 100000) := Lib.hid (fun k j hk hj => by
    have l1 := stS_len nw nh k hk
    have l2 := stR_len nw nh k j
    have l3 := Nat.mul_le_mul (Nat.le_trans hk h3) h3
    rw [List.length_append]
    omega)
  have HAL : Hid (∀ (x y : Int), 0 ≤ x) → True := fun _ => trivial
  clear hi0 hz0 hz1 hz2 HAL
  generalize stS nw nh = SS at *
  generalize stR nw nh = RR at *
  generalize stC nw nh = CC at *
  generalize alg nw nh = AL at *
  generalize onQ nw nh = OO at *
  generalize bX nh = f at *
  generalize hNN : nw * nh = n at *
  have HNN := Lib.hid hNN
  clear hNN h1 h2
  go_enter Try.func59, Try.ntmps59
  go_wp2_with fail
  obtain ⟨W0, hW0⟩ : ∃ W0, W0 = (w.alloc (.cells #[.int .i64 ((nw : Int)), .int .i64 ((nh : Int))] 34)) := ⟨_, rfl⟩
  rw [← hW0]
  have yW00_0 : W0.cell? ⟨w.heap.size, 0, none⟩ = some (.int .i64 ((nw : Int))) := by rw [hW0]; go_simp
  have yW00_1 : W0.cell? ⟨w.heap.size, 1, none⟩ = some (.int .i64 ((nh : Int))) := by rw [hW0]; go_simp
  have fW00 : ∀ o, W0.frozen? ⟨w.heap.size, o, none⟩ = false := by intro o; rw [hW0]; (repeat rw [frozen?_alloc_cells]); simp [World.frozen?]
  have zW00 : w.heap.size < W0.heap.size := by rw [hW0]; simp <;> omega
  have BW0 : Below w.heap.size w W0 := by rw [hW0]; exact (Below.alloc (Below.refl _ _) (by simp <;> omega) _)
  have eW0 : Hid (W0.heap.size = w.heap.size + 1) := Lib.hid (by rw [hW0]; simp)
  clear hW0
  refine (KP.out W0).mono ?_; intro e w1 hret
  obtain ⟨A, c, rfl, hc1, hc2, hb1, hrd⟩ := retP_read hret
  have HC := Lib.hid hrd
  have y0 := ((bcell hb1).1 _ 0 zW00).trans yW00_0
  have y1 := ((bcell hb1).1 _ 1 zW00).trans yW00_1
  have z1 := Nat.lt_of_lt_of_le zW00 hb1.size
  have BB := BW0.trans (hb1.mono BW0.size)
  unfold maxLen at hc2
  clear hret hrd hb1 yW00_0 yW00_1 fW00 zW00 eW0 BW0 KP
  go_wp2_with fail
  go_loopg [3, 14] n (fun g s i wr => ∃ (k : Nat) (v : Value), v = s ∧ k ≤ n ∧ g = n - k ∧ i = .int .i64 k ∧ Below w1.heap.size w1 wr ∧ Hid (RowT wr w1.heap.size v (SS k)))
  case atStart => exact ⟨0, _, rfl, Nat.zero_le _, rfl, rfl, Below.refl _ _, Lib.hid (by rw [HS0.out]; exact World.ownsRow_nil _ _ _ _)⟩
  case round =>
    obtain ⟨k, v, rfl, hk, hg, rfl, hB, hr⟩ := hrel
    rename World => wo
    have HGK := Lib.hid hg
    clear hg
    by_cases hlt : k < n
    · obtain ⟨b, off, hA, hb, x1, x2⟩ := HC.out wo hB k hlt
      subst hA
      have zB := hB.size
      have zo := Nat.lt_of_lt_of_le z1 zB
      have zb := Nat.lt_of_lt_of_le hb zB
      have HSk := Lib.hid (HS1.out k)
      obtain ⟨a1, a2, hae⟩ : ∃ a1 a2, f k = (a1, a2) := ⟨_, _, rfl⟩
      have HAE := Lib.hid hae
      have hba := HBD.out k hlt
      rw [hae] at x1 x2 hba
      clear hae
      have HBA := Lib.hid hba
      have hk1 : (k : Int) + 1 ≤ n := by omega
      have hkc : k + 1 ≤ c := by omega
      have HL0 := Lib.hid (LnS.new hB hr.out a1 a2)
      clear hba hr
      by_cases hlast : k + 1 = n
      · have HSe : Hid (SS (k + 1) = SS k) := Lib.hid (by rw [HSk.out, show n - 1 - k = 0 by omega, HR0.out, List.append_nil])
        by_cases hce : n = c
        · subst hce
          go_wp2_with fail
          go_loopg [3, 24] 0 (fun g2 s j wi => j = .int .i64 0 ∧ s = v ∧ Hid (LnS w1 wi v (SS k) wo.heap.size a1 a2))
          case atStart => exact ⟨rfl, rfl, HL0⟩
          case round =>
            obtain ⟨rfl, rfl, hL⟩ := hrel
            go_wp2_with fail
            go_roundg (n - (k + 1))
            case measure => have := HGK.out; omega
            case rel => exact ⟨k + 1, _, rfl, by omega, rfl, by go_num, hL.out.bel, Lib.hid (by rw [HSe.out]; exact hL.out.row)⟩
        · have hcn : ¬ c = k + 1 := by omega
          go_wp2_with fail
          go_loopg [3, 24] 0 (fun g2 s j wi => j = .int .i64 0 ∧ s = v ∧ Hid (LnS w1 wi v (SS k) wo.heap.size a1 a2))
          case atStart => exact ⟨rfl, rfl, HL0⟩
          case round =>
            obtain ⟨rfl, rfl, hL⟩ := hrel
            go_wp2_with fail
            go_roundg (n - (k + 1))
            case measure => have := HGK.out; omega
            case rel => exact ⟨k + 1, _, rfl, by omega, rfl, by go_num, hL.out.bel, Lib.hid (by rw [HSe.out]; exact hL.out.row)⟩
      · have hcn : ¬ c = k + 1 := by omega
        go_wp2_with fail
        go_loopg [3, 24] (n - (k + 1)) (fun g2 s j wi => ∃ (m : Nat) (u : Value), u = s ∧ m ≤ n - (k + 1) ∧ g2 = n - (k + 1) - m ∧ j = .int .i64 m ∧ Hid (LnS w1 wi u (SS k ++ RR k m) wo.heap.size a1 a2))
        case atStart => exact ⟨0, _, rfl, Nat.zero_le _, rfl, rfl, Lib.hid (by rw [HR0.out, List.append_nil]; exact HL0.out)⟩
        case round =>
          clear HL0 x1 x2 hB
          rename Value => v0
          obtain ⟨m, u, rfl, hm, hg2, rfl, hL⟩ := hrel
          rename World => wi
          have HGM := Lib.hid hg2
          clear hg2
          by_cases hlm : m < n - (k + 1)
          · obtain ⟨b', off', hA', _, q3, q4⟩ := HC.out wi hL.out.bel (k + 1 + m) (by omega)
            obtain ⟨rfl, rfl⟩ : b' = b ∧ off' = off := by simp at hA'; exact ⟨hA'.1.symm, hA'.2.symm⟩
            rw [show off' + (k + 1 + m) * 2 = off' + (k + 1) * 2 + m * 2 by omega] at q3 q4
            have hmi : (m : Int) < (n : Int) - ((k : Int) + 1) := by omega
            have KS1 := Lib.hid (fun W => KST.out k (k + 1 + m) W hlt (by omega))
            have KA1 := Lib.hid (fun W => KAL.out k (k + 1 + m) W (by omega) (by omega))
            have HC1 := Lib.hid (HCC.out k (k + 1 + m))
            have HY1 := Lib.hid (HRY.out k m)
            have HN1 := Lib.hid (HRN.out k m)
            have hbb := HBD.out (k + 1 + m) (by omega)
            have hln := HLN.out k m (by omega) (by omega)
            obtain ⟨c1, c2, hce⟩ : ∃ c1 c2, f (k + 1 + m) = (c1, c2) := ⟨_, _, rfl⟩
            rw [hce] at q3 q4 KS1 KA1 HC1 HY1 hbb
            rw [HAE.out] at KS1 KA1 HC1 HY1
            clear hce
            simp only at KS1 KA1 HC1 HY1 hbb q3 q4
            have hba := HBA.out
            have zi := hL.out.bel.size
            have zi1 := Nat.lt_of_lt_of_le z1 zi
            have zib := Nat.lt_of_lt_of_le hb zi
            have r0 := ((bcell hL.out.bel).1 _ 0 z1).trans y0
            have r1 := ((bcell hL.out.bel).1 _ 1 z1).trans y1
            have s0 := hL.out.box.c0
            have s1 := hL.out.box.c1
            have zx := hL.out.box.hi
            have KM1 := Lib.hid (fun W => minus_any c1 c2 a1 a2 W (by unfold Mid; omega) (by unfold Mid; omega) (by unfold Mid; omega) (by unfold Mid; omega))
            have KM2 := Lib.hid (fun W => minus_any a1 a2 (c1 - a1) (c2 - a2) W (by unfold Mid; omega) (by unfold Mid; omega) (by unfold Mid; omega) (by unfold Mid; omega))
            have KH1 := Lib.hid (fun W => KHS.out (a1 - (c1 - a1)) (a2 - (c2 - a2)) W)
            generalize stepN a1 a2 c1 c2 = sN at *
            generalize AL (c1 - a1) (c2 - a2) 13 a1 a2 = al at *
            generalize hoo : OO (a1 - (c1 - a1)) (a2 - (c2 - a2)) = oo at *
            generalize a1 - (c1 - a1) = e1 at *
            generalize a2 - (c2 - a2) = e2 at *
            generalize c1 - a1 = d1 at *
            generalize c2 - a2 = d2 at *
            generalize hLL : SS k ++ RR k m = LL at *
            have HLL := Lib.hid hLL
            clear hLL hoo
            go_wp2_with fail
            obtain ⟨Wb, hWb⟩ : ∃ Wb, Wb = (wi.alloc (.cells #[.int .i64 c1, .int .i64 c2] 28)) := ⟨_, rfl⟩
            rw [← hWb]
            have yWb0_0 : Wb.cell? ⟨wi.heap.size, 0, none⟩ = some (.int .i64 c1) := by rw [hWb]; go_simp
            have yWb0_1 : Wb.cell? ⟨wi.heap.size, 1, none⟩ = some (.int .i64 c2) := by rw [hWb]; go_simp
            have fWb0 : ∀ o, Wb.frozen? ⟨wi.heap.size, o, none⟩ = false := by intro o; rw [hWb]; (repeat rw [frozen?_alloc_cells]); simp [World.frozen?]
            have zWb0 : wi.heap.size < Wb.heap.size := by rw [hWb]; simp <;> omega
            have BWb : Below wi.heap.size wi Wb := by rw [hWb]; exact (Below.alloc (Below.refl _ _) (by simp <;> omega) _)
            have eWb : Hid (Wb.heap.size = wi.heap.size + 1) := Lib.hid (by rw [hWb]; simp)
            clear hWb
            have L1 := Lib.hid (hL.out.up BWb)
            have r2 := ((bcell BWb).1 _ 0 zi1).trans r0
            have r3 := ((bcell BWb).1 _ 1 zi1).trans r1
            have s2 := L1.out.box.c0
            have s3 := L1.out.box.c1
            have zx1 := L1.out.box.hi
            have zi2 := Nat.lt_of_lt_of_le zi1 BWb.size
            clear hL q3 q4 r0 r1 s0 s1 BWb eWb fWb0
            refine (KM1.out Wb).mono ?_; rintro e w3 ⟨rfl, hb3⟩
            have L3 := Lib.hid (L1.out.up hb3)
            have r4 := ((bcell hb3).1 _ 0 zi2).trans r2
            have r5 := ((bcell hb3).1 _ 1 zi2).trans r3
            have s4 := L3.out.box.c0
            have s5 := L3.out.box.c1
            have t4 := ((bcell hb3).1 _ 0 zWb0).trans yWb0_0
            have t5 := ((bcell hb3).1 _ 1 zWb0).trans yWb0_1
            have zx3 := L3.out.box.hi
            have zi3 := Nat.lt_of_lt_of_le zi2 hb3.size
            have zb3 := Nat.lt_of_lt_of_le zWb0 hb3.size
            clear L1 r2 r3 s2 s3 yWb0_0 yWb0_1 zx zx1 zi1 zi2 zWb0 hb3 KM1
            go_wp2_with fail
            obtain ⟨Wd, hWd⟩ : ∃ Wd, Wd = (w3.alloc (.cells #[.int .i64 d1, .int .i64 d2] 28)) := ⟨_, rfl⟩
            rw [← hWd]
            have yWd0_0 : Wd.cell? ⟨w3.heap.size, 0, none⟩ = some (.int .i64 d1) := by rw [hWd]; go_simp
            have yWd0_1 : Wd.cell? ⟨w3.heap.size, 1, none⟩ = some (.int .i64 d2) := by rw [hWd]; go_simp
            have fWd0 : ∀ o, Wd.frozen? ⟨w3.heap.size, o, none⟩ = false := by intro o; rw [hWd]; (repeat rw [frozen?_alloc_cells]); simp [World.frozen?]
            have zWd0 : w3.heap.size < Wd.heap.size := by rw [hWd]; simp <;> omega
            have BWd : Below w3.heap.size w3 Wd := by rw [hWd]; exact (Below.alloc (Below.refl _ _) (by simp <;> omega) _)
            have eWd : Hid (Wd.heap.size = w3.heap.size + 1) := Lib.hid (by rw [hWd]; simp)
            clear hWd
            have L5 := Lib.hid (L3.out.up BWd)
            have r6 := ((bcell BWd).1 _ 0 zi3).trans r4
            have r7 := ((bcell BWd).1 _ 1 zi3).trans r5
            have s6 := L5.out.box.c0
            have s7 := L5.out.box.c1
            have t6 := ((bcell BWd).1 _ 0 zb3).trans t4
            have t7 := ((bcell BWd).1 _ 1 zb3).trans t5
            have zx5 := L5.out.box.hi
            have zi5 := Nat.lt_of_lt_of_le zi3 BWd.size
            have zb5 := Nat.lt_of_lt_of_le zb3 BWd.size
            clear L3 r4 r5 s4 s5 t4 t5 zx3 zi3 zb3 BWd eWd fWd0
            by_cases hs : sN = 1
            · subst hs
              by_cases ho : oo = true
              · subst ho
                have HN2 := Lib.hid (HN1.out (by rw [HC1.out]; rfl))
                clear HC1 HY1 HN1
                refine wp_region_B (fun W => Below Wd.heap.size Wd W) (by kernel_rfl) (by repeat (first | exact Below.refl _ _ | apply Below.drew)) ?_
                first | refine wpB_skip 0 rfl (by kernel_rfl) (by kernel_rfl) (by kernel_rfl) (by rfl) ?_ | (refine wpB_text 0 (v := ?_) rfl (by kernel_rfl) (by kernel_rfl) (by kernel_rfl) (by rfl) (fun W hW => ?_) ?_; rotate_left; (have k1 := hW; obtain ⟨hc1, hf1⟩ := bcell k1; go_simp; refine comes_v ?_; exact k1))
                (try simp only [Act.put, List.setIfInBounds_toArray, List.set_cons_zero, List.set_cons_succ])
                first | refine wpB_skip 1 rfl (by kernel_rfl) (by kernel_rfl) (by kernel_rfl) (by rfl) ?_ | (refine wpB_text 1 (v := ?_) rfl (by kernel_rfl) (by kernel_rfl) (by kernel_rfl) (by rfl) (fun W hW => ?_) ?_; rotate_left; (have k1 := hW; obtain ⟨hc1, hf1⟩ := bcell k1; go_simp; refine comes_v ?_; exact k1))
                (try simp only [Act.put, List.setIfInBounds_toArray, List.set_cons_zero, List.set_cons_succ])
                first | refine wpB_skip 2 rfl (by kernel_rfl) (by kernel_rfl) (by kernel_rfl) (by rfl) ?_ | (refine wpB_text 2 (v := .int .i64 1) rfl (by kernel_rfl) (by kernel_rfl) (by kernel_rfl) (by rfl) (fun W hW => ?_) ?_; (have k1 := hW; obtain ⟨hc1, hf1⟩ := bcell k1; go_simp; exact comes_c ( KS1.out _) (fun wn hbn => bt_keep' k1 hbn)))
                (try simp only [Act.put, List.setIfInBounds_toArray, List.set_cons_zero, List.set_cons_succ])
                first | refine wpB_skip 3 rfl (by kernel_rfl) (by kernel_rfl) (by kernel_rfl) (by rfl) ?_ | (refine wpB_text 3 (v := ?_) rfl (by kernel_rfl) (by kernel_rfl) (by kernel_rfl) (by rfl) (fun W hW => ?_) ?_; rotate_left; (have k1 := hW; obtain ⟨hc1, hf1⟩ := bcell k1; go_simp; refine comes_v ?_; exact k1))
                (try simp only [Act.put, List.setIfInBounds_toArray, List.set_cons_zero, List.set_cons_succ])
                first | refine wpB_skip 4 rfl (by kernel_rfl) (by kernel_rfl) (by kernel_rfl) (by rfl) ?_ | (refine wpB_text 4 (v := ?_) rfl (by kernel_rfl) (by kernel_rfl) (by kernel_rfl) (by rfl) (fun W hW => ?_) ?_; rotate_left; (have k1 := hW; obtain ⟨hc1, hf1⟩ := bcell k1; go_simp; refine comes_v ?_; exact k1))
                (try simp only [Act.put, List.setIfInBounds_toArray, List.set_cons_zero, List.set_cons_succ])
                first | refine wpB_skip 5 rfl (by kernel_rfl) (by kernel_rfl) (by kernel_rfl) (by rfl) ?_ | (refine wpB_text 5 (v := ?_) rfl (by kernel_rfl) (by kernel_rfl) (by kernel_rfl) (by rfl) (fun W hW => ?_) ?_; rotate_left; (have k1 := hW; obtain ⟨hc1, hf1⟩ := bcell k1; go_simp; refine comes_v ?_; exact k1))
                (try simp only [Act.put, List.setIfInBounds_toArray, List.set_cons_zero, List.set_cons_succ])
                first | refine wpB_skip 6 rfl (by kernel_rfl) (by kernel_rfl) (by kernel_rfl) (by rfl) ?_ | (refine wpB_text 6 (v := ?_) rfl (by kernel_rfl) (by kernel_rfl) (by kernel_rfl) (by rfl) (fun W hW => ?_) ?_; rotate_left; (have k1 := hW; obtain ⟨hc1, hf1⟩ := bcell k1; go_simp; refine comes_v ?_; exact k1))
                (try simp only [Act.put, List.setIfInBounds_toArray, List.set_cons_zero, List.set_cons_succ])
                first | refine wpB_skip 7 rfl (by kernel_rfl) (by kernel_rfl) (by kernel_rfl) (by rfl) ?_ | (refine wpB_text 7 (v := ?_) rfl (by kernel_rfl) (by kernel_rfl) (by kernel_rfl) (by rfl) (fun W hW => ?_) ?_; rotate_left; (have k1 := hW; obtain ⟨hc1, hf1⟩ := bcell k1; go_simp; refine comes_v ?_; exact k1))
                (try simp only [Act.put, List.setIfInBounds_toArray, List.set_cons_zero, List.set_cons_succ])
                first | refine wpB_skip 8 rfl (by kernel_rfl) (by kernel_rfl) (by kernel_rfl) (by rfl) ?_ | (refine wpB_text 8 (v := .agg #[.int .i64 e1, .int .i64 e2]) rfl (by kernel_rfl) (by kernel_rfl) (by kernel_rfl) (by rfl) (fun W hW => ?_) ?_; (have k1 := hW; obtain ⟨hc1, hf1⟩ := bcell k1; go_simp; exact comes_c ( KM2.out _) (fun wn hbn => bt_keep' k1 hbn)))
                (try simp only [Act.put, List.setIfInBounds_toArray, List.set_cons_zero, List.set_cons_succ])
                first | refine wpB_skip 9 rfl (by kernel_rfl) (by kernel_rfl) (by kernel_rfl) (by rfl) ?_ | (refine wpB_text 9 (v := .bool true) rfl (by kernel_rfl) (by kernel_rfl) (by kernel_rfl) (by rfl) (fun W hW => ?_) ?_; (have k1 := hW; obtain ⟨hc1, hf1⟩ := bcell k1; go_simp; exact comes_c ( KH1.out _) (fun wn hbn => bt_keep' k1 hbn)))
                (try simp only [Act.put, List.setIfInBounds_toArray, List.set_cons_zero, List.set_cons_succ])
                first | refine wpB_skip 10 rfl (by kernel_rfl) (by kernel_rfl) (by kernel_rfl) (by rfl) ?_ | (refine wpB_text 10 (v := ?_) rfl (by kernel_rfl) (by kernel_rfl) (by kernel_rfl) (by rfl) (fun W hW => ?_) ?_; rotate_left; (have k1 := hW; obtain ⟨hc1, hf1⟩ := bcell k1; go_simp; refine comes_v ?_; exact k1))
                (try simp only [Act.put, List.setIfInBounds_toArray, List.set_cons_zero, List.set_cons_succ])
                first | refine wpB_skip 11 rfl (by kernel_rfl) (by kernel_rfl) (by kernel_rfl) (by rfl) ?_ | (refine wpB_text 11 (v := ?_) rfl (by kernel_rfl) (by kernel_rfl) (by kernel_rfl) (by rfl) (fun W hW => ?_) ?_; rotate_left; (have k1 := hW; obtain ⟨hc1, hf1⟩ := bcell k1; go_simp; refine comes_v ?_; exact k1))
                (try simp only [Act.put, List.setIfInBounds_toArray, List.set_cons_zero, List.set_cons_succ])
                refine wpB_done (by kernel_rfl) ?_ _
                intro W hW; have k1 := hW
                rename World => w5
                have L6 := Lib.hid (L5.out.up k1)
                clear r6 r7 s6 s7 t6 t7 yWd0_0 yWd0_1 k1 L5 KS1 KM2 KH1 KA1
                go_wp2_with fail
                go_roundg (n - (k + 1) - (m + 1))
                case measure => have := HGM.out; omega
                case rel => exact ⟨m + 1, _, rfl, by omega, rfl, by go_num, Lib.hid (by rw [HN2.out, HLL.out]; exact L6.out)⟩
              · have hof : oo = false := by simpa using ho
                subst hof
                have HY2 := Lib.hid (HY1.out (by rw [HC1.out]; rfl))
                clear HC1 HY1 HN1 ho
                refine wp_region_B (fun W => Below Wd.heap.size Wd W) (by kernel_rfl) (by repeat (first | exact Below.refl _ _ | apply Below.drew)) ?_
                first | refine wpB_skip 0 rfl (by kernel_rfl) (by kernel_rfl) (by kernel_rfl) (by rfl) ?_ | (refine wpB_text 0 (v := ?_) rfl (by kernel_rfl) (by kernel_rfl) (by kernel_rfl) (by rfl) (fun W hW => ?_) ?_; rotate_left; (have k1 := hW; obtain ⟨hc1, hf1⟩ := bcell k1; go_simp; refine comes_v ?_; exact k1))
                (try simp only [Act.put, List.setIfInBounds_toArray, List.set_cons_zero, List.set_cons_succ])
                first | refine wpB_skip 1 rfl (by kernel_rfl) (by kernel_rfl) (by kernel_rfl) (by rfl) ?_ | (refine wpB_text 1 (v := ?_) rfl (by kernel_rfl) (by kernel_rfl) (by kernel_rfl) (by rfl) (fun W hW => ?_) ?_; rotate_left; (have k1 := hW; obtain ⟨hc1, hf1⟩ := bcell k1; go_simp; refine comes_v ?_; exact k1))
                (try simp only [Act.put, List.setIfInBounds_toArray, List.set_cons_zero, List.set_cons_succ])
                first | refine wpB_skip 2 rfl (by kernel_rfl) (by kernel_rfl) (by kernel_rfl) (by rfl) ?_ | (refine wpB_text 2 (v := .int .i64 1) rfl (by kernel_rfl) (by kernel_rfl) (by kernel_rfl) (by rfl) (fun W hW => ?_) ?_; (have k1 := hW; obtain ⟨hc1, hf1⟩ := bcell k1; go_simp; exact comes_c ( KS1.out _) (fun wn hbn => bt_keep' k1 hbn)))
                (try simp only [Act.put, List.setIfInBounds_toArray, List.set_cons_zero, List.set_cons_succ])
                first | refine wpB_skip 3 rfl (by kernel_rfl) (by kernel_rfl) (by kernel_rfl) (by rfl) ?_ | (refine wpB_text 3 (v := ?_) rfl (by kernel_rfl) (by kernel_rfl) (by kernel_rfl) (by rfl) (fun W hW => ?_) ?_; rotate_left; (have k1 := hW; obtain ⟨hc1, hf1⟩ := bcell k1; go_simp; refine comes_v ?_; exact k1))
                (try simp only [Act.put, List.setIfInBounds_toArray, List.set_cons_zero, List.set_cons_succ])
                first | refine wpB_skip 4 rfl (by kernel_rfl) (by kernel_rfl) (by kernel_rfl) (by rfl) ?_ | (refine wpB_text 4 (v := ?_) rfl (by kernel_rfl) (by kernel_rfl) (by kernel_rfl) (by rfl) (fun W hW => ?_) ?_; rotate_left; (have k1 := hW; obtain ⟨hc1, hf1⟩ := bcell k1; go_simp; refine comes_v ?_; exact k1))
                (try simp only [Act.put, List.setIfInBounds_toArray, List.set_cons_zero, List.set_cons_succ])
                first | refine wpB_skip 5 rfl (by kernel_rfl) (by kernel_rfl) (by kernel_rfl) (by rfl) ?_ | (refine wpB_text 5 (v := ?_) rfl (by kernel_rfl) (by kernel_rfl) (by kernel_rfl) (by rfl) (fun W hW => ?_) ?_; rotate_left; (have k1 := hW; obtain ⟨hc1, hf1⟩ := bcell k1; go_simp; refine comes_v ?_; exact k1))
                (try simp only [Act.put, List.setIfInBounds_toArray, List.set_cons_zero, List.set_cons_succ])
                first | refine wpB_skip 6 rfl (by kernel_rfl) (by kernel_rfl) (by kernel_rfl) (by rfl) ?_ | (refine wpB_text 6 (v := ?_) rfl (by kernel_rfl) (by kernel_rfl) (by kernel_rfl) (by rfl) (fun W hW => ?_) ?_; rotate_left; (have k1 := hW; obtain ⟨hc1, hf1⟩ := bcell k1; go_simp; refine comes_v ?_; exact k1))
                (try simp only [Act.put, List.setIfInBounds_toArray, List.set_cons_zero, List.set_cons_succ])
                first | refine wpB_skip 7 rfl (by kernel_rfl) (by kernel_rfl) (by kernel_rfl) (by rfl) ?_ | (refine wpB_text 7 (v := ?_) rfl (by kernel_rfl) (by kernel_rfl) (by kernel_rfl) (by rfl) (fun W hW => ?_) ?_; rotate_left; (have k1 := hW; obtain ⟨hc1, hf1⟩ := bcell k1; go_simp; refine comes_v ?_; exact k1))
                (try simp only [Act.put, List.setIfInBounds_toArray, List.set_cons_zero, List.set_cons_succ])
                first | refine wpB_skip 8 rfl (by kernel_rfl) (by kernel_rfl) (by kernel_rfl) (by rfl) ?_ | (refine wpB_text 8 (v := .agg #[.int .i64 e1, .int .i64 e2]) rfl (by kernel_rfl) (by kernel_rfl) (by kernel_rfl) (by rfl) (fun W hW => ?_) ?_; (have k1 := hW; obtain ⟨hc1, hf1⟩ := bcell k1; go_simp; exact comes_c ( KM2.out _) (fun wn hbn => bt_keep' k1 hbn)))
                (try simp only [Act.put, List.setIfInBounds_toArray, List.set_cons_zero, List.set_cons_succ])
                first | refine wpB_skip 9 rfl (by kernel_rfl) (by kernel_rfl) (by kernel_rfl) (by rfl) ?_ | (refine wpB_text 9 (v := .bool false) rfl (by kernel_rfl) (by kernel_rfl) (by kernel_rfl) (by rfl) (fun W hW => ?_) ?_; (have k1 := hW; obtain ⟨hc1, hf1⟩ := bcell k1; go_simp; exact comes_c ( KH1.out _) (fun wn hbn => bt_keep' k1 hbn)))
                (try simp only [Act.put, List.setIfInBounds_toArray, List.set_cons_zero, List.set_cons_succ])
                first | refine wpB_skip 10 rfl (by kernel_rfl) (by kernel_rfl) (by kernel_rfl) (by rfl) ?_ | (refine wpB_text 10 (v := ?_) rfl (by kernel_rfl) (by kernel_rfl) (by kernel_rfl) (by rfl) (fun W hW => ?_) ?_; rotate_left; (have k1 := hW; obtain ⟨hc1, hf1⟩ := bcell k1; go_simp; refine comes_v ?_; exact k1))
                (try simp only [Act.put, List.setIfInBounds_toArray, List.set_cons_zero, List.set_cons_succ])
                first | refine wpB_skip 11 rfl (by kernel_rfl) (by kernel_rfl) (by kernel_rfl) (by rfl) ?_ | (refine wpB_text 11 (v := ?_) rfl (by kernel_rfl) (by kernel_rfl) (by kernel_rfl) (by rfl) (fun W hW => ?_) ?_; rotate_left; (have k1 := hW; obtain ⟨hc1, hf1⟩ := bcell k1; go_simp; refine comes_v ?_; exact k1))
                (try simp only [Act.put, List.setIfInBounds_toArray, List.set_cons_zero, List.set_cons_succ])
                refine wpB_done (by kernel_rfl) ?_ _
                intro W hW; have k1 := hW
                rename World => w5
                have L6 := Lib.hid (L5.out.up k1)
                have r8 := ((bcell k1).1 _ 0 zi5).trans r6
                have r9 := ((bcell k1).1 _ 1 zi5).trans r7
                have s8 := L6.out.box.c0
                have s9 := L6.out.box.c1
                have t8 := ((bcell k1).1 _ 0 zWd0).trans yWd0_0
                have t9 := ((bcell k1).1 _ 1 zWd0).trans yWd0_1
                have zx6 := L6.out.box.hi
                have zi6 := Nat.lt_of_lt_of_le zi5 k1.size
                have zd6 := Nat.lt_of_lt_of_le zWd0 k1.size
                clear r6 r7 s6 s7 t6 t7 yWd0_0 yWd0_1 k1 L5 KS1 KM2 KH1 zx5 zi5 zb5 zWd0
                go_wp2_with fail
                refine wp_region_AP 7 (fun W => Below (w5).heap.size (w5) W) (by kernel_rfl) (by kernel_rfl) (by repeat (first | exact Below.refl _ _ | apply Below.drew)) rfl rfl (by kernel_rfl) (fun _ => by rfl) (by rfl) (fun _ => by rfl) ?_
                (try simp only [Act.put, List.setIfInBounds_toArray, List.set_cons_zero, List.set_cons_succ])
                first | refine wpH_skip (by rfl) ?_ | (refine wpH_text (v := ?_) (by rfl) (fun W k1 => ?_) ?_; rotate_left; (obtain ⟨hc1, hf1⟩ := bcell k1;  go_simp; refine comes_v ?_; exact k1))
                (try simp only [Act.put, List.setIfInBounds_toArray, List.set_cons_zero, List.set_cons_succ])
                first | refine wpH_skip (by rfl) ?_ | (refine wpH_text (v := ?_) (by rfl) (fun W k1 => ?_) ?_; rotate_left; (obtain ⟨hc1, hf1⟩ := bcell k1;  go_simp; refine comes_v ?_; exact k1))
                (try simp only [Act.put, List.setIfInBounds_toArray, List.set_cons_zero, List.set_cons_succ])
                first | refine wpH_skip (by rfl) ?_ | (refine wpH_text (v := ?_) (by rfl) (fun W k1 => ?_) ?_; rotate_left; (obtain ⟨hc1, hf1⟩ := bcell k1;  go_simp; refine comes_v ?_; exact k1))
                (try simp only [Act.put, List.setIfInBounds_toArray, List.set_cons_zero, List.set_cons_succ])
                first | refine wpH_skip (by rfl) ?_ | (refine wpH_text (v := ?_) (by rfl) (fun W k1 => ?_) ?_; rotate_left; (obtain ⟨hc1, hf1⟩ := bcell k1;  go_simp; refine comes_v ?_; exact k1))
                (try simp only [Act.put, List.setIfInBounds_toArray, List.set_cons_zero, List.set_cons_succ])
                first | refine wpH_skip (by rfl) ?_ | (refine wpH_text (v := .int .i64 (al : Int)) (by rfl) (fun W k1 => ?_) ?_; (obtain ⟨hc1, hf1⟩ := bcell k1;  go_simp; exact comes_c ( KA1.out _) (fun wn hbn => k1.trans (hbn.mono k1.size))))
                (try simp only [Act.put, List.setIfInBounds_toArray, List.set_cons_zero, List.set_cons_succ])
                first | refine wpH_skip (by rfl) ?_ | (refine wpH_text (v := ?_) (by rfl) (fun W k1 => ?_) ?_; rotate_left; (obtain ⟨hc1, hf1⟩ := bcell k1;  go_simp; refine comes_v ?_; exact k1))
                (try simp only [Act.put, List.setIfInBounds_toArray, List.set_cons_zero, List.set_cons_succ])
                refine wpH_nil ?_
                intro W k1; obtain ⟨hc1, hf1⟩ := bcell k1
                refine ⟨.slice (some ⟨W.heap.size, 0, none⟩) 1 1, W.alloc (.cells #[.int .i64 d1, .int .i64 d2, .int .i64 (al : Int)] 64), (by go_simp), ?_⟩
                (try simp only [Act.put, List.setIfInBounds_toArray, List.set_cons_zero, List.set_cons_succ])
                have L7 := Lib.hid ((L6.out.up k1).up (Below.alloc (Below.refl _ _) (Nat.le_refl _) (.cells #[.int .i64 d1, .int .i64 d2, .int .i64 (al : Int)] 64)))
                have z7 := L7.out.bel.size
                have hr7 := L7.out.row
                unfold RowT at hr7
                have HR7 := Lib.hid hr7
                clear hc1 hf1 hr7 L6 r8 r9 s8 s9 t8 t9 k1 KA1
                go_wp2_with (at_builtin; refine wpList_append_own_at _ rfl (.tmp 43) (.tmp 50) 60 rfl w1.heap.size 64 i0 (.agg #[.int .i64 0, .int .i64 0, .int .i64 0]) 3 24 Try.underlying60 HI.out.1 HI.out.2.1 HI.out.2.2.1 HI.out.2.2.2 rfl (by decide) u LL.length (flat3 LL) rfl HR7.out ⟨W.heap.size, 0, none⟩ 1 1 [.int .i64 d1, .int .i64 d2, .int .i64 (al : Int)] rfl rfl (three_cells (by go_simp) (by go_simp) (by go_simp)) (three_one _ _ _) (by unfold maxLen; omega) (by omega) z7 ?_)
                intro v' w9 own9 hgr9 _ hat
                have L9 := Lib.hid (L7.out.push (p := (d1, d2, (al : Int))) own9 hgr9 (by simpa using hat))
                clear own9 hgr9 hat HR7 L7
                go_wp2_with fail
                go_roundg (n - (k + 1) - (m + 1))
                case measure => have := HGM.out; omega
                case rel => exact ⟨m + 1, _, rfl, by omega, rfl, by go_num, Lib.hid (by rw [HY2.out, ← List.append_assoc, HLL.out]; exact L9.out)⟩
            · have HN2 := Lib.hid (HN1.out (by rw [HC1.out]; simp [hs]))
              have hs1 : decide (sN = 1) = false := by simpa using hs
              have hs2 : (sN == (1 : Int)) = false := by simpa using hs
              clear HC1 HY1 HN1
              refine wp_region_B (fun W => Below Wd.heap.size Wd W) (by kernel_rfl) (by repeat (first | exact Below.refl _ _ | apply Below.drew)) ?_
              first | refine wpB_skip 0 rfl (by kernel_rfl) (by kernel_rfl) (by kernel_rfl) (by rfl) ?_ | (refine wpB_text 0 (v := ?_) rfl (by kernel_rfl) (by kernel_rfl) (by kernel_rfl) (by rfl) (fun W hW => ?_) ?_; rotate_left; (have k1 := hW; obtain ⟨hc1, hf1⟩ := bcell k1; go_simp; refine comes_v ?_; exact k1))
              (try simp only [Act.put, List.setIfInBounds_toArray, List.set_cons_zero, List.set_cons_succ])
              first | refine wpB_skip 1 rfl (by kernel_rfl) (by kernel_rfl) (by kernel_rfl) (by rfl) ?_ | (refine wpB_text 1 (v := ?_) rfl (by kernel_rfl) (by kernel_rfl) (by kernel_rfl) (by rfl) (fun W hW => ?_) ?_; rotate_left; (have k1 := hW; obtain ⟨hc1, hf1⟩ := bcell k1; go_simp; refine comes_v ?_; exact k1))
              (try simp only [Act.put, List.setIfInBounds_toArray, List.set_cons_zero, List.set_cons_succ])
              first | refine wpB_skip 2 rfl (by kernel_rfl) (by kernel_rfl) (by kernel_rfl) (by rfl) ?_ | (refine wpB_text 2 (v := .int .i64 sN) rfl (by kernel_rfl) (by kernel_rfl) (by kernel_rfl) (by rfl) (fun W hW => ?_) ?_; (have k1 := hW; obtain ⟨hc1, hf1⟩ := bcell k1; go_simp; exact comes_c ( KS1.out _) (fun wn hbn => bt_keep' k1 hbn)))
              (try simp only [Act.put, List.setIfInBounds_toArray, List.set_cons_zero, List.set_cons_succ])
              first | refine wpB_skip 3 rfl (by kernel_rfl) (by kernel_rfl) (by kernel_rfl) (by rfl) ?_ | (refine wpB_text 3 (v := ?_) rfl (by kernel_rfl) (by kernel_rfl) (by kernel_rfl) (by rfl) (fun W hW => ?_) ?_; rotate_left; (have k1 := hW; obtain ⟨hc1, hf1⟩ := bcell k1; go_simp; refine comes_v ?_; exact k1))
              (try simp only [Act.put, List.setIfInBounds_toArray, List.set_cons_zero, List.set_cons_succ])
              first | refine wpB_skip 4 rfl (by kernel_rfl) (by kernel_rfl) (by kernel_rfl) (by rfl) ?_ | (refine wpB_text 4 (v := ?_) rfl (by kernel_rfl) (by kernel_rfl) (by kernel_rfl) (by rfl) (fun W hW => ?_) ?_; rotate_left; (have k1 := hW; obtain ⟨hc1, hf1⟩ := bcell k1; go_simp; refine comes_v ?_; exact k1))
              (try simp only [Act.put, List.setIfInBounds_toArray, List.set_cons_zero, List.set_cons_succ])
              first | refine wpB_skip 5 rfl (by kernel_rfl) (by kernel_rfl) (by kernel_rfl) (by rfl) ?_ | (refine wpB_text 5 (v := ?_) rfl (by kernel_rfl) (by kernel_rfl) (by kernel_rfl) (by rfl) (fun W hW => ?_) ?_; rotate_left; (have k1 := hW; obtain ⟨hc1, hf1⟩ := bcell k1; go_simp; refine comes_v ?_; exact k1))
              (try simp only [Act.put, List.setIfInBounds_toArray, List.set_cons_zero, List.set_cons_succ])
              first | refine wpB_skip 6 rfl (by kernel_rfl) (by kernel_rfl) (by kernel_rfl) (by rfl) ?_ | (refine wpB_text 6 (v := ?_) rfl (by kernel_rfl) (by kernel_rfl) (by kernel_rfl) (by rfl) (fun W hW => ?_) ?_; rotate_left; (have k1 := hW; obtain ⟨hc1, hf1⟩ := bcell k1; go_simp; refine comes_v ?_; exact k1))
              (try simp only [Act.put, List.setIfInBounds_toArray, List.set_cons_zero, List.set_cons_succ])
              first | refine wpB_skip 7 rfl (by kernel_rfl) (by kernel_rfl) (by kernel_rfl) (by rfl) ?_ | (refine wpB_text 7 (v := ?_) rfl (by kernel_rfl) (by kernel_rfl) (by kernel_rfl) (by rfl) (fun W hW => ?_) ?_; rotate_left; (have k1 := hW; obtain ⟨hc1, hf1⟩ := bcell k1; go_simp; refine comes_v ?_; exact k1))
              (try simp only [Act.put, List.setIfInBounds_toArray, List.set_cons_zero, List.set_cons_succ])
              first | refine wpB_skip 8 rfl (by kernel_rfl) (by kernel_rfl) (by kernel_rfl) (by rfl) ?_ | (refine wpB_text 8 (v := ?_) rfl (by kernel_rfl) (by kernel_rfl) (by kernel_rfl) (by rfl) (fun W hW => ?_) ?_; rotate_left; (have k1 := hW; obtain ⟨hc1, hf1⟩ := bcell k1; go_simp; refine comes_v ?_; exact k1))
              (try simp only [Act.put, List.setIfInBounds_toArray, List.set_cons_zero, List.set_cons_succ])
              first | refine wpB_skip 9 rfl (by kernel_rfl) (by kernel_rfl) (by kernel_rfl) (by rfl) ?_ | (refine wpB_text 9 (v := ?_) rfl (by kernel_rfl) (by kernel_rfl) (by kernel_rfl) (by rfl) (fun W hW => ?_) ?_; rotate_left; (have k1 := hW; obtain ⟨hc1, hf1⟩ := bcell k1; go_simp; refine comes_v ?_; exact k1))
              (try simp only [Act.put, List.setIfInBounds_toArray, List.set_cons_zero, List.set_cons_succ])
              first | refine wpB_skip 10 rfl (by kernel_rfl) (by kernel_rfl) (by kernel_rfl) (by rfl) ?_ | (refine wpB_text 10 (v := ?_) rfl (by kernel_rfl) (by kernel_rfl) (by kernel_rfl) (by rfl) (fun W hW => ?_) ?_; rotate_left; (have k1 := hW; obtain ⟨hc1, hf1⟩ := bcell k1; go_simp; refine comes_v ?_; exact k1))
              (try simp only [Act.put, List.setIfInBounds_toArray, List.set_cons_zero, List.set_cons_succ])
              first | refine wpB_skip 11 rfl (by kernel_rfl) (by kernel_rfl) (by kernel_rfl) (by rfl) ?_ | (refine wpB_text 11 (v := ?_) rfl (by kernel_rfl) (by kernel_rfl) (by kernel_rfl) (by rfl) (fun W hW => ?_) ?_; rotate_left; (have k1 := hW; obtain ⟨hc1, hf1⟩ := bcell k1; go_simp; refine comes_v ?_; exact k1))
              (try simp only [Act.put, List.setIfInBounds_toArray, List.set_cons_zero, List.set_cons_succ])
              refine wpB_done (by kernel_rfl) ?_ _
              intro W hW; have k1 := hW
              rename World => w5
              have L6 := Lib.hid (L5.out.up k1)
              clear r6 r7 s6 s7 t6 t7 yWd0_0 yWd0_1 k1 L5 KS1 KM2 KH1 KA1
              go_wp2_with fail
              go_roundg (n - (k + 1) - (m + 1))
              case measure => have := HGM.out; omega
              case rel => exact ⟨m + 1, _, rfl, by omega, rfl, by go_num, Lib.hid (by rw [HN2.out, HLL.out]; exact L6.out)⟩
          · have hmn : m = n - (k + 1) := by omega
            have HSe : Hid (SS (k + 1) = SS k ++ RR k m) := Lib.hid (by rw [HSk.out, hmn, show n - 1 - k = n - (k + 1) by omega])
            have hmi : ¬ (m : Int) < (n : Int) - ((k : Int) + 1) := by omega
            clear hmn
            go_wp2_with fail
            go_roundg (n - (k + 1))
            case measure => have := HGK.out; omega
            case rel => exact ⟨k + 1, _, rfl, by omega, rfl, by go_num, hL.out.bel, Lib.hid (by rw [HSe.out]; exact hL.out.row)⟩
    · obtain rfl : k = n := by omega
      have HF : Hid (RetT w (SS k) (.returned v) wo) := Lib.hid ⟨v, rfl, BB.trans (hB.mono BB.size), rowT_base hr.out BB.size⟩
      go_wp2_with fail
      go_ret
      exact HF.out
end Go.Proofs.Ytmhdbodmpohdnaa
/- a set of points: a map with points as keys -/
namespace Go.Proofs.Ytmhdbodmpohdnaa
open Go.ChangeShapes Go.WideShapes Go.ChangeAt Go.RowKit Go.Joins
set_option linter.unusedVariables false
set_option linter.unusedSimpArgs false
set_option maxRecDepth 4000
open Go.Maps (Tidy has size)
open Go.WideMaps (KeyLaw)
theorem laidOutT : laidOutB Try.prog = true := by kernel_rfl
theorem rowPeg : (28 : TypeId) < Try.prog.types.size := of_decide_eq_true (by kernel_rfl)
theorem widePeg : (match Try.prog.underlying 28 with | some (.array _ _) | some (.struct _) => true | _ => false) = true := by rw [Try.underlying28]
theorem lawPeg : Go.Maps.Keyed Try.prog 28 := Go.Maps.Keyed.of_law (deep_law_laid laidOutT (m := 2) (by omega) rowPeg (by kernel_rfl) widePeg)
theorem cellsPeg : Try.prog.cellsOf 28 = 2 := by kernel_rfl
theorem cells3 : Try.prog.cellsOf 3 = 1 := by kernel_rfl
theorem typePeg : Try.prog.keyType 28 = true := by kernel_rfl
theorem key_of {a b : Int} (ha : (Lit.int .i64 a).wf = true) (hb : (Lit.int .i64 b).wf = true) : ∃ l, keyOf Try.prog 28 (.agg #[.int .i64 a, .int .i64 b]) = some l := by
  unfold keyOf
  rw [Try.underlying28]
  simp only [typePeg, Bool.true_and]
  have hf : (Value.agg #[.int .i64 a, .int .i64 b]).formed Try.prog 28 = true := by simp [Value.formed, Try.underlying28, cellsPeg]
  rw [if_pos hf]
  have hk : ∃ ls, Try.prog.keyLits (Try.prog.types.size + 1) 28 (Value.agg #[.int .i64 a, .int .i64 b]).cells.toList = some ls := by
    obtain ⟨n, hn⟩ : ∃ n, Try.prog.types.size = n + 1 := ⟨Try.prog.types.size - 1, by have h : (28 : Nat) < Try.prog.types.size := rowPeg; omega⟩
    rw [hn]
    simp [Program.keyLits, Try.underlying28, cellsPeg, cells3, Try.underlying3, Value.cells, ha, hb]
  obtain ⟨ls, hl⟩ := hk
  exact ⟨_, by rw [hl]; rfl⟩
def addP (L : List (Int × Int)) (p : Int × Int) : List (Int × Int) := if p ∈ L then L else L ++ [p]
/-- the steps of a list of lines, each once -/
def ddL (M : List (Int × Int × Int)) : List (Int × Int) := M.foldl (fun L p => addP L (p.1, p.2.1)) []
theorem ddL_snoc (M : List (Int × Int × Int)) (p : Int × Int × Int) : ddL (M ++ [p]) = addP (ddL M) (p.1, p.2.1) := by unfold ddL; rw [List.foldl_append]; rfl
theorem addP_len (L : List (Int × Int)) (p : Int × Int) : (addP L p).length ≤ L.length + 1 := by unfold addP; split <;> simp
theorem ddL_len (M : List (Int × Int × Int)) : ∀ k, k ≤ M.length → (ddL (M.take k)).length ≤ k
  | 0, _ => by simp [ddL]
  | k + 1, hk => by
    have h1 := ddL_len M k (by omega)
    rw [List.take_add_one, List.getElem?_eq_getElem (by omega)]
    show (ddL (M.take k ++ [M[k]])).length ≤ k + 1
    rw [ddL_snoc]
    have := addP_len (ddL (M.take k)) (M[k].1, M[k].2.1)
    omega
/-- a set of points of one's own -/
def MapP (W : World) (b n : Nat) (L : List (Int × Int)) : Prop :=
  ∃ D : DataW Unit, W.ownsMap Try.prog 28 (plainElem Try.prog 4) b n D ∧ Tidy D ∧ size D = L.length ∧ ∀ (p : Int × Int) l, keyOf Try.prog 28 (.agg #[.int .i64 p.1, .int .i64 p.2]) = some l → has D l = decide (p ∈ L)
theorem MapP.same {W W' : World} {b n : Nat} {L : List (Int × Int)} (h : MapP W b n L) (e : W'.heap[b]? = W.heap[b]?) : MapP W' b n L := by
  obtain ⟨D, ⟨es, ck, h1, h2⟩, h3⟩ := h
  exact ⟨D, ⟨es, ck, e.trans h1, h2⟩, h3⟩
theorem MapP.lt {W : World} {b n : Nat} {L : List (Int × Int)} (h : MapP W b n L) : b < W.heap.size := by
  obtain ⟨D, ⟨es, ck, h1, h2⟩, h3⟩ := h
  exact (Array.getElem?_eq_some_iff.1 h1).1
theorem MapP.below {W W' : World} {b n : Nat} {L : List (Int × Int)} (h : MapP W b n L) (hb : Below W.heap.size W W') : MapP W' b n L := h.same (hb.block b h.lt)
theorem MapP.new (W : World) : MapP (W.alloc (.map #[] 0)) W.heap.size 0 [] :=
  ⟨.map [], World.ownsMap_made W Try.prog 28 (plainElem Try.prog 4), ⟨_, rfl, List.Pairwise.nil⟩, rfl, fun p l _ => rfl⟩
theorem MapP.put {W' : World} {b n : Nat} {L : List (Int × Int)} {D : DataW Unit} {p : Int × Int} {l : Lit} (h2 : Tidy D) (h3 : size D = L.length)
    (h4 : ∀ (p : Int × Int) l, keyOf Try.prog 28 (.agg #[.int .i64 p.1, .int .i64 p.2]) = some l → has D l = decide (p ∈ L))
    (hk : keyOf Try.prog 28 (.agg #[.int .i64 p.1, .int .i64 p.2]) = some l)
    (h : W'.ownsMap Try.prog 28 (plainElem Try.prog 4) b n (D.put l (.lit (.bool true)))) : MapP W' b n (addP L p) := by
  refine ⟨_, h, h2.put (lawPeg.key hk) _, ?_, fun q l' hq => ?_⟩
  · rw [Go.Maps.size_put h2, h4 p l hk, h3]
    unfold addP
    by_cases e : p ∈ L
    · rw [if_pos (by simpa using e), if_pos e]
    · rw [if_neg (by simpa using e), if_neg e]; simp
  · by_cases e : q = p
    · subst e
      obtain rfl : l' = l := by rw [hk] at hq; injection hq with q1; exact q1.symm
      rw [Go.Maps.has_put_same h2.isMap (lawPeg.key hk)]
      unfold addP
      by_cases g : q ∈ L
      · rw [if_pos g]; simp [g]
      · rw [if_neg g]; simp
    · have hne : l' ≠ l := by
        rintro rfl
        have := lawPeg.inj hq hk
        injection this with q1
        have q2 := congrArg Array.toList q1
        simp at q2
        exact e (Prod.ext q2.1 q2.2)
      rw [Go.Maps.has_put_other hne, h4 q l' hq]
      unfold addP
      by_cases g : p ∈ L
      · rw [if_pos g]
      · rw [if_neg g]; simp [e]
end Go.Proofs.Ytmhdbodmpohdnaa
/- plain: slopes: the steps of lines, each once -/
namespace Go.Proofs.Ytmhdbodmpohdnaa
open Go.ChangeShapes Go.WideShapes Go.ChangeAt Go.RowKit Go.Joins
set_option linter.unusedVariables false
set_option linter.unusedSimpArgs false
set_option maxRecDepth 4000
def cE (x y : Nat) : List (Int × Int) := if gcI x y = 1 then (if 0 < x ∧ 0 < y then [((x : Int), (y : Int)), ((x : Int), -(y : Int))] else [((x : Int), (y : Int))]) else []
def cR (x : Nat) : Nat → List (Int × Int)
  | 0 => []
  | y + 1 => cR x y ++ cE x y
def cS (h : Nat) : Nat → List (Int × Int)
  | 0 => []
  | x + 1 => cS h x ++ cR x h
theorem mem_cE {x y : Nat} {p : Int × Int} (hp : p ∈ cE x y) : p.1 = (x : Int) ∧ p.2.natAbs = y ∧ gcI x y = 1 := by
  unfold cE at hp
  split at hp
  · split at hp
    · simp at hp
      rcases hp with rfl | rfl <;> simp_all
    · simp at hp
      subst hp
      simp_all
  · simp at hp
theorem nodup_cE (x y : Nat) : (cE x y).Nodup := by
  unfold cE
  split
  · split
    · simp
      omega
    · simp
  · simp
theorem mem_cR {x : Nat} {p : Int × Int} : ∀ {n : Nat}, p ∈ cR x n ↔ ∃ y, y < n ∧ p ∈ cE x y
  | 0 => by simp [cR]
  | n + 1 => by
    rw [cR, List.mem_append, mem_cR]
    constructor
    · rintro (⟨y, h1, h2⟩ | h)
      · exact ⟨y, by omega, h2⟩
      · exact ⟨n, by omega, h⟩
    · rintro ⟨y, h1, h2⟩
      by_cases e : y = n
      · subst e; exact .inr h2
      · exact .inl ⟨y, by omega, h2⟩
theorem mem_cS {h : Nat} {p : Int × Int} : ∀ {n : Nat}, p ∈ cS h n ↔ ∃ x y, x < n ∧ y < h ∧ p ∈ cE x y
  | 0 => by simp [cS]
  | n + 1 => by
    rw [cS, List.mem_append, mem_cS, mem_cR]
    constructor
    · rintro (⟨x, y, h1, h2, h3⟩ | ⟨y, h1, h2⟩)
      · exact ⟨x, y, by omega, h2, h3⟩
      · exact ⟨n, y, by omega, h1, h2⟩
    · rintro ⟨x, y, h1, h2, h3⟩
      by_cases e : x = n
      · subst e; exact .inr ⟨y, h2, h3⟩
      · exact .inl ⟨x, y, by omega, h2, h3⟩
theorem nodup_cR (x : Nat) : ∀ n, (cR x n).Nodup
  | 0 => by simp [cR]
  | n + 1 => by
    rw [cR, List.nodup_append]
    refine ⟨nodup_cR x n, nodup_cE x n, fun a ha b hb e => ?_⟩
    subst e
    obtain ⟨y, h1, h2⟩ := mem_cR.1 ha
    have := (mem_cE h2).2.1
    have := (mem_cE hb).2.1
    omega
theorem nodup_cS (h : Nat) : ∀ n, (cS h n).Nodup
  | 0 => by simp [cS]
  | n + 1 => by
    rw [cS, List.nodup_append]
    refine ⟨nodup_cS h n, nodup_cR n h, fun a ha b hb e => ?_⟩
    subst e
    obtain ⟨x, y, h1, h2, h3⟩ := mem_cS.1 ha
    obtain ⟨y', h4, h5⟩ := mem_cR.1 hb
    have := (mem_cE h3).1
    have := (mem_cE h5).1
    omega
theorem nodup_addP {L : List (Int × Int)} (hL : L.Nodup) (p : Int × Int) : (addP L p).Nodup := by
  unfold addP
  split
  · exact hL
  · rename_i g
    rw [List.nodup_append]
    refine ⟨hL, by simp, fun a ha b hb e => ?_⟩
    simp at hb
    subst hb
    subst e
    exact g ha
theorem mem_addP {L : List (Int × Int)} {p q : Int × Int} : q ∈ addP L p ↔ q ∈ L ∨ q = p := by
  unfold addP
  split
  · rename_i g
    constructor
    · exact .inl
    · rintro (h | rfl)
      · exact h
      · exact g
  · simp
theorem ddL_fold (M : List (Int × Int × Int)) : ∀ L : List (Int × Int), L.Nodup → (M.foldl (fun L p => addP L (p.1, p.2.1)) L).Nodup ∧ ∀ q, q ∈ M.foldl (fun L p => addP L (p.1, p.2.1)) L ↔ q ∈ L ∨ ∃ e ∈ M, q = (e.1, e.2.1) := by
  induction M with
  | nil => intro L hL; exact ⟨hL, fun q => by simp⟩
  | cons e M ih =>
    intro L hL
    rw [List.foldl_cons]
    obtain ⟨h1, h2⟩ := ih (addP L (e.1, e.2.1)) (nodup_addP hL _)
    refine ⟨h1, fun q => ?_⟩
    rw [h2 q, mem_addP]
    constructor
    · rintro ((h | h) | ⟨x, hx, h⟩)
      · exact .inl h
      · exact .inr ⟨e, by simp, h⟩
      · exact .inr ⟨x, by simp [hx], h⟩
    · rintro (h | ⟨x, hx, h⟩)
      · exact .inl (.inl h)
      · rcases List.mem_cons.1 hx with rfl | hx
        · exact .inl (.inr h)
        · exact .inr ⟨x, hx, h⟩
theorem mem_stR {w h k : Nat} {e : Int × Int × Int} : ∀ {n : Nat}, e ∈ stR w h k n ↔ ∃ j, j < n ∧ stC w h k (k + 1 + j) = true ∧ e = stE w h k (k + 1 + j)
  | 0 => by simp [stR]
  | n + 1 => by
    rw [stR]
    constructor
    · intro q
      split at q
      · rename_i g
        rcases List.mem_append.1 q with q | q
        · obtain ⟨j, h1, h2, h3⟩ := mem_stR.1 q
          exact ⟨j, by omega, h2, h3⟩
        · simp at q
          exact ⟨n, by omega, g, q⟩
      · obtain ⟨j, h1, h2, h3⟩ := mem_stR.1 q
        exact ⟨j, by omega, h2, h3⟩
    · rintro ⟨j, h1, h2, h3⟩
      by_cases e' : j = n
      · subst e'
        rw [if_pos h2]
        exact List.mem_append.2 (.inr (by simp [h3]))
      · have q : e ∈ stR w h k n := mem_stR.2 ⟨j, by omega, h2, h3⟩
        split
        · exact List.mem_append.2 (.inl q)
        · exact q
theorem mem_stS {w h : Nat} {e : Int × Int × Int} : ∀ {n : Nat}, n ≤ w * h → (e ∈ stS w h n ↔ ∃ k m, k < n ∧ k < m ∧ m < w * h ∧ stC w h k m = true ∧ e = stE w h k m)
  | 0, _ => by simp [stS]
  | n + 1, hn => by
    rw [stS, List.mem_append, mem_stS (by omega), mem_stR]
    constructor
    · rintro (⟨k, m, h1, h2, h3, h4, h5⟩ | ⟨j, h1, h2, h3⟩)
      · exact ⟨k, m, by omega, h2, h3, h4, h5⟩
      · exact ⟨n, n + 1 + j, by omega, by omega, by omega, h2, h3⟩
    · rintro ⟨k, m, h1, h2, h3, h4, h5⟩
      by_cases e' : k = n
      · subst e'
        refine .inr ⟨m - (k + 1), by omega, ?_, ?_⟩
        · rw [show k + 1 + (m - (k + 1)) = m by omega]; exact h4
        · rw [show k + 1 + (m - (k + 1)) = m by omega]; exact h5
      · exact .inl ⟨k, m, by omega, h2, h3, h4, h5⟩
theorem stC_true {w h k m : Nat} : stC w h k m = true ↔ stepN (bX h k).1 (bX h k).2 (bX h m).1 (bX h m).2 = 1 ∧ onQ w h ((bX h k).1 - ((bX h m).1 - (bX h k).1)) ((bX h k).2 - ((bX h m).2 - (bX h k).2)) = false := by
  rw [stC_eq]
  simp
theorem slope_mem {w h : Nat} (hh : 0 < h) (p : Int × Int) : p ∈ ddL (stS w h (w * h)) ↔ p ∈ cS h w := by
  have hf := (ddL_fold (stS w h (w * h)) [] List.nodup_nil).2 p
  rw [show p ∈ ddL (stS w h (w * h)) ↔ _ from hf, mem_cS]
  simp only [List.not_mem_nil, false_or]
  constructor
  · rintro ⟨e, he, rfl⟩
    obtain ⟨k, m, h1, h2, h3, h4, rfl⟩ := (mem_stS (Nat.le_refl _)).1 he
    obtain ⟨g1, g2⟩ := stC_true.1 h4
    have b1 := bX_bd h1
    have b2 := bX_bd h3
    have b3 := bX_lt h2 hh
    rw [stE_eq]
    simp only
    have e1 : stepN (bX h k).1 (bX h k).2 (bX h m).1 (bX h m).2 = gcI ((bX h m).1 - (bX h k).1).toNat ((bX h m).2 - (bX h k).2).natAbs := by
      unfold stepN gcI
      rw [show ((bX h k).1 - (bX h m).1).natAbs = ((bX h m).1 - (bX h k).1).toNat by omega, show ((bX h k).2 - (bX h m).2).natAbs = ((bX h m).2 - (bX h k).2).natAbs by omega]
    rw [e1] at g1
    refine ⟨((bX h m).1 - (bX h k).1).toNat, ((bX h m).2 - (bX h k).2).natAbs, by omega, by omega, ?_⟩
    unfold cE
    rw [if_pos g1]
    generalize (bX h m).1 - (bX h k).1 = dx at *
    generalize (bX h m).2 - (bX h k).2 = dy at *
    split
    · rcases Int.le_total 0 dy with z | z
      · refine List.mem_cons.2 (.inl (Prod.ext ?_ ?_)) <;> simp <;> omega
      · refine List.mem_cons.2 (.inr (List.mem_cons.2 (.inl (Prod.ext ?_ ?_)))) <;> simp <;> omega
    · refine List.mem_cons.2 (.inl (Prod.ext ?_ ?_)) <;> simp <;> omega
  · rintro ⟨x, y, hx, hy, hp⟩
    have hg := (mem_cE hp).2.2
    have hne : x ≠ 0 ∨ y ≠ 0 := by
      rcases Nat.eq_zero_or_pos x with z | z
      · rcases Nat.eq_zero_or_pos y with z2 | z2
        · rw [z, z2] at hg; exact absurd hg (by decide)
        · exact .inr (by omega)
      · exact .inl (by omega)
    have hxw : x * h + h ≤ w * h := by
      have := Nat.mul_le_mul_right h (show x + 1 ≤ w from hx)
      rw [Nat.add_mul, Nat.one_mul] at this
      exact this
    have hx1 : x ≠ 0 → h ≤ x * h := fun q => by
      have := Nat.mul_le_mul_right h (show 1 ≤ x by omega)
      omega
    have r0 : bX h 0 = (0, 0) := by have := bX_row 0 hh; simpa using this
    -- told upwards from the first peg
    have up : p = ((x : Int), (y : Int)) → ∃ e ∈ stS w h (w * h), p = (e.1, e.2.1) := by
      rintro rfl
      have r1 := bX_row x hy
      refine ⟨stE w h 0 (x * h + y), (mem_stS (Nat.le_refl _)).2 ⟨0, x * h + y, by omega, ?_, by omega, stC_true.2 ⟨?_, ?_⟩, rfl⟩, ?_⟩
      · rcases hne with q | q
        · have := hx1 q; omega
        · omega
      · rw [r0, r1]
        unfold stepN
        unfold gcI at hg
        simp only [Int.zero_sub, Int.natAbs_neg, Int.natAbs_natCast]
        exact hg
      · rw [r0, r1]
        unfold onQ
        simp
        omega
      · rw [stE_eq, r0, r1]; simp
    unfold cE at hp
    rw [if_pos hg] at hp
    split at hp
    · rename_i hxy
      rcases List.mem_cons.1 hp with q | q
      · exact up q
      · simp at q
        subst q
        have r1 := bX_row x hh
        have r2 : bX h y = (0, (y : Int)) := by have := bX_row 0 hy; simpa using this
        rw [Nat.add_zero] at r1
        have := hx1 (by omega)
        refine ⟨stE w h y (x * h), (mem_stS (Nat.le_refl _)).2 ⟨y, x * h, by omega, by omega, by omega, stC_true.2 ⟨?_, ?_⟩, rfl⟩, ?_⟩
        · rw [r2, r1]
          unfold stepN
          unfold gcI at hg
          simp only [Int.zero_sub, Int.natAbs_neg, Int.natAbs_natCast, Int.sub_zero, Int.natCast_zero]
          exact hg
        · rw [r2, r1]
          unfold onQ
          simp
          omega
        · rw [stE_eq, r2, r1]; simp
    · simp at hp
      exact up hp
theorem slope_len {w h : Nat} (hh : 0 < h) : (ddL (stS w h (w * h))).length = (cS h w).length :=
  ((List.perm_ext_iff_of_nodup (ddL_fold _ [] List.nodup_nil).1 (nodup_cS h w)).2 (slope_mem hh)).length_eq
end Go.Proofs.Ytmhdbodmpohdnaa
/- contract: CountSlopes, the model -/
namespace Go.Proofs.Ytmhdbodmpohdnaa
open Go.ChangeShapes Go.WideShapes Go.ChangeAt Go.RowKit Go.Joins
set_option linter.unusedVariables false
set_option linter.unusedSimpArgs false
set_option maxRecDepth 4000
def sloV (w h : Int) : Int := (((cS h.toNat w.toNat).length : Nat) : Int)
theorem cE_le (x y : Nat) : (cE x y).length ≤ 2 := by
  unfold cE
  split
  · split <;> simp
  · simp
theorem cR_le (x : Nat) : ∀ n, (cR x n).length ≤ n * 2
  | 0 => by simp [cR]
  | n + 1 => by
    have h1 := cR_le x n
    have h2 := cE_le x n
    rw [cR, List.length_append]
    omega
theorem cS_le {h : Nat} (hh : h ≤ 12) : ∀ n, (cS h n).length ≤ n * 24
  | 0 => by simp [cS]
  | n + 1 => by
    have h1 := cS_le hh n
    have h2 := cR_le n h
    rw [cS, List.length_append]
    omega
theorem slo_parts {nw nh : Nat} (h1 : nw ≤ 12) (h2 : nh ≤ 12) : ∃ (S : Nat → Int) (R G : Nat → Nat → Int), Hid (S 0 = 0) ∧ Hid (∀ k, S (k + 1) = S k + R k nh) ∧ Hid (∀ x, R x 0 = 0) ∧ Hid (∀ x k, R x (k + 1) = R x k + G x k) ∧
    Hid (∀ x k, k ≤ nh → 0 ≤ R x k ∧ R x k ≤ 24) ∧ Hid (∀ k, k ≤ nw → 0 ≤ S k ∧ S k ≤ 288) ∧ Hid (∀ x y : Nat, G x y = if gcI x y = 1 then (if 0 < x ∧ 0 < y then 1 + 1 else 1) else 0) ∧ Hid (S nw = (((cS nh nw).length : Nat) : Int)) := by
  refine ⟨fun k => (((cS nh k).length : Nat) : Int), fun x k => (((cR x k).length : Nat) : Int), fun x y => (((cE x y).length : Nat) : Int), Lib.hid rfl, Lib.hid (fun k => ?_), Lib.hid (fun x => rfl), Lib.hid (fun x k => ?_), Lib.hid (fun x k hk => ?_), Lib.hid (fun k hk => ?_), Lib.hid (fun x y => ?_), Lib.hid rfl⟩
  · show (((cS nh (k + 1)).length : Nat) : Int) = _
    rw [cS, List.length_append, Int.natCast_add]
  · show (((cR x (k + 1)).length : Nat) : Int) = _
    rw [cR, List.length_append, Int.natCast_add]
  · have := cR_le x k
    simp only
    omega
  · have := cS_le h2 k
    simp only
    omega
  · show (((cE x y).length : Nat) : Int) = _
    unfold cE
    split
    · split <;> simp
    · simp
set_option maxHeartbeats 4000000 in
theorem specCountSlopes_any (w h : Int) (W : World) :
    Calls Try.prog 34 #[.int .i64 w, .int .i64 h] W fun e w' => e = .returned (.tuple #[.int .i64 (bdV (bdB 12 w h) (sloV w h)), .bool (bdB 12 w h)]) ∧ Below W.heap.size W w' := by
  have K := Lib.hid (ctBoard_any w h 12 W)
  by_cases hg : bdB 12 w h = true
  · obtain ⟨h1, h2, h3, h4⟩ := bdB_true hg
    rw [hg] at K ⊢
    rw [bdV_t]
    unfold sloV
    clear hg
    obtain ⟨nw, rfl⟩ : ∃ n : Nat, w = (n : Int) := ⟨w.toNat, by omega⟩
    obtain ⟨nh, rfl⟩ : ∃ n : Nat, h = (n : Int) := ⟨h.toNat, by omega⟩
    rw [Int.toNat_natCast, Int.toNat_natCast]
    have KG : Hid (∀ (x y : Nat) W, x < nw → y < nh → Calls Try.prog 60 #[.int .i64 (x : Int), .int .i64 (y : Int)] W fun e w' => e = .returned (.int .i64 (gcI x y)) ∧ Below W.heap.size W w') :=
      Lib.hid (fun x y W hx hy => pgCommon_any (x : Int) (y : Int) W (by omega) (by omega) (by omega) (by omega))
    obtain ⟨S, R, G, HS0, HS1, HR0, HR1, HR, HS, HF, HE⟩ := slo_parts (nw := nw) (nh := nh) (by omega) (by omega)
    generalize (((cS nh nw).length : Nat) : Int) = v at *
    go_enter Try.func34, Try.ntmps34
    go_wp2_with fail
    refine K.out.mono ?_; rintro e w1 ⟨rfl, hb1⟩
    clear K
    go_wp2_with fail
    go_loopg [6, 7] nw (fun g s x wr => ∃ i : Nat, i ≤ nw ∧ g = nw - i ∧ x = .int .i64 i ∧ s = .int .i64 (S i) ∧ Below W.heap.size W wr)
    case atStart => exact ⟨0, Nat.zero_le _, rfl, rfl, by rw [HS0.out], hb1⟩
    case round =>
      clear hb1
      obtain ⟨i, hi, hg, rfl, rfl, hB⟩ := hrel
      rename World => wo
      have HGK := Lib.hid hg
      clear hg
      obtain ⟨s1, s2⟩ := HS.out i hi
      by_cases hlt : i < nw
      · have HSi := Lib.hid (HS1.out i)
        have HRi := Lib.hid (fun k hk => HR.out i k hk)
        have HRi0 := Lib.hid (HR0.out i)
        have HRi1 := Lib.hid (HR1.out i)
        have KGi := Lib.hid (fun y W hy => KG.out i y W hlt hy)
        have HFi := Lib.hid (HF.out i)
        generalize S i = t0 at *
        generalize R i = Ri at *
        generalize G i = Gi at *
        go_wp2_with fail
        go_loopg [6, 8] nh (fun g s y wr => ∃ j : Nat, j ≤ nh ∧ g = nh - j ∧ y = .int .i64 j ∧ s = .int .i64 (t0 + Ri j) ∧ Below W.heap.size W wr)
        case atStart => exact ⟨0, Nat.zero_le _, rfl, rfl, by rw [HRi0.out, Int.add_zero], hB⟩
        case round =>
          clear hB
          obtain ⟨j, hj, hg, rfl, rfl, hB⟩ := hrel
          rename World => wi
          have HGJ := Lib.hid hg
          clear hg
          obtain ⟨r1, r2⟩ := HRi.out j hj
          by_cases hlj : j < nh
          · have HF1 := Lib.hid ((HRi1.out j).trans (by rw [HFi.out j]))
            have KGj := Lib.hid (fun W => KGi.out j W hlj)
            generalize Ri j = t1 at *
            generalize gcI i j = gg at *
            go_wp2_with fail
            refine (KGj.out wi).mono ?_; rintro e w4 ⟨rfl, hb4⟩
            have B4 := hB.trans (hb4.mono hB.size)
            clear hb4 hB KGj
            by_cases hs : gg = 1
            · have HK1 := Lib.hid (HF1.out.trans (by rw [if_pos hs]))
              subst hs
              clear HF1
              by_cases hi0 : 0 < i
              · by_cases hj0 : 0 < j
                · have HK2 := Lib.hid (HK1.out.trans (by rw [if_pos ⟨hi0, hj0⟩]))
                  clear HK1
                  go_wp2_with fail
                  go_roundg (nh - (j + 1))
                  case measure => have := HGJ.out; omega
                  case rel => exact ⟨j + 1, by omega, rfl, by go_num, by rw [HK2.out]; congr 1; omega, B4⟩
                · have HK2 := Lib.hid (HK1.out.trans (by rw [if_neg (by omega)]))
                  clear HK1
                  go_wp2_with fail
                  go_roundg (nh - (j + 1))
                  case measure => have := HGJ.out; omega
                  case rel => exact ⟨j + 1, by omega, rfl, by go_num, by rw [HK2.out, Int.add_assoc], B4⟩
              · have HK2 := Lib.hid (HK1.out.trans (by rw [if_neg (by omega)]))
                clear HK1
                go_wp2_with fail
                go_roundg (nh - (j + 1))
                case measure => have := HGJ.out; omega
                case rel => exact ⟨j + 1, by omega, rfl, by go_num, by rw [HK2.out, Int.add_assoc], B4⟩
            · have HK1 := Lib.hid (HF1.out.trans (by rw [if_neg hs, Int.add_zero]))
              clear HF1
              go_wp2_with fail
              go_roundg (nh - (j + 1))
              case measure => have := HGJ.out; omega
              case rel => exact ⟨j + 1, by omega, rfl, by go_num, by rw [HK1.out], B4⟩
          · obtain rfl : j = nh := by omega
            go_wp2_with fail
            go_roundg (nw - (i + 1))
            case measure => have := HGK.out; omega
            case rel => exact ⟨i + 1, by omega, rfl, by go_num, by rw [HSi.out], hB⟩
      · obtain rfl : i = nw := by omega
        have eV : Hid (S i = v) := HE
        go_wp2_with fail
        go_ret2
        exact ⟨by rw [eV.out]; rfl, hB⟩
  · have hf : bdB 12 w h = false := by simpa using hg
    rw [hf] at K ⊢
    rw [bdV_f]
    clear hg hf
    go_enter Try.func34, Try.ntmps34
    go_wp2_with fail
    refine K.out.mono ?_; rintro e w1 ⟨rfl, hb1⟩
    go_wp2_with fail
    go_ret2
    exact ⟨rfl, hb1⟩
end Go.Proofs.Ytmhdbodmpohdnaa
/- contract: CountSlopes, the program -/
namespace Go.Proofs.Ytmhdbodmpohdnaa
open Go.ChangeShapes Go.WideShapes Go.ChangeAt Go.RowKit Go.Joins
set_option linter.unusedVariables false
set_option linter.unusedSimpArgs false
set_option maxRecDepth 4000
open Go.Maps (Tidy has size)
theorem wf12 {q : Int} (h1 : -12 ≤ q) (h2 : q ≤ 12) : (Lit.int .i64 q).wf = true := by
  have m1 : IntKind.i64.min = -9223372036854775808 := by decide
  have m2 : IntKind.i64.max = 9223372036854775807 := by decide
  show (decide (IntKind.i64.min ≤ q) && decide (q ≤ IntKind.i64.max)) = true
  rw [m1, m2]
  simp
  omega
theorem gB {w W W' : World} {row : Option Nat} (h : w.grownBy W row) (hb : Below W.heap.size W W') : w.grownBy W' row :=
  ⟨hb.os.trans h.os, hb.tape.trans h.tape, hb.output.trans h.output, Nat.le_trans h.size hb.size, fun k hk hn => (hb.block k (Nat.lt_of_lt_of_le hk h.size)).trans (h.block k hk hn)⟩
theorem gG {w W W' : World} {row : Option Nat} (h : w.grownBy W row) (hb : W.grownBy W' row) : w.grownBy W' row :=
  ⟨hb.os.trans h.os, hb.tape.trans h.tape, hb.output.trans h.output, Nat.le_trans h.size hb.size, fun k hk hn => (hb.block k (Nat.lt_of_lt_of_le hk h.size) hn).trans (h.block k hk hn)⟩
theorem gR (w : World) (row : Option Nat) : w.grownBy w row := ⟨rfl, rfl, rfl, Nat.le_refl _, fun k hk hn => rfl⟩
/-- a list of lines that came back from a call, read in a world of which only an older block has turned -/
theorem retT_read2 {w w1 : World} {L : List (Int × Int × Int)} {e : Ending} (h : RetT w L e w1) :
    ∃ A c, e = .returned (.slice A L.length c) ∧ L.length ≤ c ∧ c ≤ maxLen ∧ Below w.heap.size w w1 ∧ ∀ W b, w1.grownBy W (some b) → b < w.heap.size → ∀ i p, L[i]? = some p → ∃ g, A = some ⟨g, 0, none⟩ ∧ g < w1.heap.size ∧ W.cell? ⟨g, i * 3, none⟩ = some (.int .i64 p.1) ∧ W.cell? ⟨g, i * 3 + 1, none⟩ = some (.int .i64 p.2.1) ∧ W.cell? ⟨g, i * 3 + 2, none⟩ = some (.int .i64 p.2.2) := by
  obtain ⟨v, rfl, hb, hr⟩ := h
  have h0 := hr
  obtain ⟨h1, h2⟩ := hr
  rcases h2 with ⟨hv, hn⟩ | ⟨g, cap, cur, hv, hg, hh, hc, hm, hs, ht⟩
  · refine ⟨none, 0, by rw [hv, hn], by omega, by simp [maxLen], hb, fun W b hW hB i p hi => ?_⟩
    have := (List.getElem?_eq_some_iff.1 hi).1
    omega
  · subst hv
    have hlt := (World.ownsRow.lt h0 g rfl).2
    refine ⟨some ⟨g, 0, none⟩, cap, rfl, hc, hm, hb, fun W b hW hB i p hi => ⟨g, rfl, hlt, ?_⟩⟩
    have hil := (List.getElem?_eq_some_iff.1 hi).1
    obtain ⟨f1, f2, f3⟩ := flat3_get L i p hi
    have hk := hW.block g hlt (by intro q; injection q with q; omega)
    exact ⟨(World.cell?_of_block (a := ⟨g, i * 3, none⟩) hk).trans ((World.ownsRow.cellAt h0 (i * 3) (by omega)).trans f1), (World.cell?_of_block (a := ⟨g, i * 3 + 1, none⟩) hk).trans ((World.ownsRow.cellAt h0 (i * 3 + 1) (by omega)).trans f2), (World.cell?_of_block (a := ⟨g, i * 3 + 2, none⟩) hk).trans ((World.ownsRow.cellAt h0 (i * 3 + 2) (by omega)).trans f3)⟩
theorem stS_step {w h : Nat} (h1 : w ≤ 12) (h2 : h ≤ 12) {e : Int × Int × Int} (he : e ∈ stS w h (w * h)) : (-12 ≤ e.1 ∧ e.1 ≤ 12) ∧ (-12 ≤ e.2.1 ∧ e.2.1 ≤ 12) := by
  obtain ⟨k, m, g1, g2, g3, g4, rfl⟩ := (mem_stS (Nat.le_refl _)).1 he
  have b1 := bX_bd (show k < w * h by omega)
  have b2 := bX_bd g3
  rw [stE_eq]
  simp only
  omega
set_option maxHeartbeats 4000000 in
theorem implCountSlopes_any (w h : Int) (W : World) :
    Calls Try.prog 35 #[.int .i64 w, .int .i64 h] W fun e w' => e = .returned (.tuple #[.int .i64 (bdV (bdB 12 w h) (sloV w h)), .bool (bdB 12 w h)]) ∧ Below W.heap.size W w' := by
  by_cases hg : bdB 12 w h = true
  · have K := Lib.hid (boardUpTo_t 12 w h W hg)
    obtain ⟨h1, h2, h3, h4⟩ := bdB_true hg
    have KT := Lib.hid (fun W => straights_any w.toNat h.toNat W (by omega) (by omega))
    rw [show ((w.toNat : Nat) : Int) = w by omega, show ((h.toNat : Nat) : Int) = h by omega] at KT
    have HV : Hid ((((ddL (stS w.toNat h.toNat (w.toNat * h.toNat))).length : Nat) : Int) = sloV w h) := Lib.hid (by rw [slope_len (by omega)]; rfl)
    have hlen := stS_len w.toNat h.toNat (w.toNat * h.toNat) (Nat.le_refl _)
    have h144 := bd_mul (show w.toNat ≤ 12 by omega) (show h.toNat ≤ 12 by omega)
    have hl2 := Nat.mul_le_mul h144 h144
    have hl3 : (stS w.toNat h.toNat (w.toNat * h.toNat)).length ≤ 20736 := by omega
    have HW : Hid (∀ e ∈ stS w.toNat h.toNat (w.toNat * h.toNat), (-12 ≤ e.1 ∧ e.1 ≤ 12) ∧ (-12 ≤ e.2.1 ∧ e.2.1 ≤ 12)) := Lib.hid (fun e he => stS_step (by omega) (by omega) he)
    rw [hg, bdV_t]
    clear hlen h144 hl2
    generalize sloV w h = v at *
    generalize stS w.toNat h.toNat (w.toNat * h.toNat) = L at *
    clear hg
    have HN : Hid (∀ k p, L[k]? = some p → ddL (L.take (k + 1)) = addP (ddL (L.take k)) (p.1, p.2.1)) := Lib.hid (fun k p hk => by
      rw [List.take_add_one, hk]
      exact ddL_snoc _ _)
    have H0 : Hid (ddL (L.take 0) = []) := Lib.hid rfl
    have HE : Hid (ddL (L.take L.length) = ddL L) := Lib.hid (by rw [List.take_length])
    have HG : Hid (∀ k, k < L.length → ∃ p1 p2 p3, L[k]? = some (p1, p2, p3) ∧ ∃ l, keyOf Try.prog 28 (.agg #[.int .i64 p1, .int .i64 p2]) = some l) := Lib.hid (fun k hk => by
      obtain ⟨q1, q2⟩ := HW.out _ (List.getElem_mem hk)
      exact ⟨_, _, _, List.getElem?_eq_getElem hk, key_of (wf12 q1.1 q1.2) (wf12 q2.1 q2.2)⟩)
    have hmm := @run_makeMap Try.prog
    go_enter Try.func35, Try.ntmps35
    go_wp2_with fail
    refine K.out.mono ?_; rintro e w1 ⟨rfl, hb1⟩
    go_wp2_with fail
    obtain ⟨W2, hW2⟩ : ∃ W2, W2 = ((w1.alloc (.cells #[.int .i64 w, .int .i64 h] 34)).alloc (.map #[] 0)) := ⟨_, rfl⟩
    have B2 : Below W.heap.size W W2 := by rw [hW2]; exact Below.alloc (Below.alloc hb1 hb1.size _) (by have := hb1.size; simp; omega) _
    have z2 : w1.heap.size + 1 < W2.heap.size := by rw [hW2]; simp
    have m2 : MapP W2 (w1.heap.size + 1) 0 [] := by
      have q1 := MapP.new (w1.alloc (.cells #[.int .i64 w, .int .i64 h] 34))
      rw [World.size_alloc] at q1
      rw [hW2]
      exact q1
    have zb : W.heap.size ≤ w1.heap.size + 1 := by have := hb1.size; omega
    rw [← hW2]
    clear hW2 hmm
    refine (KT.out W2).mono ?_; intro e w2 hret
    obtain ⟨A, c, rfl, hc1, hc2, hb2, hrd⟩ := retT_read2 hret
    have HC := Lib.hid hrd
    have B3 := B2.trans (hb2.mono B2.size)
    have m3 := m2.below hb2
    unfold maxLen at hc2
    clear hret hrd hb1 KT K HW
    obtain ⟨C, hC⟩ : ∃ C : Nat → List (Int × Int), C = fun k => ddL (L.take k) := ⟨_, rfl⟩
    have eC : ∀ k, ddL (L.take k) = C k := fun k => by rw [hC]
    simp only [eC] at HN H0 HE
    generalize hn : L.length = n at *
    have HNN := Lib.hid hn
    clear hn hC eC
    generalize w1.heap.size + 1 = bm at *
    have HM3 := Lib.hid m3
    have zB3 := hb2.size
    clear m2 m3 hb2
    go_wp2_with fail
    go_loopg [23] n (fun g i wr => ∃ k : Nat, k ≤ n ∧ g = n - k ∧ i = .int .i64 k ∧ Hid (w2.grownBy wr (some bm)) ∧ Hid (MapP wr bm k (C k)))
    case atStart => exact ⟨0, Nat.zero_le _, rfl, rfl, Lib.hid (gR _ _), Lib.hid (by rw [H0.out]; exact HM3.out)⟩
    case round =>
      clear HM3
      obtain ⟨k, hk, hg, rfl, hB, hM⟩ := hrel
      rename World => wo
      have HGK := Lib.hid hg
      clear hg
      by_cases hlt : k < n
      · obtain ⟨p1, p2, p3, hp, l, hkey⟩ := HG.out k hlt
        obtain ⟨b, hA, hb, x1, x2, x3⟩ := HC.out wo bm hB.out z2 k _ hp
        subst hA
        have HNk := Lib.hid (HN.out k _ hp)
        simp only at x1 x2 x3 HNk
        have zb' := Nat.lt_of_lt_of_le hb hB.out.size
        have BQ := Below.alloc (Below.refl _ wo) (Nat.le_refl _) (.cells #[.int .i64 p1, .int .i64 p2, .int .i64 p3] 64)
        have HG2 := Lib.hid (gB hB.out BQ)
        obtain ⟨D, hown, ht, hsz, hhas⟩ := hM.out.below BQ
        have HH := Lib.hid hhas
        have hkn : k < maxLen := by unfold maxLen; omega
        clear hp hhas hM hB BQ
        go_wp2_with (at_mapUpdate; refine wpList_mapUpdate_own _ rfl _ _ _ 62 rfl 28 4 lawPeg Try.underlying62 _ bm k D rfl hown hkn _ _ _ rfl rfl hkey (.lit (.bool true)) [] (plainElem_bool Try.underlying4 true) ?_; intro w4 hown1 hgrow1)
        have HZ := Lib.hid (MapP.put (p := (p1, p2)) ht hsz HH.out hkey hown1)
        have HY := Lib.hid (gG HG2.out hgrow1)
        clear hown hown1 hgrow1 HG2 HH ht hsz
        go_roundg (n - (k + 1))
        case measure => have := HGK.out; omega
        case rel => exact ⟨k + 1, by omega, rfl, by go_num, HY, Lib.hid (by rw [HNk.out]; exact HZ.out)⟩
      · obtain rfl : k = n := by omega
        obtain ⟨D, hown, ht, hsz, hhas⟩ := hM.out
        have eV : Hid (((size D : Nat) : Int) = v) := Lib.hid (by rw [hsz, HE.out]; exact HV.out)
        have HF := Lib.hid (B3.grown hB.out B3.size (fun q hq => by injection hq with hq; omega))
        clear hhas hB hM ht hsz
        go_wp2_with (at_len; refine wpList_len_own _ rfl _ 62 rfl 28 4 Try.underlying62 _ bm k D rfl hown ?_)
        go_ret2
        exact ⟨by rw [← eV.out]; rfl, HF.out⟩
  · have hf : bdB 12 w h = false := by simpa using hg
    have K := Lib.hid (boardUpTo_f 12 w h W hf)
    rw [hf, bdV_f]
    clear hg hf
    go_enter Try.func35, Try.ntmps35
    go_wp2_with fail
    refine K.out.mono ?_; rintro e w1 ⟨rfl, hb1⟩
    have BA := Below.alloc hb1 hb1.size (.cells #[.int .i64 0, .int .i64 0] 34)
    go_wp2_with fail
    go_ret2
    exact ⟨rfl, BA⟩
end Go.Proofs.Ytmhdbodmpohdnaa

