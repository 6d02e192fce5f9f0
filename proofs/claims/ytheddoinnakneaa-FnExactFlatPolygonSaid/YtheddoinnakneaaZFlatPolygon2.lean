/- joined: Rt Nbp T Ba Be Bf0 Wm0 Ml M U Sc Hm V W X Sd Twz U0 -/
import Derived.Test.YtheddoinnakneaaZFlatPolygon1
import Derived.StillTail
import Derived.WideShapes
import Derived.Laws.OwnMore
import Derived.BigRegion
import Derived.Laws.AppendOwnNone
import Derived.OwnWalk
import Derived.LoopTactic
import Derived.Deep.QuietTactic
import Derived.BigQuiet
import Derived.StillTailTactics
/- A statement that leaves the order of its first operations open, all of which come to one value in every world that meets S and lead to such a world again; the last ones stand in one order: one walk, in the order of the text. -/
namespace Go.Proofs.Ytheddoinnakneaa
open Go.ChangeShapes Go.WideShapes Go.ChangeAt Go.RowKit Go.Joins
set_option linter.unusedVariables false
set_option linter.unusedSimpArgs false
set_option maxRecDepth 4000
section
variable {P : Program} {ops : Array Oper} {md : Region.Mode} {S : World → Prop}
def wpAnyS (P : Program) (md : Region.Mode) (ops : Array Oper) (S : World → Prop) (n : Nat) (L : Array Bool → Act → Prop) : Nat → Array Bool → Act → Prop
  | 0, listed, a => L listed a
  | f + 1, listed, a => Region.ready md ops listed ≠ [] ∧ ∀ i ∈ Region.ready md ops listed, i < n ∧ ∃ oi v, ops[i]? = some oi ∧ Steady P ops S oi v a ∧ wpAnyS P md ops S n L f (listed.setIfInBounds i true) (a.put oi.dst v)
theorem wpAny_of_S {n g : Nat} {L : Array Bool → Act → Prop} {Q : Exit → Act → World → Prop} (hL : ∀ listed a, L listed a → ∀ w, S w → wpAny P md ops Q g listed a w) :
    ∀ (f : Nat) (listed : Array Bool) (a : Act), wpAnyS P md ops S n L f listed a → ∀ w, S w → wpAny P md ops Q (f + g) listed a w
  | 0, listed, a, h, w, hS => by rw [Nat.zero_add]; exact hL _ _ h w hS
  | f + 1, listed, a, h, w, hS => by
    rw [show f + 1 + g = (f + g) + 1 by omega]
    exact ⟨fun h0 => absurd h0 h.1, fun i hi => by
      obtain ⟨_, oi, v, ho, hy, hn⟩ := h.2 i hi
      exact steady_op ho hy hS fun w' hS' => wpAny_of_S hL f _ _ hn w' hS'⟩
theorem wpAnyS_first {n i : Nat} {oi : Oper} {v : Value} {L : Array Bool → Act → Prop} (hi : ops[i]? = some oi) (hsel : ∀ (j : Nat) (o : Oper) cs b, ops[j]? = some o → o.op ≠ .select cs b)
    (hs : Region.sinkB md ops n = true) (hc : Region.chainB md ops n = true) (hn : n < ops.size) (hin : i < n)
    (hdone : ∀ listed a, L listed a → ∀ j ∈ Region.ready md ops listed, n ≤ j) :
    ∀ (f : Nat) (listed : Array Bool) (a : Act), HeadInv md ops n listed →
      (∀ j oj, ops[j]? = some oj → j ≠ i → listed.getD j true = false → (∀ e ∈ oj.after, Region.binds md e = true → e.on ≠ i) → oi.apart ops oj = true) →
      i ∈ Region.ready md ops listed → Steady P ops S oi v a →
      wpAnyS P md ops S n L f (listed.setIfInBounds i true) (a.put oi.dst v) → wpAnyS P md ops S n L (f + 1) listed a := by
  intro f
  induction f with
  | zero =>
    intro listed a inv _ hr hy H
    have hun := (mem_ready.1 hr).1
    refine ⟨fun h => (by rw [h] at hr; cases hr), fun j hj => ?_⟩
    have hjn : j < n := by
      rcases Nat.lt_or_ge j n with h | h
      · exact h
      · exact absurd hj (tail_waits hs hc hn inv _ i rfl hin hun j h)
    refine ⟨hjn, ?_⟩
    by_cases hji : j = i
    · subst hji; exact ⟨oi, v, hi, hy, H⟩
    · have := hdone _ _ H j (ready_mono hj hji)
      omega
  | succ f ih =>
    intro listed a inv hfree hr hy H
    have hun := (mem_ready.1 hr).1
    refine ⟨fun h => (by rw [h] at hr; cases hr), fun j hj => ?_⟩
    have hjn : j < n := by
      rcases Nat.lt_or_ge j n with h | h
      · exact h
      · exact absurd hj (tail_waits hs hc hn inv _ i rfl hin hun j h)
    refine ⟨hjn, ?_⟩
    by_cases hji : j = i
    · subst hji; exact ⟨oi, v, hi, hy, H⟩
    · obtain ⟨_, oj, u, hoj, hsj, Hj⟩ := H.2 j (ready_mono hj hji)
      obtain ⟨hjun, oj', hoj', hall⟩ := mem_ready.1 hj
      obtain rfl : oj' = oj := Option.some.inj (hoj'.symm.trans hoj)
      have hnot : ∀ e ∈ oj'.after, Region.binds md e = true → e.on ≠ i := fun e he hb heq => by
        have h1 := hall e he hb
        rw [heq, getD_both hun] at h1
        cases h1
      obtain ⟨h1, h2, h3⟩ := Oper.apart_spec (hfree j oj' hoj hji hjun hnot)
      have k1 : Steady P ops S oj' u a := steady_same hsj (execOp_put oj' (fun cs b => hsel j oj' cs b hoj) a oi.dst v h1).symm (wanted_put oj' a oi.dst v h1).symm
      have k2 : Steady P ops S oi v (a.put oj'.dst u) := steady_same hy (execOp_put oi (fun cs b => hsel i oi cs b hi) a oj'.dst u h3) (wanted_put oi a oj'.dst u h3)
      refine ⟨oj', u, hoj, k1, ih _ _ (inv.set hj hjn) (fun k ok hk hki hun hno => ?_) (ready_mono hr (Ne.symm hji)) k2 ?_⟩
      · refine hfree k ok hk hki ?_ hno
        by_cases hjk : j = k
        · subst hjk; exact hjun
        · rw [getD_set_ne true hjk] at hun; exact hun
      · rw [Array.setIfInBounds_comm _ _ hji, ← Act.put_comm a v u h2]
        exact Hj
/-- the head, in the text's order -/
def wpH (P : Program) (ops : Array Oper) (S : World → Prop) (T : Act → Prop) : List Oper → Act → Prop
  | [], a => T a
  | o :: rest, a => ∃ v, Steady P ops S o v a ∧ wpH P ops S T rest (a.put o.dst v)
theorem wpAnyS_lex {n g : Nat} {T : Act → Prop} (hsel : Region.noSelect ops = true) (hs : Region.sinkB md ops n = true) (hc : Region.chainB md ops n = true) (hn : n < ops.size) :
    ∀ (l : List Oper) (k : Nat) (listed : Array Bool) (a : Act), (∀ j, j < l.length → l[j]? = ops[k + j]?) → k + l.length = n → HeadInv md ops n listed →
    Region.lexHead md ops g l.length k listed = true → wpH P ops S T l a →
    wpAnyS P md ops S n (fun listed' a' => Region.seqB md ops g n listed' = true ∧ T a') l.length listed a
  | [], k, listed, a, _, hk, _, hB, h => by
    have : k = n := by simpa using hk
    subst this
    exact ⟨by simpa [Region.lexHead] using hB, h⟩
  | o :: l, k, listed, a, hl, hk, inv, hB, h => by
    have h0 : ops[k]? = some o := by simpa using (hl 0 (by simp)).symm
    simp only [List.length_cons, Region.lexHead, Bool.and_eq_true] at hB
    obtain ⟨⟨hr, hf⟩, hB'⟩ := hB
    have hkn : k < n := by simp only [List.length_cons] at hk; omega
    have hr' : k ∈ Region.ready md ops listed := by simpa using hr
    obtain ⟨v, hy, hK⟩ := h
    exact wpAnyS_first h0 (Region.noSelect_spec hsel) hs hc hn hkn (fun listed' a' hL => seqB_ready hL.1) l.length listed a inv (Region.free_spec h0 hf) hr' hy
      (wpAnyS_lex hsel hs hc hn l (k + 1) _ _ (fun j hj => by have := hl (j + 1) (by simp; omega); simpa [Nat.add_assoc, Nat.add_comm 1 j] using this) (by simp only [List.length_cons] at hk; omega) (inv.set hr' hkn) hB' hK)
theorem wp_region_BT {id : Nat} {Q : Exit → Act → World → Prop} {a : Act} {w : World} {l : List Oper} (n : Nat) (S : World → Prop) (hm : P.follows .mixedOrders = true) (hB : Region.lexTailB .any l.toArray n = true) (hS : S w.drew)
    (h : wpH P l.toArray S (fun a' => ∀ W, S W → wpList P l.toArray Q (l.drop n) a' W) (l.take n) a) : (Code.region id l.toArray true).wp P Q a w := by
  simp only [Region.lexTailB, Bool.and_eq_true, decide_eq_true_eq] at hB
  obtain ⟨⟨⟨⟨hsel, hn⟩, hs⟩, hc⟩, hlex⟩ := hB
  have hn' : n < l.length := by simpa using hn
  have htl : (l.take n).length = n := by simp; omega
  have hdl : (l.drop n).length = l.toArray.size - n := by simp
  have inv0 : HeadInv .any l.toArray n (Array.replicate l.toArray.size false) :=
    ⟨by simp, fun j oj _ hl => (by rw [getD_replicate_false] at hl; cases hl), fun t _ ht => getD_in (by simpa using ht) (getD_replicate_false _ _)⟩
  have H := wpAnyS_lex (md := .any) (g := l.toArray.size - n) hsel hs hc hn (l.take n) 0 _ a (fun j hj => by
    have hj' : j < n := by rw [htl] at hj; exact hj
    simp [hj']) (by simpa using htl) inv0 (by rw [htl]; exact hlex) h
  refine wp_region_any hm ?_
  have := wpAny_of_S (Q := Q) (g := l.toArray.size - n) (fun listed a' hL W hW => by
    have := wpAny_of_seq (md := .any) (Q' := Q) (l.drop n) n listed a' W (fun j => by simp [List.getElem?_drop]) (by rw [hdl]; exact hL.1) (hL.2 W hW)
    rwa [hdl] at this) _ _ _ H w.drew hS
  rw [htl, show n + (l.toArray.size - n) = l.toArray.size by omega] at this
  exact this
theorem wpH_text {T : Act → Prop} {o : Oper} {rest : List Oper} {a : Act} {v : Value} (hw : Region.wanted o (yielded ops a.tmps) = true) (hy : ∀ w, S w → Comes P S v ((execOp a.eval o).run P w))
    (h : wpH P ops S T rest (a.put o.dst v)) : wpH P ops S T (o :: rest) a := ⟨v, Or.inl ⟨hw, hy⟩, h⟩
theorem wpH_skip {T : Act → Prop} {o : Oper} {rest : List Oper} {a : Act} (hw : Region.wanted o (yielded ops a.tmps) = false)
    (h : wpH P ops S T rest (a.put o.dst undef)) : wpH P ops S T (o :: rest) a := ⟨undef, Or.inr ⟨hw, rfl⟩, h⟩
theorem wpH_nil {T : Act → Prop} {a : Act} (h : T a) : wpH P ops S T [] a := h
end
end Go.Proofs.Ytheddoinnakneaa
/- lists of points as cells that are appended: plain parts -/
namespace Go.Proofs.Ytheddoinnakneaa
open Go.ChangeShapes Go.WideShapes Go.ChangeAt Go.RowKit Go.Joins
set_option linter.unusedVariables false
set_option linter.unusedSimpArgs false
set_option maxRecDepth 4000
theorem wpOp_left {P : Program} {ops : Array Oper} {i : Nat} {o : Oper} {a : Act} {K : Act → World → Prop} {Q : Exit → Act → World → Prop} {w : World} (hi : ops[i]? = some o) (hw : Region.wanted o (yielded ops a.tmps) = true)
    (h : o.wp P a w K Q) : wpOp P ops Q i K a w := by
  unfold wpOp
  simp only [hi, hw, if_true]
  exact Or.inl h
theorem wpOp_val {P : Program} {ops : Array Oper} {i : Nat} {o : Oper} {a : Act} {K : Act → World → Prop} {Q : Exit → Act → World → Prop} {w w' : World} {v : Value} (hi : ops[i]? = some o) (hw : Region.wanted o (yielded ops a.tmps) = true)
    (h1 : (execOp a.eval o).run P w = .ok (.value v) w') (h2 : K (a.put o.dst v) w') : wpOp P ops Q i K a w :=
  wpOp_left hi hw (by unfold Oper.wp; rw [h1]; exact h2)
theorem flat_len (l : List (Int × Int)) : (flat l).length = l.length * 2 := by
  induction l with
  | nil => rfl
  | cons p l ih =>
    show ([Value.int .i64 p.1, .int .i64 p.2] ++ flat l).length = _
    rw [List.length_append, ih, List.length_cons]
    simp
    omega
theorem flat_app (l m : List (Int × Int)) : flat (l ++ m) = flat l ++ flat m := by unfold flat; rw [List.flatMap_append]
theorem flat_one (l : List (Int × Int)) : ∀ u ∈ flat l, u.oneCell' = true := by
  intro u hu
  unfold flat at hu
  rw [List.mem_flatMap] at hu
  obtain ⟨p, _, hp⟩ := hu
  simp at hp
  rcases hp with rfl | rfl <;> rfl
theorem flat_cells {w : World} {b off : Nat} {l : List (Int × Int)} (h : ∀ i, i < l.length → w.cell? ⟨b, off + i * 2, none⟩ = some (.int .i64 (pt l i).1) ∧ w.cell? ⟨b, off + i * 2 + 1, none⟩ = some (.int .i64 (pt l i).2)) :
    ∀ j u, (flat l)[j]? = some u → w.cell? ((⟨b, off, none⟩ : Addr).add j) = some u := by
  intro j u hj
  rw [add_plain]
  have hlt : j < (flat l).length := (List.getElem?_eq_some_iff.1 hj).1
  rw [flat_len] at hlt
  have hi : j / 2 < l.length := by omega
  obtain ⟨f1, f2⟩ := flat_get l (j / 2) hi
  obtain ⟨h1, h2⟩ := h (j / 2) hi
  rcases Nat.mod_two_eq_zero_or_one j with h0 | h0
  · have e : j = j / 2 * 2 := by omega
    rw [e] at hj ⊢
    rw [f1] at hj
    injection hj with hj
    rw [← hj]; exact h1
  · have e : j = j / 2 * 2 + 1 := by omega
    rw [e] at hj ⊢
    rw [f2] at hj
    injection hj with hj
    rw [← hj, ← Nat.add_assoc]; exact h2
end Go.Proofs.Ytheddoinnakneaa
/- contracts: the model's IsPolygon; arePegs -/
namespace Go.Proofs.Ytheddoinnakneaa
open Go.ChangeShapes Go.WideShapes Go.ChangeAt Go.RowKit Go.Joins
set_option linter.unusedVariables false
set_option linter.unusedSimpArgs false
set_option maxRecDepth 4000
/-- all of them are pegs -/
def pegsB (l : List (Int × Int)) : Bool := l.all isPg
theorem pegsB_iff (l : List (Int × Int)) : pegsB l = true ↔ ∀ i, i < l.length → isPg (vx l i) = true := by
  unfold pegsB
  rw [List.all_eq_true]
  constructor
  · intro h i hi
    exact h _ (List.mem_of_getElem? (vx_get hi))
  · intro h p hp
    obtain ⟨i, hi, rfl⟩ := List.mem_iff_getElem.1 hp
    have := h i hi
    have e := vx_get hi
    rw [List.getElem?_eq_getElem hi] at e
    injection e with e
    rw [e]; exact this
theorem arePegs_any (A : Option Addr) (c : Nat) (l : List (Int × Int)) (w : World) (hn : l.length ≤ 1048576) (hR : Rd w w.heap.size A l) :
    Calls Try.prog 86 #[.slice A l.length c] w fun e w' => e = .returned (.bool (pegsB l)) ∧ Below w.heap.size w w' := by
  have HR := Lib.hid hR
  clear hR
  have HI := Lib.hid (pegsB_iff l)
  have HF := Lib.hid (fun h : ¬ pegsB l = true => (by simpa using h : pegsB l = false))
  generalize hN : l.length = n at *
  have HN := Lib.hid hN
  clear hN
  go_enter Try.func86, Try.ntmps86
  go_wp2_with fail
  go_loopg [7] n (fun g i wr => ∃ k : Nat, k ≤ n ∧ g = n - k ∧ i = .int .i64 k ∧ Below w.heap.size w wr ∧ Hid (∀ j, j < k → isPg (vx l j) = true))
  case atStart => exact ⟨0, Nat.zero_le _, rfl, rfl, Below.refl _ _, Lib.hid (fun i h => absurd h (Nat.not_lt_zero _))⟩
  case round =>
    obtain ⟨k, hk, hg, rfl, hB, hF⟩ := hrel
    rename World => wo
    have HGK := Lib.hid hg
    clear hg
    by_cases hlt : k < n
    · obtain ⟨b, off, hA, hb, hcell⟩ := HR.out (by have := HN.out; omega)
      subst hA
      obtain ⟨hc1, hc2⟩ := hcell k _ (vx_get (by have := HN.out; omega))
      clear hcell HR
      have hq1 : wo.cell? ⟨b, off + k * 2, none⟩ = some (.int .i64 (vx l k).1) := (hB.cell (p := ⟨b, off + k * 2, none⟩) hb).trans hc1
      have hq2 : wo.cell? ⟨b, off + k * 2 + 1, none⟩ = some (.int .i64 (vx l k).2) := (hB.cell (p := ⟨b, off + k * 2 + 1, none⟩) hb).trans hc2
      clear hc1 hc2
      have K1 := Lib.hid (fun W => implIsPeg_any (vx l k).1 (vx l k).2 W)
      have hzB := hB.size
      by_cases hpg : isPegB (vx l k).1 (vx l k).2 = true
      · rw [hpg] at K1
        have hF2 : Hid (∀ j, j < k + 1 → isPg (vx l j) = true) := Lib.hid (fun j hj => by
          by_cases hjk : j = k
          · subst hjk; exact hpg
          · exact hF.out j (by omega))
        clear hpg hF
        go_wp2_with fail
        refine (K1.out _).mono ?_; rintro e w1 ⟨rfl, hb1⟩
        have B1 := (Below.alloc hB hzB (.cells #[.int .i64 (vx l k).1, .int .i64 (vx l k).2] 56)).trans (hb1.mono (by simp; omega))
        go_wp2_with fail
        go_roundg (n - (k + 1))
        case measure => have := HGK.out; omega
        case rel => exact ⟨k + 1, by omega, rfl, by go_num, B1, hF2⟩
      · have hpf : isPegB (vx l k).1 (vx l k).2 = false := by simpa using hpg
        rw [hpf] at K1
        have hng : Hid (pegsB l = false) := Lib.hid (HF.out (fun h => hpg (HI.out.1 h k (by have := HN.out; omega))))
        clear hpg hpf
        go_wp2_with fail
        refine (K1.out _).mono ?_; rintro e w1 ⟨rfl, hb1⟩
        have B1 := (Below.alloc hB hzB (.cells #[.int .i64 (vx l k).1, .int .i64 (vx l k).2] 56)).trans (hb1.mono (by simp; omega))
        go_wp2_with fail
        go_ret
        exact ⟨ret_bool hng.out.symm, B1⟩
    · have hkn : n = k := by omega
      subst hkn
      have hy : Hid (pegsB l = true) := Lib.hid (HI.out.2 (fun i hi => hF.out i (by have := HN.out; omega)))
      go_wp2_with fail
      go_ret
      exact ⟨ret_bool hy.out.symm, hB⟩
end Go.Proofs.Ytheddoinnakneaa
/- contracts: lists of pegs that are different, on both sides -/
namespace Go.Proofs.Ytheddoinnakneaa
open Go.ChangeShapes Go.WideShapes Go.ChangeAt Go.RowKit Go.Joins
set_option linter.unusedVariables false
set_option linter.unusedSimpArgs false
set_option maxRecDepth 4000
/-- 1 to 30 different pegs -/
structure Dif (l : List (Int × Int)) : Prop where
  few : 1 ≤ l.length ∧ l.length ≤ 30
  fine : Fine l l.length
noncomputable def difB (l : List (Int × Int)) : Bool := @decide (Dif l) (Classical.propDecidable _)
theorem difB_true {l : List (Int × Int)} (h : Dif l) : difB l = true := by unfold difB; exact @decide_eq_true _ (Classical.propDecidable _) h
theorem difB_false {l : List (Int × Int)} (h : ¬ Dif l) : difB l = false := by unfold difB; exact @decide_eq_false _ (Classical.propDecidable _) h
theorem dif_of {l : List (Int × Int)} (h : difB l = true) : Dif l := by unfold difB at h; exact @of_decide_eq_true _ (Classical.propDecidable _) h
end Go.Proofs.Ytheddoinnakneaa
/- plain: points put in order, one after the other -/
namespace Go.Proofs.Ytheddoinnakneaa
open Go.ChangeShapes Go.WideShapes Go.ChangeAt Go.RowKit Go.Joins
set_option linter.unusedVariables false
set_option linter.unusedSimpArgs false
set_option maxRecDepth 4000
/-- the first point of two in order -/
def lxB (p q : Int × Int) : Bool := decide (p.1 < q.1) || (decide (p.1 = q.1) && decide (p.2 < q.2))
def insAt (s : List (Int × Int)) (p : Int × Int) : Nat := (s.takeWhile fun q => lxB q p).length
def ins (s : List (Int × Int)) (p : Int × Int) : List (Int × Int) := s.take (insAt s p) ++ [p] ++ s.drop (insAt s p)
def srt (l : List (Int × Int)) : List (Int × Int) := l.foldl ins []
theorem insAt_le (s : List (Int × Int)) (p : Int × Int) : insAt s p ≤ s.length := by
  unfold insAt
  exact (List.takeWhile_sublist _).length_le
theorem insAt_eq : ∀ (s : List (Int × Int)) (p : Int × Int) (k : Nat), (∀ j, j < k → lxB (pt s j) p = true) → k ≤ s.length → (k = s.length ∨ lxB (pt s k) p = false) → insAt s p = k
  | [], p, k, _, h2, _ => by simp at h2; subst h2; rfl
  | q :: s, p, 0, _, _, h3 => by
    rcases h3 with h3 | h3
    · simp at h3
    · have e : lxB q p = false := h3
      unfold insAt
      rw [List.takeWhile_cons, e]; rfl
  | q :: s, p, k + 1, h1, h2, h3 => by
    have e : lxB q p = true := h1 0 (by omega)
    have ih := insAt_eq s p k (fun j hj => h1 (j + 1) (by omega)) (by simpa using h2) (by
      rcases h3 with h3 | h3
      · left; simpa using h3
      · right; exact h3)
    unfold insAt at *
    rw [List.takeWhile_cons, e]
    simp only [if_true, List.length_cons]
    rw [ih]
theorem ins_len (s : List (Int × Int)) (p : Int × Int) : (ins s p).length = s.length + 1 := by
  unfold ins
  have := insAt_le s p
  simp
  omega
theorem foldl_ins_len (l : List (Int × Int)) : ∀ (s : List (Int × Int)), (l.foldl ins s).length = s.length + l.length := by
  induction l with
  | nil => intro s; simp
  | cons p l ih => intro s; rw [List.foldl_cons, ih, ins_len]; simp; omega
theorem srt_len (l : List (Int × Int)) : (srt l).length = l.length := by unfold srt; rw [foldl_ins_len]; simp
theorem srt_step {l : List (Int × Int)} {k : Nat} (h : k < l.length) : srt (l.take (k + 1)) = ins (srt (l.take k)) (vx l k) := by
  unfold srt
  rw [List.take_add_one, vx_get h, List.foldl_append]
  rfl
theorem ins_mem {s : List (Int × Int)} {p x : Int × Int} : x ∈ ins s p ↔ x ∈ s ∨ x = p := by
  unfold ins
  rw [List.mem_append, List.mem_append, List.mem_singleton]
  have e := List.take_append_drop (insAt s p) s
  constructor
  · rintro ((h | h) | h)
    · exact Or.inl (List.mem_of_mem_take h)
    · exact Or.inr h
    · exact Or.inl (List.mem_of_mem_drop h)
  · rintro (h | h)
    · rw [← e, List.mem_append] at h
      rcases h with h | h
      · exact Or.inl (Or.inl h)
      · exact Or.inr h
    · exact Or.inl (Or.inr h)
theorem foldl_ins_mem (l : List (Int × Int)) : ∀ (s : List (Int × Int)) (x : Int × Int), x ∈ l.foldl ins s ↔ x ∈ s ∨ x ∈ l := by
  induction l with
  | nil => intro s x; simp
  | cons p l ih =>
    intro s x
    rw [List.foldl_cons, ih, ins_mem, List.mem_cons]
    constructor
    · rintro ((h | h) | h)
      · exact Or.inl h
      · exact Or.inr (Or.inl h)
      · exact Or.inr (Or.inr h)
    · rintro (h | h | h)
      · exact Or.inl (Or.inl h)
      · exact Or.inl (Or.inr h)
      · exact Or.inr h
theorem srt_mem {l : List (Int × Int)} {x : Int × Int} : x ∈ srt l ↔ x ∈ l := by unfold srt; rw [foldl_ins_mem]; simp
def lxP (p q : Int × Int) : Prop := p.1 < q.1 ∨ (p.1 = q.1 ∧ p.2 < q.2)
theorem lxB_iff {p q : Int × Int} : lxB p q = true ↔ lxP p q := by unfold lxB lxP; simp
theorem ins_sorted {s : List (Int × Int)} {p : Int × Int} (hs : s.Pairwise lxP) (hp : p ∉ s) : (ins s p).Pairwise lxP := by
  unfold ins insAt
  induction s with
  | nil => simp
  | cons q s ih =>
    rw [List.takeWhile_cons]
    have h := List.pairwise_cons.1 hs
    by_cases hq : lxB q p = true
    · rw [if_pos hq]
      have ih := ih h.2 (fun hh => hp (List.mem_cons_of_mem _ hh))
      simp only [List.length_cons, List.take_succ_cons, List.drop_succ_cons, List.cons_append]
      refine List.pairwise_cons.2 ⟨fun x hx => ?_, ih⟩
      have hx' : x ∈ ins s p := by unfold ins insAt; exact hx
      rw [ins_mem] at hx'
      rcases hx' with hx' | hx'
      · exact h.1 x hx'
      · subst hx'; exact lxB_iff.1 hq
    · rw [if_neg hq]
      simp only [List.length_nil, List.take_zero, List.drop_zero, List.nil_append]
      have hpq : lxP p q := by
        have h1 : ¬ lxP q p := fun hh => hq (lxB_iff.2 hh)
        have h2 : p ≠ q := fun e => hp (by rw [e]; simp)
        unfold lxP at *
        by_cases e1 : p.1 = q.1
        · by_cases e2 : p.2 = q.2
          · exact absurd (Prod.ext e1 e2) h2
          · omega
        · omega
      show List.Pairwise lxP (p :: q :: s)
      refine List.pairwise_cons.2 ⟨fun x hx => ?_, hs⟩
      rw [List.mem_cons] at hx
      rcases hx with hx | hx
      · subst hx; exact hpq
      · have := h.1 x hx
        unfold lxP at *; omega
theorem srt_sorted {l : List (Int × Int)} (h : l.Nodup) : (srt l).Pairwise lxP := by
  suffices ∀ (m s : List (Int × Int)), s.Pairwise lxP → m.Nodup → (∀ x ∈ m, x ∉ s) → (m.foldl ins s).Pairwise lxP from this l [] List.Pairwise.nil h (by simp)
  intro m
  induction m with
  | nil => intro s hs _ _; exact hs
  | cons p m ih =>
    intro s hs hm hd
    rw [List.foldl_cons]
    have hm' := List.nodup_cons.1 hm
    refine ih _ (ins_sorted hs (hd p (by simp))) hm'.2 (fun x hx h => ?_)
    rw [ins_mem] at h
    rcases h with h | h
    · exact hd x (List.mem_cons_of_mem _ hx) h
    · subst h; exact hm'.1 hx
theorem dif_nodup {l : List (Int × Int)} (h : Dif l) : l.Nodup := by
  rw [List.nodup_iff_pairwise_ne, List.pairwise_iff_getElem]
  intro i j hi hj hij e
  have := (h.fine j hj).2 i hij
  apply this
  have e1 := vx_get hi
  have e2 := vx_get hj
  rw [List.getElem?_eq_getElem hi] at e1
  rw [List.getElem?_eq_getElem hj] at e2
  injection e1 with e1
  injection e2 with e2
  rw [← e1, ← e2, e]
end Go.Proofs.Ytheddoinnakneaa
/- rows that are read while others grow -/
namespace Go.Proofs.Ytheddoinnakneaa
open Go.ChangeShapes Go.WideShapes Go.ChangeAt Go.RowKit Go.Joins
set_option linter.unusedVariables false
set_option linter.unusedSimpArgs false
set_option maxRecDepth 4000
theorem ownB {w w' : World} {base B : Nat} {e : TypeId} {size : Nat} {v : Value} {n : Nat} {xs : List Value} (h : w.ownsRow base e size v n xs) (hb : Below B w w') (hB : w.heap.size ≤ B) : w'.ownsRow base e size v n xs := by
  have hlt := World.ownsRow.lt h
  obtain ⟨h1, h2⟩ := h
  rcases h2 with h2 | ⟨g, cap, cur, hv, hg, hh, r⟩
  · exact ⟨h1, .inl h2⟩
  · have hl := hlt g (by rw [hv]; rfl)
    exact ⟨h1, .inr ⟨g, cap, cur, hv, hg, (hb.block g (by omega)).trans hh, r⟩⟩
theorem own_base {w : World} {base base' : Nat} {e : TypeId} {size : Nat} {v : Value} {n : Nat} {xs : List Value} (h : w.ownsRow base e size v n xs) (hB : base' ≤ base) : w.ownsRow base' e size v n xs := by
  obtain ⟨h1, h2⟩ := h
  rcases h2 with h2 | ⟨g, cap, cur, hv, hg, r⟩
  · exact ⟨h1, .inl h2⟩
  · exact ⟨h1, .inr ⟨g, cap, cur, hv, Nat.le_trans hB hg, r⟩⟩
/-- a row without its last point -/
theorem own_pop {w : World} {base g n cap : Nat} {L : List (Int × Int)} {b : Int × Int} (h : w.ownsRow base 56 2 (.slice (some ⟨g, 0, none⟩) (n + 1) cap) (n + 1) (flat (L ++ [b]))) (hl : L.length = n) :
    w.ownsRow base 56 2 (.slice (some ⟨g, 0, none⟩) n cap) n (flat L) := by
  refine ⟨by rw [flat_len, hl], .inr ?_⟩
  rcases h.2 with ⟨hv, _⟩ | ⟨g', cap', cur, hv, hg, hh, hc, hm, hs, ht⟩
  · simp at hv
  · simp only [Value.slice.injEq, Option.some.injEq, Addr.mk.injEq, and_true, true_and] at hv
    obtain ⟨rfl, rfl⟩ := hv
    refine ⟨g, cap, cur, rfl, hg, hh, by omega, hm, hs, ?_⟩
    have e : (cur.toList.take ((n + 1) * 2)).take (n * 2) = flat L := by
      rw [ht, flat_app, List.take_append_of_le_length (by rw [flat_len]; omega), List.take_of_length_le (by rw [flat_len]; omega)]
    rw [← e, List.take_take, Nat.min_eq_left (by omega)]
/-- the value of a row -/
theorem own_val {w : World} {base : Nat} {e : TypeId} {size : Nat} {v : Value} {n : Nat} {xs : List Value} (h : w.ownsRow base e size v n xs) :
    (v = .slice none 0 0 ∧ n = 0) ∨ ∃ g cap, v = .slice (some ⟨g, 0, none⟩) n cap ∧ n ≤ cap ∧ cap ≤ maxLen ∧ base ≤ g ∧ g < w.heap.size := by
  have hlt := World.ownsRow.lt h
  rcases h.2 with h2 | ⟨g, cap, cur, hv, hg, hh, hc, hm, _⟩
  · exact .inl h2
  · exact .inr ⟨g, cap, hv, hc, hm, hg, (hlt g (by rw [hv]; rfl)).2⟩
theorem own_pt {w : World} {base g n cap : Nat} {s : List (Int × Int)} (h : w.ownsRow base 56 2 (.slice (some ⟨g, 0, none⟩) n cap) n (flat s)) (hs : s.length = n) (i : Nat) (hi : i < n) :
    w.cell? ⟨g, i * 2, none⟩ = some (.int .i64 (pt s i).1) ∧ w.cell? ⟨g, i * 2 + 1, none⟩ = some (.int .i64 (pt s i).2) := by
  have hf := flat_get s i (by omega)
  exact ⟨(World.ownsRow.cellAt h (i * 2) (by omega)).trans hf.1, (World.ownsRow.cellAt h (i * 2 + 1) (by omega)).trans hf.2⟩
theorem take_own {w : World} {base g n cap : Nat} {s : List (Int × Int)} (h : w.ownsRow base 56 2 (.slice (some ⟨g, 0, none⟩) n cap) n (flat s)) (j : Nat) :
    ∀ i u, (flat (s.take j))[i]? = some u → w.cell? ((⟨g, 0, none⟩ : Addr).add i) = some u := by
  intro i u hi
  refine World.ownsRow.cells h (g := g) rfl i u ?_
  rw [← List.take_append_drop j s, flat_app, List.getElem?_append_left ((List.getElem?_eq_some_iff.1 hi).1)]
  exact hi
theorem drop_own {w : World} {base g n cap : Nat} {s : List (Int × Int)} (h : w.ownsRow base 56 2 (.slice (some ⟨g, 0, none⟩) n cap) n (flat s)) (j : Nat) (hj : j ≤ s.length) :
    ∀ i u, (flat (s.drop j))[i]? = some u → w.cell? ((⟨g, j * 2, none⟩ : Addr).add i) = some u := by
  intro i u hi
  have := World.ownsRow.cells h (g := g) rfl (j * 2 + i) u (by
    rw [← List.take_append_drop j s, flat_app, List.getElem?_append_right (by rw [flat_len, List.length_take]; omega), flat_len, List.length_take, Nat.min_eq_left hj, Nat.add_sub_cancel_left]
    exact hi)
  rw [add_plain] at this ⊢
  rw [Nat.zero_add] at this
  exact this
theorem append_none_run {P : Program} {w : World} {base : Nat} {t ty e : TypeId} {i : TypeInfo} {size : Nat} {v : Value} {n : Nat} {xs : List Value} (ht : P.underlying t = some (.slice e)) (hi : P.info? e = some i) (hown : w.ownsRow base e size v n xs) :
    (Builtin.append_ #[t, t] ty #[v, .slice none 0 0]).run P w = .ok v w := run_append_owned_none (P := P) (w := w) base t ty e i size ht hi v n xs hown
theorem wp_append_none {P : Program} {w : World} {o : Oper} {a : Act} {K : Act → World → Prop} {Q : Exit → Act → World → Prop} (s x : Operand) (t : TypeId)
    (ho : o.op = .call { callee := .builtin .append, args := #[s, x], argTypes := #[t, t] })
    (base : Nat) (e : TypeId) (i : TypeInfo) (size : Nat) (ht : P.underlying t = some (.slice e)) (hi : P.info? e = some i)
    (v : Value) (n : Nat) (xs : List Value) (hs : a.eval s = v) (hown : w.ownsRow base e size v n xs) (hx : a.eval x = .slice none 0 0)
    (h : K (a.put o.dst v) w) : o.wp P a w K Q := by
  have hrun := run_append_owned_none (P := P) (w := w) base t o.type e i size ht hi v n xs hown
  unfold Oper.wp
  simp [execOp, ho, resolve, invoke, builtin, hs, hx, hrun, Result.andThen]
  exact h
theorem ins_flat {s : List (Int × Int)} {p1 p2 : Int} {j : Nat} (h : j = insAt s (p1, p2)) : flat (ins s (p1, p2)) = ([] ++ flat (s.take j) ++ [.int .i64 p1, .int .i64 p2]) ++ flat (s.drop j) := by
  unfold ins
  rw [← h, flat_app, flat_app, List.nil_append]
  rfl
end Go.Proofs.Ytheddoinnakneaa
/- rows of pairs of numbers of one's own, each pair in a block of its own; a pair is put in -/
namespace Go.Proofs.Ytheddoinnakneaa
open Go.ChangeShapes Go.WideShapes Go.ChangeAt Go.RowKit Go.Joins
set_option linter.unusedVariables false
set_option linter.unusedSimpArgs false
set_option maxRecDepth 4000
def slM (q : List Nat) : List Value := q.map fun b => Value.slice (some ⟨b, 0, none⟩) 2 2
/-- the pairs lie in the blocks q -/
structure PrM (w : World) (base : Nat) (q : List Nat) (m : List (Int × Int)) : Prop where
  len : q.length = m.length
  nod : q.Nodup
  at_ : ∀ (i b : Nat) (p : Int × Int), q[i]? = some b → m[i]? = some p → base ≤ b ∧ b < w.heap.size ∧ w.heap[b]? = some (.cells #[.int .i64 p.1, .int .i64 p.2] 3 (0, 0))
def RowM (w : World) (base : Nat) (v : Value) (m : List (Int × Int)) : Prop := ∃ q, w.ownsRow base 47 1 v m.length (slM q) ∧ PrM w base q m
theorem slM_len (q : List Nat) : (slM q).length = q.length := by unfold slM; simp
theorem slM_one (q : List Nat) : ∀ u ∈ slM q, u.oneCell' = true := by
  intro u hu
  unfold slM at hu
  rw [List.mem_map] at hu
  obtain ⟨b, _, rfl⟩ := hu
  rfl
theorem slM_get {q : List Nat} {i b : Nat} (h : q[i]? = some b) : (slM q)[i]? = some (.slice (some ⟨b, 0, none⟩) 2 2) := by
  unfold slM
  rw [List.getElem?_map, h]; rfl
theorem rowM_nil (w : World) (base : Nat) : RowM w base (.slice none 0 0) [] := ⟨[], World.ownsRow_nil w base _ _, rfl, List.nodup_nil, fun i b p h => by simp at h⟩
theorem prM_blocks {w w' : World} {base : Nat} {q : List Nat} {m : List (Int × Int)} (h : PrM w base q m) (hs : w.heap.size ≤ w'.heap.size) (hk : ∀ b ∈ q, w'.heap[b]? = w.heap[b]?) : PrM w' base q m :=
  ⟨h.len, h.nod, fun i b p h1 h2 => by
    obtain ⟨a1, a2, a3⟩ := h.at_ i b p h1 h2
    exact ⟨a1, Nat.lt_of_lt_of_le a2 hs, (hk b (List.mem_of_getElem? h1)).trans a3⟩⟩
theorem prM_lt {w : World} {base : Nat} {q : List Nat} {m : List (Int × Int)} (h : PrM w base q m) {b : Nat} (hb : b ∈ q) : base ≤ b ∧ b < w.heap.size := by
  obtain ⟨i, hi⟩ := List.mem_iff_getElem?.1 hb
  have hl : i < q.length := by
    rcases Nat.lt_or_ge i q.length with g | g
    · exact g
    · rw [List.getElem?_eq_none g] at hi; cases hi
  have := h.at_ i b _ hi (pt_get (l := m) (i := i) (by rw [← h.len]; exact hl))
  exact ⟨this.1, this.2.1⟩
theorem prM_below {w w' : World} {base B : Nat} {q : List Nat} {m : List (Int × Int)} (h : PrM w base q m) (hb : Below B w w') (hB : w.heap.size ≤ B) : PrM w' base q m :=
  prM_blocks h hb.size (fun b hbq => hb.block b (by have := (prM_lt h hbq).2; omega))
theorem ownM_below {w w' : World} {base B : Nat} {v : Value} {n : Nat} {xs : List Value} (h : w.ownsRow base 47 1 v n xs) (hb : Below B w w') (hB : w.heap.size ≤ B) : w'.ownsRow base 47 1 v n xs := by
  have h0 := h
  obtain ⟨h1, h2⟩ := h
  rcases h2 with h2 | ⟨g, cap, cur, hv, hg, hh, r⟩
  · exact ⟨h1, .inl h2⟩
  · have hl := World.ownsRow.lt h0 g (by rw [hv]; rfl)
    exact ⟨h1, .inr ⟨g, cap, cur, hv, hg, (hb.block g (by omega)).trans hh, r⟩⟩
theorem rowM_below {w w' : World} {base B : Nat} {v : Value} {m : List (Int × Int)} (h : RowM w base v m) (hb : Below B w w') (hB : w.heap.size ≤ B) : RowM w' base v m := by
  obtain ⟨q, h1, h2⟩ := h
  exact ⟨q, ownM_below h1 hb hB, prM_below h2 hb hB⟩
/-- pair number j is read -/
theorem prM_read {w : World} {base : Nat} {q : List Nat} {m : List (Int × Int)} (h : PrM w base q m) {j : Nat} (hj : j < m.length) :
    ∃ b, q[j]? = some b ∧ b < w.heap.size ∧ w.cell? ⟨b, 0, none⟩ = some (.int .i64 (pt m j).1) ∧ w.cell? ⟨b, 1, none⟩ = some (.int .i64 (pt m j).2) := by
  have hq : j < q.length := by rw [h.len]; exact hj
  obtain ⟨a1, a2, a3⟩ := h.at_ j _ _ (List.getElem?_eq_getElem hq) (pt_get hj)
  exact ⟨_, List.getElem?_eq_getElem hq, a2, by rw [cell_of_row w _ 0 _ 3 (0, 0) a3]; rfl, by rw [cell_of_row w _ 1 _ 3 (0, 0) a3]; rfl⟩
/-- a list with one put in at place j, at place i -/
theorem put_get {α : Type} (l : List α) (x : α) {j : Nat} (hj : j ≤ l.length) (i : Nat) : (l.take j ++ [x] ++ l.drop j)[i]? = if i < j then l[i]? else if i = j then some x else l[i - 1]? := by
  have hl : (l.take j ++ [x]).length = j + 1 := by rw [List.length_append, List.length_take]; simp; omega
  rcases Nat.lt_or_ge i (j + 1) with h | h
  · rw [List.getElem?_append_left (by omega)]
    rcases Nat.lt_or_ge i j with g | g
    · rw [List.getElem?_append_left (by rw [List.length_take]; omega), List.getElem?_take, if_pos g, if_pos g]
    · obtain rfl : i = j := by omega
      rw [List.getElem?_append_right (by rw [List.length_take]; omega), List.length_take, if_neg (Nat.lt_irrefl _), if_pos rfl, show i - min i l.length = 0 by omega]
      rfl
  · rw [List.getElem?_append_right (by omega), hl, List.getElem?_drop, if_neg (by omega), if_neg (by omega)]
    congr 1
    omega
theorem prM_put {w : World} {base : Nat} {q : List Nat} {m : List (Int × Int)} (h : PrM w base q m) {j b : Nat} {p : Int × Int} (hj : j ≤ m.length) (h1 : base ≤ b) (h2 : b < w.heap.size) (h3 : w.heap[b]? = some (.cells #[.int .i64 p.1, .int .i64 p.2] 3 (0, 0))) (hn : b ∉ q) :
    PrM w base (q.take j ++ [b] ++ q.drop j) (m.take j ++ [p] ++ m.drop j) := by
  have hq : j ≤ q.length := by rw [h.len]; exact hj
  refine ⟨by simp [h.len], ?_, fun i b' p' hb hp => ?_⟩
  · have e := List.take_append_drop j q
    have hnd := h.nod
    rw [← e, List.nodup_append] at hnd
    rw [List.append_assoc, List.nodup_append]
    refine ⟨hnd.1, ?_, ?_⟩
    · rw [List.singleton_append, List.nodup_cons]
      exact ⟨fun hm => hn (List.mem_of_mem_drop hm), hnd.2.1⟩
    · intro x hx y hy
      rw [List.singleton_append, List.mem_cons] at hy
      rcases hy with rfl | hy
      · exact fun e => hn (by rw [← e]; exact List.mem_of_mem_take hx)
      · exact hnd.2.2 x hx y hy
  · rw [put_get q b hq] at hb
    rw [put_get m p hj] at hp
    split at hb
    · rename_i hi
      rw [if_pos hi] at hp
      exact h.at_ i b' p' hb hp
    · rename_i hi
      rw [if_neg hi] at hp
      split at hb
      · rename_i hi2
        rw [if_pos hi2] at hp
        injection hb with hb
        injection hp with hp
        subst hb hp
        exact ⟨h1, h2, h3⟩
      · rename_i hi2
        rw [if_neg hi2] at hp
        exact h.at_ (i - 1) b' p' hb hp
theorem slM_put (q : List Nat) (b j : Nat) : slM (q.take j ++ [b] ++ q.drop j) = slM (q.take j) ++ [.slice (some ⟨b, 0, none⟩) 2 2] ++ slM (q.drop j) := by unfold slM; rw [List.map_append, List.map_append]; rfl
/-- the row as a law sees it -/
theorem rowM_rws {w : World} {base : Nat} {v : Value} {m : List (Int × Int)} (h : RowM w base v m) : ∃ A c, v = .slice A m.length c ∧ RwS w base w.heap.size A m.length (fun _ => 2) (fun i t => if t = 0 then (pt m i).1 else (pt m i).2) := by
  obtain ⟨q, ho, hq⟩ := h
  have h0 := ho
  obtain ⟨h1, h2⟩ := ho
  rcases h2 with ⟨hv, hn⟩ | ⟨g, cap, cur, hv, hg, hh, hc, hm, hs, ht⟩
  · exact ⟨none, 0, by rw [hv, hn], fun hp => absurd hp (by omega)⟩
  · subst hv
    have hgl := (World.ownsRow.lt h0 g rfl).2
    refine ⟨some ⟨g, 0, none⟩, cap, rfl, fun hp => ⟨g, 0, fun i => (q[i]?).getD 0, rfl, hg, hgl, fun i hi => ?_⟩⟩
    have hql : i < q.length := by rw [hq.len]; exact hi
    have hqi : q[i]? = some q[i] := List.getElem?_eq_getElem hql
    obtain ⟨a1, a2, a3⟩ := hq.at_ i _ _ hqi (pt_get hi)
    simp only [hqi, Option.getD_some, Nat.zero_add]
    refine ⟨⟨a1, a2, ?_, ?_⟩, some ⟨q[i], 0, none⟩, 2, ?_, ?_⟩
    · intro e
      rw [e, hh] at a3
      injection a3 with a3
      injection a3 with _ e2
      exact absurd e2 (by decide)
    · intro j hj e
      have hjl : j < q.length := by omega
      rw [List.getElem?_eq_getElem hjl, Option.getD_some] at e
      have := (List.nodup_iff_pairwise_ne.1 hq.nod)
      rw [List.pairwise_iff_getElem] at this
      exact this j i hjl hql hj e
    · refine (World.ownsRow.cellAt h0 i (by omega)).trans ?_
      exact slM_get hqi
    · intro _
      refine ⟨q[i], 0, rfl, Nat.le_refl _, Nat.lt_succ_self _, fun t ht2 => ?_⟩
      have hfz : w.frozen? ⟨q[i], 0 + t, none⟩ = false := frozen_of_row w _ _ _ 3 a3
      refine ⟨?_, hfz⟩
      rw [cell_of_row w _ _ _ 3 (0, 0) a3]
      match t, ht2 with
      | 0, _ => rfl
      | 1, _ => rfl
end Go.Proofs.Ytheddoinnakneaa
/- contracts: greatest of two, size of a number -/
namespace Go.Proofs.Ytheddoinnakneaa
open Go.ChangeShapes Go.WideShapes Go.ChangeAt Go.RowKit Go.Joins
set_option linter.unusedVariables false
set_option linter.unusedSimpArgs false
set_option maxRecDepth 4000
theorem below_dr {B : Nat} {a w : World} (h : Below B a w) (n : Nat) : Below B a (w.drewN n) := ⟨h.os, h.tape, h.output, h.size, h.block⟩
theorem l1Most_any (a b : Int) (w : World) : Calls Try.prog 72 #[.int .i64 a, .int .i64 b] w fun e w' => e = .returned (.int .i64 (max a b)) ∧ w = w' := by
  by_cases h : b < a
  all_goals
    go_enter Try.func72, Try.ntmps72
    go_wp2
    go_ret
    exact ⟨ret_int (by omega), rfl⟩
theorem l1Abs_any (a : Int) (w : World) (h1 : -100000000000000 ≤ a) (h2 : a ≤ 100000000000000) : Calls Try.prog 101 #[.int .i64 a] w fun e w' => e = .returned (.int .i64 (a.natAbs : Int)) ∧ w = w' := by
  go_enter Try.func101, Try.ntmps101
  go_wp2_with fail
  refine (l1Most_any _ _ _).mono ?_; rintro e _ ⟨rfl, rfl⟩
  go_wp2_with fail
  go_ret
  exact ⟨ret_int (by omega), rfl⟩
end Go.Proofs.Ytheddoinnakneaa
/- contracts: the greatest common divisor, on both sides; how many points a line has -/
namespace Go.Proofs.Ytheddoinnakneaa
open Go.ChangeShapes Go.WideShapes Go.ChangeAt Go.RowKit Go.Joins
set_option linter.unusedVariables false
set_option linter.unusedSimpArgs false
set_option maxRecDepth 4000
theorem gcd_step (m n : Nat) : Nat.gcd n (m % n) = Nat.gcd m n := by rw [Nat.gcd_comm n, ← Nat.gcd_rec, Nat.gcd_comm]
theorem pgCommon_any (a b : Int) (w : World) (h1 : -1000000 ≤ a) (h2 : a ≤ 1000000) (h3 : -1000000 ≤ b) (h4 : b ≤ 1000000) :
    Calls Try.prog 93 #[.int .i64 a, .int .i64 b] w fun e w' => e = .returned (.int .i64 ((Nat.gcd a.natAbs b.natAbs : Nat) : Int)) ∧ Below w.heap.size w w' := by
  have m1 : (a.natAbs : Int) ≤ 1000000 := by omega
  have m2 : (b.natAbs : Int) ≤ 1000000 := by omega
  have A1 := Lib.hid (fun W => l1Abs_any a W (by omega) (by omega))
  have A2 := Lib.hid (fun W => l1Abs_any b W (by omega) (by omega))
  generalize a.natAbs = p at *
  generalize b.natAbs = q at *
  go_enter Try.func93, Try.ntmps93
  go_wp2_with fail
  refine (A1.out _).mono ?_; rintro e _ ⟨rfl, rfl⟩
  go_wp2_with fail
  refine (A2.out _).mono ?_; rintro e _ ⟨rfl, rfl⟩
  go_wp2_with fail
  clear A1 A2
  go_loopw [0, 1] (fun u v wr => ∃ m n : Nat, u = .int .i64 m ∧ v = .int .i64 n ∧ Nat.gcd m n = Nat.gcd p q ∧ (m : Int) ≤ 1000000 ∧ (n : Int) ≤ 1000000 ∧ Below w.heap.size w wr) (fun _ v _ => (intOf v).toNat)
  case atStart => exact ⟨p, q, rfl, rfl, rfl, m1, m2, Below.refl _ _⟩
  case round =>
    obtain ⟨m, n, rfl, rfl, hg, hm, hn, hB⟩ := hrel
    by_cases hz : 0 < n
    · have hG := Lib.hid hg
      clear hg
      go_wp2_with fail
      go_quiet (fail)
      have hmod : m % n < n := Nat.mod_lt _ hz
      go_roundw
      case rel => ((repeat apply Exists.intro); exact ⟨⟨n, m % n, by go_num, by go_num, by rw [gcd_step]; exact hG.out, hn, by omega, by repeat (first | exact hB | apply Below.drew | apply below_dr)⟩, rfl⟩)
      case measure => simp [intOf]; omega
    · have hn0 : n = 0 := by omega
      subst hn0
      rw [Nat.gcd_zero_right] at hg
      subst hg
      go_wp2_with fail
      go_ret
      exact ⟨rfl, hB⟩
theorem tmod_step (x y : Int) : Nat.gcd y.natAbs (x.tmod y).natAbs = Nat.gcd x.natAbs y.natAbs := by
  rw [Int.natAbs_tmod]; exact gcd_step _ _
theorem tmod_bd (x y : Int) (h : y ≠ 0) : (x.tmod y).natAbs < y.natAbs := by
  rw [Int.natAbs_tmod]; exact Nat.mod_lt _ (by omega)
theorem greatestDivisor_any (a b : Int) (w : World) (h1 : -1000000 ≤ a) (h2 : a ≤ 1000000) (h3 : -1000000 ≤ b) (h4 : b ≤ 1000000) :
    Calls Try.prog 137 #[.int .i64 a, .int .i64 b] w fun e w' => e = .returned (.int .i64 ((Nat.gcd a.natAbs b.natAbs : Nat) : Int)) ∧ Below w.heap.size w w' := by
  have R : ∃ r, r = Nat.gcd a.natAbs b.natAbs := ⟨_, rfl⟩
  obtain ⟨r, hr⟩ := R
  rw [← hr]
  have HR := Lib.hid hr
  clear hr
  go_enter Try.func137, Try.ntmps137
  go_wp2_with fail
  go_loopw [0, 1] (fun u v wr => ∃ x y : Int, u = .int .i64 x ∧ v = .int .i64 y ∧ Hid (r = Nat.gcd x.natAbs y.natAbs) ∧ -1000000 ≤ x ∧ x ≤ 1000000 ∧ -1000000 ≤ y ∧ y ≤ 1000000 ∧ Below w.heap.size w wr) (fun _ v _ => (intOf v).natAbs)
  case atStart => exact ⟨a, b, rfl, rfl, HR, h1, h2, h3, h4, Below.refl _ _⟩
  case round =>
    obtain ⟨x, y, rfl, rfl, hg, hx1, hx2, hy1, hy2, hB⟩ := hrel
    by_cases hz : y = 0
    · subst hz
      go_wp2_with fail
      all_goals
        go_ret
        exact ⟨ret_int (by have := hg.out; simp at this; omega), hB⟩
    · go_wp2_with fail
      go_quiet (fail)
      have hmod := tmod_bd x y hz
      go_roundw
      case rel => ((repeat apply Exists.intro); exact ⟨⟨y, x.tmod y, by go_num, by go_num, by rw [tmod_step]; exact hg, hy1, hy2, by omega, by omega, by repeat (first | exact hB | apply Below.drew | apply below_dr)⟩, rfl⟩)
      case measure => simpa [intOf] using hmod
end Go.Proofs.Ytheddoinnakneaa
/- contract: the corners of a polygon, each with both beside it -/
namespace Go.Proofs.Ytheddoinnakneaa
open Go.ChangeShapes Go.WideShapes Go.ChangeAt Go.RowKit Go.Joins
set_option linter.unusedVariables false
set_option linter.unusedSimpArgs false
set_option maxRecDepth 4000
theorem corner_info : (Try.prog.info? 107).map (fun i => (i.zero, i.size, i.bytes)) = some (some (.agg #[.int .i64 0, .int .i64 0, .int .i64 0, .int .i64 0, .int .i64 0, .int .i64 0]), 6, 48) := by kernel_rfl
/-- a new block of n corners: the first k of them set -/
def SetC (w : World) (g n k : Nat) (l : List (Int × Int)) : Prop :=
  g < w.heap.size ∧ (∀ j, j < n * 6 → (∃ u, w.cell? ⟨g, j, none⟩ = some u) ∧ w.frozen? ⟨g, j, none⟩ = false) ∧
    ∀ i, i < k → w.cell? ⟨g, i * 6, none⟩ = some (.int .i64 (vx l i).1) ∧ w.cell? ⟨g, i * 6 + 1, none⟩ = some (.int .i64 (vx l i).2) ∧
      w.cell? ⟨g, i * 6 + 2, none⟩ = some (.int .i64 (vx l (i + n - 1)).1) ∧ w.cell? ⟨g, i * 6 + 3, none⟩ = some (.int .i64 (vx l (i + n - 1)).2) ∧
      w.cell? ⟨g, i * 6 + 4, none⟩ = some (.int .i64 (vx l (i + 1)).1) ∧ w.cell? ⟨g, i * 6 + 5, none⟩ = some (.int .i64 (vx l (i + 1)).2)
theorem setC_new (w : World) (t : TypeId) (n : Nat) (l : List (Int × Int)) : SetC (w.alloc (.cells (madeCells #[.int .i64 0, .int .i64 0, .int .i64 0, .int .i64 0, .int .i64 0, .int .i64 0] (n * 6)) t)) w.heap.size n 0 l := by
  have hs := size_madeCells #[.int .i64 0, .int .i64 0, .int .i64 0, .int .i64 0, .int .i64 0, .int .i64 0] (n * 6)
  refine ⟨by simp, fun j hj => ⟨⟨_, by rw [cell_of_row (w.alloc _) w.heap.size j _ t (0, 0) (heap_alloc_new w _)]; exact Array.getElem?_eq_getElem (by omega)⟩, ?_⟩, fun i h => absurd h (Nat.not_lt_zero _)⟩
  · rw [frozen?_alloc_cells]; simp [World.frozen?]
theorem setC_store {w : World} {g n k : Nat} {l : List (Int × Int)} (h : SetC w g n k l) (hk : k < n) (hl : l.length = n) :
    SetC ((((((w.setCell ⟨g, k * 6, none⟩ (.int .i64 (vx l k).1)).setCell ⟨g, k * 6 + 1, none⟩ (.int .i64 (vx l k).2)).setCell ⟨g, k * 6 + 2, none⟩ (.int .i64 (vx l ((k + n - 1) % n)).1)).setCell ⟨g, k * 6 + 3, none⟩ (.int .i64 (vx l ((k + n - 1) % n)).2)).setCell ⟨g, k * 6 + 4, none⟩ (.int .i64 (vx l ((k + 1) % n)).1)).setCell ⟨g, k * 6 + 5, none⟩ (.int .i64 (vx l ((k + 1) % n)).2)) g n (k + 1) l := by
  obtain ⟨h1, h2, h3⟩ := h
  have ne : ∀ (W : World) (o o' : Nat) (v : Value), o' ≠ o → (W.setCell ⟨g, o', none⟩ v).cell? ⟨g, o, none⟩ = W.cell? ⟨g, o, none⟩ := fun W o o' v h =>
    World.cell?_setCell_other W _ _ _ (fun e => h (by injection e))
  have sm : ∀ (W : World) (o : Nat) (v : Value), (∃ u, W.cell? ⟨g, o, none⟩ = some u) → (W.setCell ⟨g, o, none⟩ v).cell? ⟨g, o, none⟩ = some v := fun W o v ⟨u, h⟩ => World.cell?_setCell_same W _ _ h
  have ex : ∀ (W : World) (o : Nat) (v : Value), (∀ j, j < n * 6 → ∃ u, W.cell? ⟨g, j, none⟩ = some u) → ∀ j, j < n * 6 → ∃ u, (W.setCell ⟨g, o, none⟩ v).cell? ⟨g, j, none⟩ = some u := fun W o v h j hj => by
    obtain ⟨u, hu⟩ := h j hj
    exact cell?_setCell_some hu
  have x0 : ∀ j, j < n * 6 → ∃ u, w.cell? ⟨g, j, none⟩ = some u := fun j hj => (h2 j hj).1
  have x1 := ex _ (k * 6) (.int .i64 (vx l k).1) x0
  have x2 := ex _ (k * 6 + 1) (.int .i64 (vx l k).2) x1
  have x3 := ex _ (k * 6 + 2) (.int .i64 (vx l ((k + n - 1) % n)).1) x2
  have x4 := ex _ (k * 6 + 3) (.int .i64 (vx l ((k + n - 1) % n)).2) x3
  have x5 := ex _ (k * 6 + 4) (.int .i64 (vx l ((k + 1) % n)).1) x4
  have x6 := ex _ (k * 6 + 5) (.int .i64 (vx l ((k + 1) % n)).2) x5
  refine ⟨by simpa [World.setCell] using h1, fun j hj => ⟨x6 j hj, ?_⟩, fun i hi => ?_⟩
  · simp only [World.frozen?_setCell]; exact (h2 j hj).2
  · by_cases hik : i = k
    · subst hik
      have p1 : vx l ((i + n - 1) % n) = vx l (i + n - 1) := by rw [← hl, vx_per]
      have p2 : vx l ((i + 1) % n) = vx l (i + 1) := by rw [← hl, vx_per]
      refine ⟨?_, ?_, ?_, ?_, ?_, ?_⟩
      · rw [ne _ _ _ _ (by omega), ne _ _ _ _ (by omega), ne _ _ _ _ (by omega), ne _ _ _ _ (by omega), ne _ _ _ _ (by omega)]; exact sm _ _ _ (x0 _ (by omega))
      · rw [ne _ _ _ _ (by omega), ne _ _ _ _ (by omega), ne _ _ _ _ (by omega), ne _ _ _ _ (by omega)]; exact sm _ _ _ (x1 _ (by omega))
      · rw [ne _ _ _ _ (by omega), ne _ _ _ _ (by omega), ne _ _ _ _ (by omega), ← p1]; exact sm _ _ _ (x2 _ (by omega))
      · rw [ne _ _ _ _ (by omega), ne _ _ _ _ (by omega), ← p1]; exact sm _ _ _ (x3 _ (by omega))
      · rw [ne _ _ _ _ (by omega), ← p2]; exact sm _ _ _ (x4 _ (by omega))
      · rw [← p2]; exact sm _ _ _ (x5 _ (by omega))
    · have hlt : i < k := by omega
      have all : ∀ r, r < 6 → ((((((w.setCell ⟨g, k * 6, none⟩ (.int .i64 (vx l k).1)).setCell ⟨g, k * 6 + 1, none⟩ (.int .i64 (vx l k).2)).setCell ⟨g, k * 6 + 2, none⟩ (.int .i64 (vx l ((k + n - 1) % n)).1)).setCell ⟨g, k * 6 + 3, none⟩ (.int .i64 (vx l ((k + n - 1) % n)).2)).setCell ⟨g, k * 6 + 4, none⟩ (.int .i64 (vx l ((k + 1) % n)).1)).setCell ⟨g, k * 6 + 5, none⟩ (.int .i64 (vx l ((k + 1) % n)).2)).cell? ⟨g, i * 6 + r, none⟩ = w.cell? ⟨g, i * 6 + r, none⟩ := fun r hr => by
        rw [ne _ _ _ _ (by omega), ne _ _ _ _ (by omega), ne _ _ _ _ (by omega), ne _ _ _ _ (by omega), ne _ _ _ _ (by omega), ne _ _ _ _ (by omega)]
      obtain ⟨c0, c1, c2, c3, c4, c5⟩ := h3 i hlt
      exact ⟨(all 0 (by omega)).trans c0, (all 1 (by omega)).trans c1, (all 2 (by omega)).trans c2, (all 3 (by omega)).trans c3, (all 4 (by omega)).trans c4, (all 5 (by omega)).trans c5⟩
theorem setC_below {w w' : World} {g n k : Nat} {l : List (Int × Int)} (h : SetC w g n k l) (hb : Below w.heap.size w w') : SetC w' g n k l := by
  obtain ⟨h1, h2, h3⟩ := h
  have hc := (bcell hb).1
  have hf := (bcell hb).2
  have hz := hb.size
  exact ⟨by omega, fun j hj => by rw [hc _ _ h1, hf _ _ h1]; exact h2 j hj, fun i hi => by
    rw [hc _ _ h1, hc _ _ h1, hc _ _ h1, hc _ _ h1, hc _ _ h1, hc _ _ h1]; exact h3 i hi⟩
theorem setC_drew {w : World} {g n k : Nat} {l : List (Int × Int)} (h : SetC w g n k l) : SetC w.drew g n k l := h
set_option maxHeartbeats 2000000 in
theorem cornersAroundW_any (A : Option Addr) (c : Nat) (l : List (Int × Int)) (w : World) (h1 : 1 ≤ l.length) (hn : l.length ≤ 60) (hR : Rd w w.heap.size A l) :
    Calls Try.prog 87 #[.slice A l.length c] w fun e w' => e = .returned (.slice (some ⟨w.heap.size, 0, none⟩) l.length l.length) ∧ Below w.heap.size w w' ∧ SetC w' w.heap.size l.length l.length l := by
  obtain ⟨i0, hi0, hz0, hz1, hz2⟩ := info_parts corner_info
  have hmk := fun W => run_make (P := Try.prog) W 104 107 i0 _ Try.underlying104 hi0 hz0 .i64 .i64 (l.length : Int) (l.length : Int) (by omega) (by omega) (by rw [hz2]; omega) (by omega)
  obtain ⟨b, off, rfl, hb, hcell⟩ := hR (by omega)
  have hC : ∀ i, i < l.length → w.cell? ⟨b, off + i * 2, none⟩ = some (.int .i64 (vx l i).1) ∧ w.cell? ⟨b, off + i * 2 + 1, none⟩ = some (.int .i64 (vx l i).2) := fun i hi => hcell i _ (vx_get hi)
  have HC := Lib.hid hC
  clear hR hC hcell
  generalize hN : l.length = n at *
  have HN := Lib.hid hN
  clear hN
  go_enter Try.func87, Try.ntmps87
  go_wp2_with fail
  have hS0 := setC_new w 107 n l
  have hB0 : Below w.heap.size w (w.alloc (.cells (madeCells #[.int .i64 0, .int .i64 0, .int .i64 0, .int .i64 0, .int .i64 0, .int .i64 0] (n * 6)) 107)) := (Below.refl _ _).alloc (Nat.le_refl _) _
  go_loopg [13] n (fun g i wr => ∃ k : Nat, k ≤ n ∧ g = n - k ∧ i = .int .i64 k ∧ Below w.heap.size w wr ∧ Hid (SetC wr w.heap.size n k l))
  case atStart => exact ⟨0, Nat.zero_le _, rfl, rfl, hB0, Lib.hid hS0⟩
  case round =>
    obtain ⟨k, hk, hg, rfl, hB, hS⟩ := hrel
    rename World => wo
    have HGK := Lib.hid hg
    clear hg hS0 hB0 hmk
    by_cases hlt : k < n
    · have hq1 : wo.cell? ⟨b, off + k * 2, none⟩ = some (.int .i64 (vx l k).1) := (hB.cell (p := ⟨b, off + k * 2, none⟩) hb).trans (HC.out k hlt).1
      have hq2 : wo.cell? ⟨b, off + k * 2 + 1, none⟩ = some (.int .i64 (vx l k).2) := (hB.cell (p := ⟨b, off + k * 2 + 1, none⟩) hb).trans (HC.out k hlt).2
      have hzB := hB.size
      have hbo : b < wo.heap.size := by omega
      have hgo := hS.out.1
      have m1 : (k + n - 1) % n < n := Nat.mod_lt _ (by omega)
      have m2 : (k + 1) % n < n := Nat.mod_lt _ (by omega)
      have q3 := (hB.cell (p := ⟨b, off + (k + n - 1) % n * 2, none⟩) hb).trans (HC.out _ m1).1
      have q4 := (hB.cell (p := ⟨b, off + (k + n - 1) % n * 2 + 1, none⟩) hb).trans (HC.out _ m1).2
      have q5 := (hB.cell (p := ⟨b, off + (k + 1) % n * 2, none⟩) hb).trans (HC.out _ m2).1
      have q6 := (hB.cell (p := ⟨b, off + (k + 1) % n * 2 + 1, none⟩) hb).trans (HC.out _ m2).2
      have st : ∀ j, j < 6 → (∃ u, wo.cell? ⟨w.heap.size, k * 6 + j, none⟩ = some u) ∧ wo.frozen? ⟨w.heap.size, k * 6 + j, none⟩ = false := fun j hj => hS.out.2.1 _ (by omega)
      obtain ⟨⟨u0, a0⟩, f0⟩ := st 0 (by omega)
      obtain ⟨⟨u1, a1⟩, f1⟩ := st 1 (by omega)
      obtain ⟨⟨u2, a2⟩, f2⟩ := st 2 (by omega)
      obtain ⟨⟨u3, a3⟩, f3⟩ := st 3 (by omega)
      obtain ⟨⟨u4, a4⟩, f4⟩ := st 4 (by omega)
      obtain ⟨⟨u5, a5⟩, f5⟩ := st 5 (by omega)
      clear st
      simp only [Nat.add_zero] at a0 f0
      go_wp2_with fail
      have e1 : IntKind.i64.wrap ((k : Int) + (n : Int)) = (k : Int) + (n : Int) := IntWalk.i64_in _ (by omega)
      have e2 : IntKind.i64.wrap ((k : Int) + (n : Int) - 1) = (k : Int) + (n : Int) - 1 := IntWalk.i64_in _ (by omega)
      have e3 : IntKind.i64.wrap ((k : Int) + 1) = (k : Int) + 1 := IntWalk.i64_in _ (by omega)
      have e4 : ¬ n = 0 := by omega
      have e5 : (0 : Int) ≤ ((k : Int) + 1) % (n : Int) := Int.emod_nonneg _ (by omega)
      have e6 : ((k : Int) + 1) % (n : Int) < (n : Int) := Int.emod_lt_of_pos _ (by omega)
      have e7 : ((k : Int) + 1).tmod (n : Int) = ((k : Int) + 1) % (n : Int) := Int.tmod_eq_emod_of_nonneg (by omega)
      have e8 : (((k : Int) + 1) % (n : Int)).toNat = (k + 1) % n := by rw [show ((k : Int) + 1) % (n : Int) = (((k + 1) % n : Nat) : Int) by simp]; exact Int.toNat_natCast _
      have e9 : (0 : Int) ≤ ((k : Int) + (n : Int) - 1) % (n : Int) := Int.emod_nonneg _ (by omega)
      have e10 : ((k : Int) + (n : Int) - 1) % (n : Int) < (n : Int) := Int.emod_lt_of_pos _ (by omega)
      have e11 : ((k : Int) + (n : Int) - 1).tmod (n : Int) = ((k : Int) + (n : Int) - 1) % (n : Int) := Int.tmod_eq_emod_of_nonneg (by omega)
      have e12 : (((k : Int) + (n : Int) - 1) % (n : Int)).toNat = (k + n - 1) % n := by rw [show ((k : Int) + (n : Int) - 1) % (n : Int) = (((k + n - 1) % n : Nat) : Int) by rw [Int.natCast_emod]; congr 1; omega]; exact Int.toNat_natCast _
      obtain ⟨W2, hW2⟩ : ∃ W2, W2 = wo.alloc (.cells #[.int .i64 (vx l k).1, .int .i64 (vx l k).2] 56) := ⟨_, rfl⟩
      have al : ∀ b' o, b' < wo.heap.size → W2.cell? ⟨b', o, none⟩ = wo.cell? ⟨b', o, none⟩ := fun b' o h => by rw [hW2]; exact World.cell?_alloc_lt wo _ _ h
      have r1 : W2.cell? ⟨wo.heap.size, 0, none⟩ = some (.int .i64 (vx l k).1) := by rw [hW2]; go_simp
      have r2 : W2.cell? ⟨wo.heap.size, 1, none⟩ = some (.int .i64 (vx l k).2) := by rw [hW2]; go_simp
      have r3 := (al _ _ hbo).trans q3
      have r4 := (al _ _ hbo).trans q4
      have r5 := (al _ _ hbo).trans q5
      have r6 := (al _ _ hbo).trans q6
      have b0 := (al _ _ hgo).trans a0
      have b1 := (al _ _ hgo).trans a1
      have b2 := (al _ _ hgo).trans a2
      have b3 := (al _ _ hgo).trans a3
      have b4 := (al _ _ hgo).trans a4
      have b5 := (al _ _ hgo).trans a5
      have fz : ∀ o, W2.frozen? ⟨w.heap.size, o, none⟩ = wo.frozen? ⟨w.heap.size, o, none⟩ := fun o => by rw [hW2]; exact frozen?_alloc_cells _ _ _ _
      have g0 := (fz _).trans f0
      have g1 := (fz _).trans f1
      have g2 := (fz _).trans f2
      have g3 := (fz _).trans f3
      have g4 := (fz _).trans f4
      have g5 := (fz _).trans f5
      rw [← hW2]
      have HW2 := Lib.hid hW2
      clear hW2 al fz q3 q4 q5 q6 a0 a1 a2 a3 a4 a5 f0 f1 f2 f3 f4 f5 hq1 hq2
      refine wp_region_still_tail 21 (by kernel_rfl) (by kernel_rfl) ?_
      change wpStill _ _ W2.drew (fun a' => wpList _ _ _ _ a' W2.drew) _ _
      simp only [List.take_succ_cons, List.take_zero, List.drop_succ_cons, List.drop_zero]
      repeat still_step
      try refine wpStill_nil ?_
      clear e1 e2 e3 e4 e5 e6 e7 e8 e9 e10 e11 e12
      have B2 : Below w.heap.size w W2 := by rw [HW2.out]; exact Below.alloc hB hzB _
      have S2 : SetC W2 w.heap.size n k l := by rw [HW2.out]; exact setC_below hS.out (Below.alloc (Below.refl _ _) (Nat.le_refl _) _)
      have S3 := Lib.hid (setC_drew (setC_store S2 hlt HN.out))
      have B3 := Lib.hid (Below.drew (Below.setCell (Below.setCell (Below.setCell (Below.setCell (Below.setCell (Below.setCell B2 (p := ⟨w.heap.size, k * 6, none⟩) (Nat.le_refl _) (.int .i64 (vx l k).1)) (p := ⟨w.heap.size, k * 6 + 1, none⟩) (Nat.le_refl _) (.int .i64 (vx l k).2)) (p := ⟨w.heap.size, k * 6 + 2, none⟩) (Nat.le_refl _) (.int .i64 (vx l ((k + n - 1) % n)).1)) (p := ⟨w.heap.size, k * 6 + 3, none⟩) (Nat.le_refl _) (.int .i64 (vx l ((k + n - 1) % n)).2)) (p := ⟨w.heap.size, k * 6 + 4, none⟩) (Nat.le_refl _) (.int .i64 (vx l ((k + 1) % n)).1)) (p := ⟨w.heap.size, k * 6 + 5, none⟩) (Nat.le_refl _) (.int .i64 (vx l ((k + 1) % n)).2)))
      clear S2 hS
      go_wp2_with fail
      go_roundg (n - (k + 1))
      case measure => have := HGK.out; omega
      case rel => exact ⟨k + 1, by omega, rfl, by go_num, B3.out, S3⟩
    · have hkn : n = k := by omega
      subst hkn
      go_wp2_with fail
      go_ret
      exact ⟨rfl, hB, hS.out⟩
theorem cornersAround_any (A : Option Addr) (c : Nat) (l : List (Int × Int)) (w : World) (h1 : 1 ≤ l.length) (hn : l.length ≤ 10) (hR : Rd w w.heap.size A l) :
    Calls Try.prog 87 #[.slice A l.length c] w fun e w' => e = .returned (.slice (some ⟨w.heap.size, 0, none⟩) l.length l.length) ∧ Below w.heap.size w w' ∧ SetC w' w.heap.size l.length l.length l := cornersAroundW_any A c l w h1 (by omega) hR
end Go.Proofs.Ytheddoinnakneaa
/- contracts: the program's sums around a polygon -/
namespace Go.Proofs.Ytheddoinnakneaa
open Go.ChangeShapes Go.WideShapes Go.ChangeAt Go.RowKit Go.Joins
set_option linter.unusedVariables false
set_option linter.unusedSimpArgs false
set_option maxRecDepth 4000
end Go.Proofs.Ytheddoinnakneaa
/- contracts: do two lines cross, do two lines meet, the program -/
namespace Go.Proofs.Ytheddoinnakneaa
open Go.ChangeShapes Go.WideShapes Go.ChangeAt Go.RowKit Go.Joins
set_option linter.unusedVariables false
set_option linter.unusedSimpArgs false
set_option maxRecDepth 4000
theorem linesCross_any (a1 a2 b1 b2 c1 c2 d1 d2 : Int) (w : World) (pa : isPegB a1 a2 = true) (pb : isPegB b1 b2 = true) (pc : isPegB c1 c2 = true) (pd : isPegB d1 d2 = true) :
    Calls Try.prog 142 #[.agg #[.int .i64 a1, .int .i64 a2], .agg #[.int .i64 b1, .int .i64 b2], .agg #[.int .i64 c1, .int .i64 c2], .agg #[.int .i64 d1, .int .i64 d2]] w fun e w' => e = .returned (.bool (decide (twI a1 a2 b1 b2 c1 c2 * twI a1 a2 b1 b2 d1 d2 < 0) && decide (twI c1 c2 d1 d2 a1 a2 * twI c1 c2 d1 d2 b1 b2 < 0))) ∧ Below w.heap.size w w' := by
  have ha := sz_of pa
  have hb := sz_of pb
  have hc := sz_of pc
  have hd := sz_of pd
  have T1 := Lib.hid (fun W => twiceThree_any a1 a2 b1 b2 c1 c2 W ha hb hc)
  have T2 := Lib.hid (fun W => twiceThree_any a1 a2 b1 b2 d1 d2 W ha hb hd)
  have T3 := Lib.hid (fun W => twiceThree_any c1 c2 d1 d2 a1 a2 W hc hd ha)
  have T4 := Lib.hid (fun W => twiceThree_any c1 c2 d1 d2 b1 b2 W hc hd hb)
  have q1 := tw_bd40 pa pb pc
  have q2 := tw_bd40 pa pb pd
  have q3 := tw_bd40 pc pd pa
  have q4 := tw_bd40 pc pd pb
  clear ha hb hc hd pa pb pc pd
  generalize twI a1 a2 b1 b2 c1 c2 = t1 at *
  generalize twI a1 a2 b1 b2 d1 d2 = t2 at *
  generalize twI c1 c2 d1 d2 a1 a2 = t3 at *
  generalize twI c1 c2 d1 d2 b1 b2 = t4 at *
  have r1 := mul_bd (m := 12800) (n := 12800) q1.1 q1.2 q2.1 q2.2
  have r2 := mul_bd (m := 12800) (n := 12800) q3.1 q3.2 q4.1 q4.2
  obtain ⟨p1, p2⟩ := r1
  obtain ⟨p3, p4⟩ := r2
  have e1 : IntKind.i64.wrap (t1 * t2) = t1 * t2 := IntWalk.i64_in _ (by omega)
  have e2 : IntKind.i64.wrap (t3 * t4) = t3 * t4 := IntWalk.i64_in _ (by omega)
  go_enter Try.func142, Try.ntmps142
  go_wp2_with fail
  by_cases hm : t1 * t2 < 0
  · have hd := decide_eq_true hm
    refine wp_region_B (fun W => Below w.heap.size w W ∧ w.heap.size + 3 < W.heap.size ∧ W.cell? ⟨w.heap.size, 0, none⟩ = some (.int .i64 a1) ∧ W.cell? ⟨w.heap.size, 1, none⟩ = some (.int .i64 a2) ∧ W.cell? ⟨w.heap.size + 1, 0, none⟩ = some (.int .i64 b1) ∧ W.cell? ⟨w.heap.size + 1, 1, none⟩ = some (.int .i64 b2) ∧ W.cell? ⟨w.heap.size + 2, 0, none⟩ = some (.int .i64 c1) ∧ W.cell? ⟨w.heap.size + 2, 1, none⟩ = some (.int .i64 c2) ∧ W.cell? ⟨w.heap.size + 3, 0, none⟩ = some (.int .i64 d1) ∧ W.cell? ⟨w.heap.size + 3, 1, none⟩ = some (.int .i64 d2)) (by kernel_rfl) (held4 (box4 w _ a1 a2 b1 b2 c1 c2 d1 d2) ((Below.refl _ _).drew)) ?_
    first | refine wpB_skip 0 rfl (by kernel_rfl) (by kernel_rfl) (by kernel_rfl) (by rfl) ?_ | (refine wpB_text 0 (v := ?_) rfl (by kernel_rfl) (by kernel_rfl) (by kernel_rfl) (by rfl) (fun W hW => ?_) ?_; rotate_left; (obtain ⟨k1, k2, k3, k4, k5, k6, k7, k8, k9, k10⟩ := hW;  go_simp; refine comes_v ?_; exact ⟨k1, k2, k3, k4, k5, k6, k7, k8, k9, k10⟩))
    (try simp only [Act.put, List.setIfInBounds_toArray, List.set_cons_zero, List.set_cons_succ])
    first | refine wpB_skip 1 rfl (by kernel_rfl) (by kernel_rfl) (by kernel_rfl) (by rfl) ?_ | (refine wpB_text 1 (v := ?_) rfl (by kernel_rfl) (by kernel_rfl) (by kernel_rfl) (by rfl) (fun W hW => ?_) ?_; rotate_left; (obtain ⟨k1, k2, k3, k4, k5, k6, k7, k8, k9, k10⟩ := hW;  go_simp; refine comes_v ?_; exact ⟨k1, k2, k3, k4, k5, k6, k7, k8, k9, k10⟩))
    (try simp only [Act.put, List.setIfInBounds_toArray, List.set_cons_zero, List.set_cons_succ])
    first | refine wpB_skip 2 rfl (by kernel_rfl) (by kernel_rfl) (by kernel_rfl) (by rfl) ?_ | (refine wpB_text 2 (v := ?_) rfl (by kernel_rfl) (by kernel_rfl) (by kernel_rfl) (by rfl) (fun W hW => ?_) ?_; rotate_left; (obtain ⟨k1, k2, k3, k4, k5, k6, k7, k8, k9, k10⟩ := hW;  go_simp; refine comes_v ?_; exact ⟨k1, k2, k3, k4, k5, k6, k7, k8, k9, k10⟩))
    (try simp only [Act.put, List.setIfInBounds_toArray, List.set_cons_zero, List.set_cons_succ])
    first | refine wpB_skip 3 rfl (by kernel_rfl) (by kernel_rfl) (by kernel_rfl) (by rfl) ?_ | (refine wpB_text 3 (v := .int .i64 t1) rfl (by kernel_rfl) (by kernel_rfl) (by kernel_rfl) (by rfl) (fun W hW => ?_) ?_; (obtain ⟨k1, k2, k3, k4, k5, k6, k7, k8, k9, k10⟩ := hW;  go_simp; exact comes_c ( T1.out _) (fun wn hbn => held4 ⟨k1, k2, k3, k4, k5, k6, k7, k8, k9, k10⟩ hbn)))
    (try simp only [Act.put, List.setIfInBounds_toArray, List.set_cons_zero, List.set_cons_succ])
    first | refine wpB_skip 4 rfl (by kernel_rfl) (by kernel_rfl) (by kernel_rfl) (by rfl) ?_ | (refine wpB_text 4 (v := ?_) rfl (by kernel_rfl) (by kernel_rfl) (by kernel_rfl) (by rfl) (fun W hW => ?_) ?_; rotate_left; (obtain ⟨k1, k2, k3, k4, k5, k6, k7, k8, k9, k10⟩ := hW;  go_simp; refine comes_v ?_; exact ⟨k1, k2, k3, k4, k5, k6, k7, k8, k9, k10⟩))
    (try simp only [Act.put, List.setIfInBounds_toArray, List.set_cons_zero, List.set_cons_succ])
    first | refine wpB_skip 5 rfl (by kernel_rfl) (by kernel_rfl) (by kernel_rfl) (by rfl) ?_ | (refine wpB_text 5 (v := ?_) rfl (by kernel_rfl) (by kernel_rfl) (by kernel_rfl) (by rfl) (fun W hW => ?_) ?_; rotate_left; (obtain ⟨k1, k2, k3, k4, k5, k6, k7, k8, k9, k10⟩ := hW;  go_simp; refine comes_v ?_; exact ⟨k1, k2, k3, k4, k5, k6, k7, k8, k9, k10⟩))
    (try simp only [Act.put, List.setIfInBounds_toArray, List.set_cons_zero, List.set_cons_succ])
    first | refine wpB_skip 6 rfl (by kernel_rfl) (by kernel_rfl) (by kernel_rfl) (by rfl) ?_ | (refine wpB_text 6 (v := ?_) rfl (by kernel_rfl) (by kernel_rfl) (by kernel_rfl) (by rfl) (fun W hW => ?_) ?_; rotate_left; (obtain ⟨k1, k2, k3, k4, k5, k6, k7, k8, k9, k10⟩ := hW;  go_simp; refine comes_v ?_; exact ⟨k1, k2, k3, k4, k5, k6, k7, k8, k9, k10⟩))
    (try simp only [Act.put, List.setIfInBounds_toArray, List.set_cons_zero, List.set_cons_succ])
    first | refine wpB_skip 7 rfl (by kernel_rfl) (by kernel_rfl) (by kernel_rfl) (by rfl) ?_ | (refine wpB_text 7 (v := .int .i64 t2) rfl (by kernel_rfl) (by kernel_rfl) (by kernel_rfl) (by rfl) (fun W hW => ?_) ?_; (obtain ⟨k1, k2, k3, k4, k5, k6, k7, k8, k9, k10⟩ := hW;  go_simp; exact comes_c ( T2.out _) (fun wn hbn => held4 ⟨k1, k2, k3, k4, k5, k6, k7, k8, k9, k10⟩ hbn)))
    (try simp only [Act.put, List.setIfInBounds_toArray, List.set_cons_zero, List.set_cons_succ])
    first | refine wpB_skip 8 rfl (by kernel_rfl) (by kernel_rfl) (by kernel_rfl) (by rfl) ?_ | (refine wpB_text 8 (v := ?_) rfl (by kernel_rfl) (by kernel_rfl) (by kernel_rfl) (by rfl) (fun W hW => ?_) ?_; rotate_left; (obtain ⟨k1, k2, k3, k4, k5, k6, k7, k8, k9, k10⟩ := hW;  go_simp; refine comes_v ?_; exact ⟨k1, k2, k3, k4, k5, k6, k7, k8, k9, k10⟩))
    (try simp only [Act.put, List.setIfInBounds_toArray, List.set_cons_zero, List.set_cons_succ])
    first | refine wpB_skip 9 rfl (by kernel_rfl) (by kernel_rfl) (by kernel_rfl) (by rfl) ?_ | (refine wpB_text 9 (v := ?_) rfl (by kernel_rfl) (by kernel_rfl) (by kernel_rfl) (by rfl) (fun W hW => ?_) ?_; rotate_left; (obtain ⟨k1, k2, k3, k4, k5, k6, k7, k8, k9, k10⟩ := hW;  go_simp; refine comes_v ?_; exact ⟨k1, k2, k3, k4, k5, k6, k7, k8, k9, k10⟩))
    (try simp only [Act.put, List.setIfInBounds_toArray, List.set_cons_zero, List.set_cons_succ])
    first | refine wpB_skip 10 rfl (by kernel_rfl) (by kernel_rfl) (by kernel_rfl) (by rfl) ?_ | (refine wpB_text 10 (v := ?_) rfl (by kernel_rfl) (by kernel_rfl) (by kernel_rfl) (by rfl) (fun W hW => ?_) ?_; rotate_left; (obtain ⟨k1, k2, k3, k4, k5, k6, k7, k8, k9, k10⟩ := hW;  go_simp; refine comes_v ?_; exact ⟨k1, k2, k3, k4, k5, k6, k7, k8, k9, k10⟩))
    (try simp only [Act.put, List.setIfInBounds_toArray, List.set_cons_zero, List.set_cons_succ])
    first | refine wpB_skip 11 rfl (by kernel_rfl) (by kernel_rfl) (by kernel_rfl) (by rfl) ?_ | (refine wpB_text 11 (v := ?_) rfl (by kernel_rfl) (by kernel_rfl) (by kernel_rfl) (by rfl) (fun W hW => ?_) ?_; rotate_left; (obtain ⟨k1, k2, k3, k4, k5, k6, k7, k8, k9, k10⟩ := hW;  go_simp; refine comes_v ?_; exact ⟨k1, k2, k3, k4, k5, k6, k7, k8, k9, k10⟩))
    (try simp only [Act.put, List.setIfInBounds_toArray, List.set_cons_zero, List.set_cons_succ])
    first | refine wpB_skip 12 rfl (by kernel_rfl) (by kernel_rfl) (by kernel_rfl) (by rfl) ?_ | (refine wpB_text 12 (v := ?_) rfl (by kernel_rfl) (by kernel_rfl) (by kernel_rfl) (by rfl) (fun W hW => ?_) ?_; rotate_left; (obtain ⟨k1, k2, k3, k4, k5, k6, k7, k8, k9, k10⟩ := hW;  go_simp; refine comes_v ?_; exact ⟨k1, k2, k3, k4, k5, k6, k7, k8, k9, k10⟩))
    (try simp only [Act.put, List.setIfInBounds_toArray, List.set_cons_zero, List.set_cons_succ])
    first | refine wpB_skip 13 rfl (by kernel_rfl) (by kernel_rfl) (by kernel_rfl) (by rfl) ?_ | (refine wpB_text 13 (v := ?_) rfl (by kernel_rfl) (by kernel_rfl) (by kernel_rfl) (by rfl) (fun W hW => ?_) ?_; rotate_left; (obtain ⟨k1, k2, k3, k4, k5, k6, k7, k8, k9, k10⟩ := hW;  go_simp; refine comes_v ?_; exact ⟨k1, k2, k3, k4, k5, k6, k7, k8, k9, k10⟩))
    (try simp only [Act.put, List.setIfInBounds_toArray, List.set_cons_zero, List.set_cons_succ])
    first | refine wpB_skip 14 rfl (by kernel_rfl) (by kernel_rfl) (by kernel_rfl) (by rfl) ?_ | (refine wpB_text 14 (v := .int .i64 t3) rfl (by kernel_rfl) (by kernel_rfl) (by kernel_rfl) (by rfl) (fun W hW => ?_) ?_; (obtain ⟨k1, k2, k3, k4, k5, k6, k7, k8, k9, k10⟩ := hW;  go_simp; exact comes_c ( T3.out _) (fun wn hbn => held4 ⟨k1, k2, k3, k4, k5, k6, k7, k8, k9, k10⟩ hbn)))
    (try simp only [Act.put, List.setIfInBounds_toArray, List.set_cons_zero, List.set_cons_succ])
    first | refine wpB_skip 15 rfl (by kernel_rfl) (by kernel_rfl) (by kernel_rfl) (by rfl) ?_ | (refine wpB_text 15 (v := ?_) rfl (by kernel_rfl) (by kernel_rfl) (by kernel_rfl) (by rfl) (fun W hW => ?_) ?_; rotate_left; (obtain ⟨k1, k2, k3, k4, k5, k6, k7, k8, k9, k10⟩ := hW;  go_simp; refine comes_v ?_; exact ⟨k1, k2, k3, k4, k5, k6, k7, k8, k9, k10⟩))
    (try simp only [Act.put, List.setIfInBounds_toArray, List.set_cons_zero, List.set_cons_succ])
    first | refine wpB_skip 16 rfl (by kernel_rfl) (by kernel_rfl) (by kernel_rfl) (by rfl) ?_ | (refine wpB_text 16 (v := ?_) rfl (by kernel_rfl) (by kernel_rfl) (by kernel_rfl) (by rfl) (fun W hW => ?_) ?_; rotate_left; (obtain ⟨k1, k2, k3, k4, k5, k6, k7, k8, k9, k10⟩ := hW;  go_simp; refine comes_v ?_; exact ⟨k1, k2, k3, k4, k5, k6, k7, k8, k9, k10⟩))
    (try simp only [Act.put, List.setIfInBounds_toArray, List.set_cons_zero, List.set_cons_succ])
    first | refine wpB_skip 17 rfl (by kernel_rfl) (by kernel_rfl) (by kernel_rfl) (by rfl) ?_ | (refine wpB_text 17 (v := ?_) rfl (by kernel_rfl) (by kernel_rfl) (by kernel_rfl) (by rfl) (fun W hW => ?_) ?_; rotate_left; (obtain ⟨k1, k2, k3, k4, k5, k6, k7, k8, k9, k10⟩ := hW;  go_simp; refine comes_v ?_; exact ⟨k1, k2, k3, k4, k5, k6, k7, k8, k9, k10⟩))
    (try simp only [Act.put, List.setIfInBounds_toArray, List.set_cons_zero, List.set_cons_succ])
    first | refine wpB_skip 18 rfl (by kernel_rfl) (by kernel_rfl) (by kernel_rfl) (by rfl) ?_ | (refine wpB_text 18 (v := .int .i64 t4) rfl (by kernel_rfl) (by kernel_rfl) (by kernel_rfl) (by rfl) (fun W hW => ?_) ?_; (obtain ⟨k1, k2, k3, k4, k5, k6, k7, k8, k9, k10⟩ := hW;  go_simp; exact comes_c ( T4.out _) (fun wn hbn => held4 ⟨k1, k2, k3, k4, k5, k6, k7, k8, k9, k10⟩ hbn)))
    (try simp only [Act.put, List.setIfInBounds_toArray, List.set_cons_zero, List.set_cons_succ])
    first | refine wpB_skip 19 rfl (by kernel_rfl) (by kernel_rfl) (by kernel_rfl) (by rfl) ?_ | (refine wpB_text 19 (v := ?_) rfl (by kernel_rfl) (by kernel_rfl) (by kernel_rfl) (by rfl) (fun W hW => ?_) ?_; rotate_left; (obtain ⟨k1, k2, k3, k4, k5, k6, k7, k8, k9, k10⟩ := hW;  go_simp; refine comes_v ?_; exact ⟨k1, k2, k3, k4, k5, k6, k7, k8, k9, k10⟩))
    (try simp only [Act.put, List.setIfInBounds_toArray, List.set_cons_zero, List.set_cons_succ])
    first | refine wpB_skip 20 rfl (by kernel_rfl) (by kernel_rfl) (by kernel_rfl) (by rfl) ?_ | (refine wpB_text 20 (v := ?_) rfl (by kernel_rfl) (by kernel_rfl) (by kernel_rfl) (by rfl) (fun W hW => ?_) ?_; rotate_left; (obtain ⟨k1, k2, k3, k4, k5, k6, k7, k8, k9, k10⟩ := hW;  go_simp; refine comes_v ?_; exact ⟨k1, k2, k3, k4, k5, k6, k7, k8, k9, k10⟩))
    (try simp only [Act.put, List.setIfInBounds_toArray, List.set_cons_zero, List.set_cons_succ])
    first | refine wpB_skip 21 rfl (by kernel_rfl) (by kernel_rfl) (by kernel_rfl) (by rfl) ?_ | (refine wpB_text 21 (v := ?_) rfl (by kernel_rfl) (by kernel_rfl) (by kernel_rfl) (by rfl) (fun W hW => ?_) ?_; rotate_left; (obtain ⟨k1, k2, k3, k4, k5, k6, k7, k8, k9, k10⟩ := hW;  go_simp; refine comes_v ?_; exact ⟨k1, k2, k3, k4, k5, k6, k7, k8, k9, k10⟩))
    (try simp only [Act.put, List.setIfInBounds_toArray, List.set_cons_zero, List.set_cons_succ])
    first | refine wpB_skip 22 rfl (by kernel_rfl) (by kernel_rfl) (by kernel_rfl) (by rfl) ?_ | (refine wpB_text 22 (v := ?_) rfl (by kernel_rfl) (by kernel_rfl) (by kernel_rfl) (by rfl) (fun W hW => ?_) ?_; rotate_left; (obtain ⟨k1, k2, k3, k4, k5, k6, k7, k8, k9, k10⟩ := hW;  go_simp; refine comes_v ?_; exact ⟨k1, k2, k3, k4, k5, k6, k7, k8, k9, k10⟩))
    (try simp only [Act.put, List.setIfInBounds_toArray, List.set_cons_zero, List.set_cons_succ])
    refine wpB_done (by kernel_rfl) ?_ _
    intro W hW; obtain ⟨k1, k2, k3, k4, k5, k6, k7, k8, k9, k10⟩ := hW
    clear e1 e2
    go_wp2_with fail
    go_ret
    exact ⟨ret_bool (by simp [hm]), k1⟩
  · have hd := decide_eq_false hm
    refine wp_region_B (fun W => Below w.heap.size w W ∧ w.heap.size + 3 < W.heap.size ∧ W.cell? ⟨w.heap.size, 0, none⟩ = some (.int .i64 a1) ∧ W.cell? ⟨w.heap.size, 1, none⟩ = some (.int .i64 a2) ∧ W.cell? ⟨w.heap.size + 1, 0, none⟩ = some (.int .i64 b1) ∧ W.cell? ⟨w.heap.size + 1, 1, none⟩ = some (.int .i64 b2) ∧ W.cell? ⟨w.heap.size + 2, 0, none⟩ = some (.int .i64 c1) ∧ W.cell? ⟨w.heap.size + 2, 1, none⟩ = some (.int .i64 c2) ∧ W.cell? ⟨w.heap.size + 3, 0, none⟩ = some (.int .i64 d1) ∧ W.cell? ⟨w.heap.size + 3, 1, none⟩ = some (.int .i64 d2)) (by kernel_rfl) (held4 (box4 w _ a1 a2 b1 b2 c1 c2 d1 d2) ((Below.refl _ _).drew)) ?_
    first | refine wpB_skip 0 rfl (by kernel_rfl) (by kernel_rfl) (by kernel_rfl) (by rfl) ?_ | (refine wpB_text 0 (v := ?_) rfl (by kernel_rfl) (by kernel_rfl) (by kernel_rfl) (by rfl) (fun W hW => ?_) ?_; rotate_left; (obtain ⟨k1, k2, k3, k4, k5, k6, k7, k8, k9, k10⟩ := hW;  go_simp; refine comes_v ?_; exact ⟨k1, k2, k3, k4, k5, k6, k7, k8, k9, k10⟩))
    (try simp only [Act.put, List.setIfInBounds_toArray, List.set_cons_zero, List.set_cons_succ])
    first | refine wpB_skip 1 rfl (by kernel_rfl) (by kernel_rfl) (by kernel_rfl) (by rfl) ?_ | (refine wpB_text 1 (v := ?_) rfl (by kernel_rfl) (by kernel_rfl) (by kernel_rfl) (by rfl) (fun W hW => ?_) ?_; rotate_left; (obtain ⟨k1, k2, k3, k4, k5, k6, k7, k8, k9, k10⟩ := hW;  go_simp; refine comes_v ?_; exact ⟨k1, k2, k3, k4, k5, k6, k7, k8, k9, k10⟩))
    (try simp only [Act.put, List.setIfInBounds_toArray, List.set_cons_zero, List.set_cons_succ])
    first | refine wpB_skip 2 rfl (by kernel_rfl) (by kernel_rfl) (by kernel_rfl) (by rfl) ?_ | (refine wpB_text 2 (v := ?_) rfl (by kernel_rfl) (by kernel_rfl) (by kernel_rfl) (by rfl) (fun W hW => ?_) ?_; rotate_left; (obtain ⟨k1, k2, k3, k4, k5, k6, k7, k8, k9, k10⟩ := hW;  go_simp; refine comes_v ?_; exact ⟨k1, k2, k3, k4, k5, k6, k7, k8, k9, k10⟩))
    (try simp only [Act.put, List.setIfInBounds_toArray, List.set_cons_zero, List.set_cons_succ])
    first | refine wpB_skip 3 rfl (by kernel_rfl) (by kernel_rfl) (by kernel_rfl) (by rfl) ?_ | (refine wpB_text 3 (v := .int .i64 t1) rfl (by kernel_rfl) (by kernel_rfl) (by kernel_rfl) (by rfl) (fun W hW => ?_) ?_; (obtain ⟨k1, k2, k3, k4, k5, k6, k7, k8, k9, k10⟩ := hW;  go_simp; exact comes_c ( T1.out _) (fun wn hbn => held4 ⟨k1, k2, k3, k4, k5, k6, k7, k8, k9, k10⟩ hbn)))
    (try simp only [Act.put, List.setIfInBounds_toArray, List.set_cons_zero, List.set_cons_succ])
    first | refine wpB_skip 4 rfl (by kernel_rfl) (by kernel_rfl) (by kernel_rfl) (by rfl) ?_ | (refine wpB_text 4 (v := ?_) rfl (by kernel_rfl) (by kernel_rfl) (by kernel_rfl) (by rfl) (fun W hW => ?_) ?_; rotate_left; (obtain ⟨k1, k2, k3, k4, k5, k6, k7, k8, k9, k10⟩ := hW;  go_simp; refine comes_v ?_; exact ⟨k1, k2, k3, k4, k5, k6, k7, k8, k9, k10⟩))
    (try simp only [Act.put, List.setIfInBounds_toArray, List.set_cons_zero, List.set_cons_succ])
    first | refine wpB_skip 5 rfl (by kernel_rfl) (by kernel_rfl) (by kernel_rfl) (by rfl) ?_ | (refine wpB_text 5 (v := ?_) rfl (by kernel_rfl) (by kernel_rfl) (by kernel_rfl) (by rfl) (fun W hW => ?_) ?_; rotate_left; (obtain ⟨k1, k2, k3, k4, k5, k6, k7, k8, k9, k10⟩ := hW;  go_simp; refine comes_v ?_; exact ⟨k1, k2, k3, k4, k5, k6, k7, k8, k9, k10⟩))
    (try simp only [Act.put, List.setIfInBounds_toArray, List.set_cons_zero, List.set_cons_succ])
    first | refine wpB_skip 6 rfl (by kernel_rfl) (by kernel_rfl) (by kernel_rfl) (by rfl) ?_ | (refine wpB_text 6 (v := ?_) rfl (by kernel_rfl) (by kernel_rfl) (by kernel_rfl) (by rfl) (fun W hW => ?_) ?_; rotate_left; (obtain ⟨k1, k2, k3, k4, k5, k6, k7, k8, k9, k10⟩ := hW;  go_simp; refine comes_v ?_; exact ⟨k1, k2, k3, k4, k5, k6, k7, k8, k9, k10⟩))
    (try simp only [Act.put, List.setIfInBounds_toArray, List.set_cons_zero, List.set_cons_succ])
    first | refine wpB_skip 7 rfl (by kernel_rfl) (by kernel_rfl) (by kernel_rfl) (by rfl) ?_ | (refine wpB_text 7 (v := .int .i64 t2) rfl (by kernel_rfl) (by kernel_rfl) (by kernel_rfl) (by rfl) (fun W hW => ?_) ?_; (obtain ⟨k1, k2, k3, k4, k5, k6, k7, k8, k9, k10⟩ := hW;  go_simp; exact comes_c ( T2.out _) (fun wn hbn => held4 ⟨k1, k2, k3, k4, k5, k6, k7, k8, k9, k10⟩ hbn)))
    (try simp only [Act.put, List.setIfInBounds_toArray, List.set_cons_zero, List.set_cons_succ])
    first | refine wpB_skip 8 rfl (by kernel_rfl) (by kernel_rfl) (by kernel_rfl) (by rfl) ?_ | (refine wpB_text 8 (v := ?_) rfl (by kernel_rfl) (by kernel_rfl) (by kernel_rfl) (by rfl) (fun W hW => ?_) ?_; rotate_left; (obtain ⟨k1, k2, k3, k4, k5, k6, k7, k8, k9, k10⟩ := hW;  go_simp; refine comes_v ?_; exact ⟨k1, k2, k3, k4, k5, k6, k7, k8, k9, k10⟩))
    (try simp only [Act.put, List.setIfInBounds_toArray, List.set_cons_zero, List.set_cons_succ])
    first | refine wpB_skip 9 rfl (by kernel_rfl) (by kernel_rfl) (by kernel_rfl) (by rfl) ?_ | (refine wpB_text 9 (v := ?_) rfl (by kernel_rfl) (by kernel_rfl) (by kernel_rfl) (by rfl) (fun W hW => ?_) ?_; rotate_left; (obtain ⟨k1, k2, k3, k4, k5, k6, k7, k8, k9, k10⟩ := hW;  go_simp; refine comes_v ?_; exact ⟨k1, k2, k3, k4, k5, k6, k7, k8, k9, k10⟩))
    (try simp only [Act.put, List.setIfInBounds_toArray, List.set_cons_zero, List.set_cons_succ])
    first | refine wpB_skip 10 rfl (by kernel_rfl) (by kernel_rfl) (by kernel_rfl) (by rfl) ?_ | (refine wpB_text 10 (v := ?_) rfl (by kernel_rfl) (by kernel_rfl) (by kernel_rfl) (by rfl) (fun W hW => ?_) ?_; rotate_left; (obtain ⟨k1, k2, k3, k4, k5, k6, k7, k8, k9, k10⟩ := hW;  go_simp; refine comes_v ?_; exact ⟨k1, k2, k3, k4, k5, k6, k7, k8, k9, k10⟩))
    (try simp only [Act.put, List.setIfInBounds_toArray, List.set_cons_zero, List.set_cons_succ])
    first | refine wpB_skip 11 rfl (by kernel_rfl) (by kernel_rfl) (by kernel_rfl) (by rfl) ?_ | (refine wpB_text 11 (v := ?_) rfl (by kernel_rfl) (by kernel_rfl) (by kernel_rfl) (by rfl) (fun W hW => ?_) ?_; rotate_left; (obtain ⟨k1, k2, k3, k4, k5, k6, k7, k8, k9, k10⟩ := hW;  go_simp; refine comes_v ?_; exact ⟨k1, k2, k3, k4, k5, k6, k7, k8, k9, k10⟩))
    (try simp only [Act.put, List.setIfInBounds_toArray, List.set_cons_zero, List.set_cons_succ])
    first | refine wpB_skip 12 rfl (by kernel_rfl) (by kernel_rfl) (by kernel_rfl) (by rfl) ?_ | (refine wpB_text 12 (v := ?_) rfl (by kernel_rfl) (by kernel_rfl) (by kernel_rfl) (by rfl) (fun W hW => ?_) ?_; rotate_left; (obtain ⟨k1, k2, k3, k4, k5, k6, k7, k8, k9, k10⟩ := hW;  go_simp; refine comes_v ?_; exact ⟨k1, k2, k3, k4, k5, k6, k7, k8, k9, k10⟩))
    (try simp only [Act.put, List.setIfInBounds_toArray, List.set_cons_zero, List.set_cons_succ])
    first | refine wpB_skip 13 rfl (by kernel_rfl) (by kernel_rfl) (by kernel_rfl) (by rfl) ?_ | (refine wpB_text 13 (v := ?_) rfl (by kernel_rfl) (by kernel_rfl) (by kernel_rfl) (by rfl) (fun W hW => ?_) ?_; rotate_left; (obtain ⟨k1, k2, k3, k4, k5, k6, k7, k8, k9, k10⟩ := hW;  go_simp; refine comes_v ?_; exact ⟨k1, k2, k3, k4, k5, k6, k7, k8, k9, k10⟩))
    (try simp only [Act.put, List.setIfInBounds_toArray, List.set_cons_zero, List.set_cons_succ])
    first | refine wpB_skip 14 rfl (by kernel_rfl) (by kernel_rfl) (by kernel_rfl) (by rfl) ?_ | (refine wpB_text 14 (v := .int .i64 t3) rfl (by kernel_rfl) (by kernel_rfl) (by kernel_rfl) (by rfl) (fun W hW => ?_) ?_; (obtain ⟨k1, k2, k3, k4, k5, k6, k7, k8, k9, k10⟩ := hW;  go_simp; exact comes_c ( T3.out _) (fun wn hbn => held4 ⟨k1, k2, k3, k4, k5, k6, k7, k8, k9, k10⟩ hbn)))
    (try simp only [Act.put, List.setIfInBounds_toArray, List.set_cons_zero, List.set_cons_succ])
    first | refine wpB_skip 15 rfl (by kernel_rfl) (by kernel_rfl) (by kernel_rfl) (by rfl) ?_ | (refine wpB_text 15 (v := ?_) rfl (by kernel_rfl) (by kernel_rfl) (by kernel_rfl) (by rfl) (fun W hW => ?_) ?_; rotate_left; (obtain ⟨k1, k2, k3, k4, k5, k6, k7, k8, k9, k10⟩ := hW;  go_simp; refine comes_v ?_; exact ⟨k1, k2, k3, k4, k5, k6, k7, k8, k9, k10⟩))
    (try simp only [Act.put, List.setIfInBounds_toArray, List.set_cons_zero, List.set_cons_succ])
    first | refine wpB_skip 16 rfl (by kernel_rfl) (by kernel_rfl) (by kernel_rfl) (by rfl) ?_ | (refine wpB_text 16 (v := ?_) rfl (by kernel_rfl) (by kernel_rfl) (by kernel_rfl) (by rfl) (fun W hW => ?_) ?_; rotate_left; (obtain ⟨k1, k2, k3, k4, k5, k6, k7, k8, k9, k10⟩ := hW;  go_simp; refine comes_v ?_; exact ⟨k1, k2, k3, k4, k5, k6, k7, k8, k9, k10⟩))
    (try simp only [Act.put, List.setIfInBounds_toArray, List.set_cons_zero, List.set_cons_succ])
    first | refine wpB_skip 17 rfl (by kernel_rfl) (by kernel_rfl) (by kernel_rfl) (by rfl) ?_ | (refine wpB_text 17 (v := ?_) rfl (by kernel_rfl) (by kernel_rfl) (by kernel_rfl) (by rfl) (fun W hW => ?_) ?_; rotate_left; (obtain ⟨k1, k2, k3, k4, k5, k6, k7, k8, k9, k10⟩ := hW;  go_simp; refine comes_v ?_; exact ⟨k1, k2, k3, k4, k5, k6, k7, k8, k9, k10⟩))
    (try simp only [Act.put, List.setIfInBounds_toArray, List.set_cons_zero, List.set_cons_succ])
    first | refine wpB_skip 18 rfl (by kernel_rfl) (by kernel_rfl) (by kernel_rfl) (by rfl) ?_ | (refine wpB_text 18 (v := .int .i64 t4) rfl (by kernel_rfl) (by kernel_rfl) (by kernel_rfl) (by rfl) (fun W hW => ?_) ?_; (obtain ⟨k1, k2, k3, k4, k5, k6, k7, k8, k9, k10⟩ := hW;  go_simp; exact comes_c ( T4.out _) (fun wn hbn => held4 ⟨k1, k2, k3, k4, k5, k6, k7, k8, k9, k10⟩ hbn)))
    (try simp only [Act.put, List.setIfInBounds_toArray, List.set_cons_zero, List.set_cons_succ])
    first | refine wpB_skip 19 rfl (by kernel_rfl) (by kernel_rfl) (by kernel_rfl) (by rfl) ?_ | (refine wpB_text 19 (v := ?_) rfl (by kernel_rfl) (by kernel_rfl) (by kernel_rfl) (by rfl) (fun W hW => ?_) ?_; rotate_left; (obtain ⟨k1, k2, k3, k4, k5, k6, k7, k8, k9, k10⟩ := hW;  go_simp; refine comes_v ?_; exact ⟨k1, k2, k3, k4, k5, k6, k7, k8, k9, k10⟩))
    (try simp only [Act.put, List.setIfInBounds_toArray, List.set_cons_zero, List.set_cons_succ])
    first | refine wpB_skip 20 rfl (by kernel_rfl) (by kernel_rfl) (by kernel_rfl) (by rfl) ?_ | (refine wpB_text 20 (v := ?_) rfl (by kernel_rfl) (by kernel_rfl) (by kernel_rfl) (by rfl) (fun W hW => ?_) ?_; rotate_left; (obtain ⟨k1, k2, k3, k4, k5, k6, k7, k8, k9, k10⟩ := hW;  go_simp; refine comes_v ?_; exact ⟨k1, k2, k3, k4, k5, k6, k7, k8, k9, k10⟩))
    (try simp only [Act.put, List.setIfInBounds_toArray, List.set_cons_zero, List.set_cons_succ])
    first | refine wpB_skip 21 rfl (by kernel_rfl) (by kernel_rfl) (by kernel_rfl) (by rfl) ?_ | (refine wpB_text 21 (v := ?_) rfl (by kernel_rfl) (by kernel_rfl) (by kernel_rfl) (by rfl) (fun W hW => ?_) ?_; rotate_left; (obtain ⟨k1, k2, k3, k4, k5, k6, k7, k8, k9, k10⟩ := hW;  go_simp; refine comes_v ?_; exact ⟨k1, k2, k3, k4, k5, k6, k7, k8, k9, k10⟩))
    (try simp only [Act.put, List.setIfInBounds_toArray, List.set_cons_zero, List.set_cons_succ])
    first | refine wpB_skip 22 rfl (by kernel_rfl) (by kernel_rfl) (by kernel_rfl) (by rfl) ?_ | (refine wpB_text 22 (v := ?_) rfl (by kernel_rfl) (by kernel_rfl) (by kernel_rfl) (by rfl) (fun W hW => ?_) ?_; rotate_left; (obtain ⟨k1, k2, k3, k4, k5, k6, k7, k8, k9, k10⟩ := hW;  go_simp; refine comes_v ?_; exact ⟨k1, k2, k3, k4, k5, k6, k7, k8, k9, k10⟩))
    (try simp only [Act.put, List.setIfInBounds_toArray, List.set_cons_zero, List.set_cons_succ])
    refine wpB_done (by kernel_rfl) ?_ _
    intro W hW; obtain ⟨k1, k2, k3, k4, k5, k6, k7, k8, k9, k10⟩ := hW
    clear e1 e2
    go_wp2_with fail
    go_ret
    exact ⟨ret_bool (by simp [hm]), k1⟩
theorem linesMeet_any (a1 a2 b1 b2 c1 c2 d1 d2 : Int) (w : World) (pa : isPegB a1 a2 = true) (pb : isPegB b1 b2 = true) (pc : isPegB c1 c2 = true) (pd : isPegB d1 d2 = true) :
    Calls Try.prog 125 #[.agg #[.int .i64 a1, .int .i64 a2], .agg #[.int .i64 b1, .int .i64 b2], .agg #[.int .i64 c1, .int .i64 c2], .agg #[.int .i64 d1, .int .i64 d2]] w fun e w' => e = .returned (.bool (meetB a1 a2 b1 b2 c1 c2 d1 d2)) ∧ Below w.heap.size w w' := by
  have ha := sz_of pa
  have hb := sz_of pb
  have hc := sz_of pc
  have hd := sz_of pd
  have K1 := Lib.hid (fun W => isBetween_any a1 a2 c1 c2 d1 d2 W ha hc hd)
  have K2 := Lib.hid (fun W => isBetween_any b1 b2 c1 c2 d1 d2 W hb hc hd)
  have K3 := Lib.hid (fun W => isBetween_any c1 c2 a1 a2 b1 b2 W hc ha hb)
  have K4 := Lib.hid (fun W => isBetween_any d1 d2 a1 a2 b1 b2 W hd ha hb)
  have KX := Lib.hid (fun W => linesCross_any a1 a2 b1 b2 c1 c2 d1 d2 W pa pb pc pd)
  clear ha hb hc hd pa pb pc pd
  have eq : meetB a1 a2 b1 b2 c1 c2 d1 d2 = (onB c1 c2 d1 d2 a1 a2 || onB c1 c2 d1 d2 b1 b2 || onB a1 a2 b1 b2 c1 c2 || onB a1 a2 b1 b2 d1 d2 ||
      (decide (twI a1 a2 b1 b2 c1 c2 * twI a1 a2 b1 b2 d1 d2 < 0) && decide (twI c1 c2 d1 d2 a1 a2 * twI c1 c2 d1 d2 b1 b2 < 0))) := by
    unfold meetB; rw [Bool.decide_and]
    generalize onB a1 a2 b1 b2 c1 c2 = o1
    generalize onB a1 a2 b1 b2 d1 d2 = o2
    generalize onB c1 c2 d1 d2 a1 a2 = o3
    generalize onB c1 c2 d1 d2 b1 b2 = o4
    cases o1 <;> cases o2 <;> cases o3 <;> cases o4 <;> rfl
  rw [eq]
  clear eq
  generalize twI a1 a2 b1 b2 c1 c2 = t1 at *
  generalize twI a1 a2 b1 b2 d1 d2 = t2 at *
  generalize twI c1 c2 d1 d2 a1 a2 = t3 at *
  generalize twI c1 c2 d1 d2 b1 b2 = t4 at *
  generalize onB c1 c2 d1 d2 a1 a2 = o1 at *
  generalize onB c1 c2 d1 d2 b1 b2 = o2 at *
  generalize onB a1 a2 b1 b2 c1 c2 = o3 at *
  generalize onB a1 a2 b1 b2 d1 d2 = o4 at *
  cases o1
  · go_enter Try.func125, Try.ntmps125
    go_wp2_with fail
    refine (K1.out _).mono ?_; rintro e w1 ⟨rfl, hb1⟩
    obtain ⟨hc1, hf1⟩ := bcell hb1
    have z1_0 : w.heap.size < w1.heap.size := by (have := hb1.size; simp at this; omega)
    have z1_1 : w.heap.size + 1 < w1.heap.size := by (have := hb1.size; simp at this; omega)
    have z1_2 : w.heap.size + 2 < w1.heap.size := by (have := hb1.size; simp at this; omega)
    have z1_3 : w.heap.size + 3 < w1.heap.size := by (have := hb1.size; simp at this; omega)
    have B1 : Below w.heap.size w w1 := (Below.alloc (Below.alloc (Below.alloc (Below.alloc (Below.refl _ _) (by simp <;> omega) _) (by simp <;> omega) _) (by simp <;> omega) _) (by simp <;> omega) _).trans (hb1.mono (by simp <;> omega))
    go_wp2_with fail
    cases o2
    · refine (K2.out _).mono ?_; rintro e w2 ⟨rfl, hb2⟩
      obtain ⟨hc2, hf2⟩ := bcell hb2
      have z2_0 : w.heap.size < w2.heap.size := by (have := hb2.size; omega)
      have z2_1 : w.heap.size + 1 < w2.heap.size := by (have := hb2.size; omega)
      have z2_2 : w.heap.size + 2 < w2.heap.size := by (have := hb2.size; omega)
      have z2_3 : w.heap.size + 3 < w2.heap.size := by (have := hb2.size; omega)
      have B2 : Below w.heap.size w w2 := B1.trans (hb2.mono (by have := B1.size; omega))
      go_wp2_with fail
      cases o3
      · refine (K3.out _).mono ?_; rintro e w3 ⟨rfl, hb3⟩
        obtain ⟨hc3, hf3⟩ := bcell hb3
        have z3_0 : w.heap.size < w3.heap.size := by (have := hb3.size; omega)
        have z3_1 : w.heap.size + 1 < w3.heap.size := by (have := hb3.size; omega)
        have z3_2 : w.heap.size + 2 < w3.heap.size := by (have := hb3.size; omega)
        have z3_3 : w.heap.size + 3 < w3.heap.size := by (have := hb3.size; omega)
        have B3 : Below w.heap.size w w3 := B2.trans (hb3.mono (by have := B2.size; omega))
        go_wp2_with fail
        cases o4
        · refine (K4.out _).mono ?_; rintro e w4 ⟨rfl, hb4⟩
          obtain ⟨hc4, hf4⟩ := bcell hb4
          have z4_0 : w.heap.size < w4.heap.size := by (have := hb4.size; omega)
          have z4_1 : w.heap.size + 1 < w4.heap.size := by (have := hb4.size; omega)
          have z4_2 : w.heap.size + 2 < w4.heap.size := by (have := hb4.size; omega)
          have z4_3 : w.heap.size + 3 < w4.heap.size := by (have := hb4.size; omega)
          have B4 : Below w.heap.size w w4 := B3.trans (hb4.mono (by have := B3.size; omega))
          go_wp2_with fail
          refine (KX.out _).mono ?_; rintro e w5 ⟨rfl, hb5⟩
          obtain ⟨hc5, hf5⟩ := bcell hb5
          have z5_0 : w.heap.size < w5.heap.size := by (have := hb5.size; omega)
          have z5_1 : w.heap.size + 1 < w5.heap.size := by (have := hb5.size; omega)
          have z5_2 : w.heap.size + 2 < w5.heap.size := by (have := hb5.size; omega)
          have z5_3 : w.heap.size + 3 < w5.heap.size := by (have := hb5.size; omega)
          have B5 : Below w.heap.size w w5 := B4.trans (hb5.mono (by have := B4.size; omega))
          go_wp2_with fail
          go_ret
          exact ⟨rfl, B5⟩
        · refine (K4.out _).mono ?_; rintro e w4 ⟨rfl, hb4⟩
          obtain ⟨hc4, hf4⟩ := bcell hb4
          have z4_0 : w.heap.size < w4.heap.size := by (have := hb4.size; omega)
          have z4_1 : w.heap.size + 1 < w4.heap.size := by (have := hb4.size; omega)
          have z4_2 : w.heap.size + 2 < w4.heap.size := by (have := hb4.size; omega)
          have z4_3 : w.heap.size + 3 < w4.heap.size := by (have := hb4.size; omega)
          have B4 : Below w.heap.size w w4 := B3.trans (hb4.mono (by have := B3.size; omega))
          go_wp2_with fail
          go_ret
          exact ⟨rfl, B4⟩
      · refine (K3.out _).mono ?_; rintro e w3 ⟨rfl, hb3⟩
        obtain ⟨hc3, hf3⟩ := bcell hb3
        have z3_0 : w.heap.size < w3.heap.size := by (have := hb3.size; omega)
        have z3_1 : w.heap.size + 1 < w3.heap.size := by (have := hb3.size; omega)
        have z3_2 : w.heap.size + 2 < w3.heap.size := by (have := hb3.size; omega)
        have z3_3 : w.heap.size + 3 < w3.heap.size := by (have := hb3.size; omega)
        have B3 : Below w.heap.size w w3 := B2.trans (hb3.mono (by have := B2.size; omega))
        go_wp2_with fail
        go_ret
        exact ⟨rfl, B3⟩
    · refine (K2.out _).mono ?_; rintro e w2 ⟨rfl, hb2⟩
      obtain ⟨hc2, hf2⟩ := bcell hb2
      have z2_0 : w.heap.size < w2.heap.size := by (have := hb2.size; omega)
      have z2_1 : w.heap.size + 1 < w2.heap.size := by (have := hb2.size; omega)
      have z2_2 : w.heap.size + 2 < w2.heap.size := by (have := hb2.size; omega)
      have z2_3 : w.heap.size + 3 < w2.heap.size := by (have := hb2.size; omega)
      have B2 : Below w.heap.size w w2 := B1.trans (hb2.mono (by have := B1.size; omega))
      go_wp2_with fail
      go_ret
      exact ⟨rfl, B2⟩
  · go_enter Try.func125, Try.ntmps125
    go_wp2_with fail
    refine (K1.out _).mono ?_; rintro e w1 ⟨rfl, hb1⟩
    obtain ⟨hc1, hf1⟩ := bcell hb1
    have z1_0 : w.heap.size < w1.heap.size := by (have := hb1.size; simp at this; omega)
    have z1_1 : w.heap.size + 1 < w1.heap.size := by (have := hb1.size; simp at this; omega)
    have z1_2 : w.heap.size + 2 < w1.heap.size := by (have := hb1.size; simp at this; omega)
    have z1_3 : w.heap.size + 3 < w1.heap.size := by (have := hb1.size; simp at this; omega)
    have B1 : Below w.heap.size w w1 := (Below.alloc (Below.alloc (Below.alloc (Below.alloc (Below.refl _ _) (by simp <;> omega) _) (by simp <;> omega) _) (by simp <;> omega) _) (by simp <;> omega) _).trans (hb1.mono (by simp <;> omega))
    go_wp2_with fail
    go_ret
    exact ⟨rfl, B1⟩
end Go.Proofs.Ytheddoinnakneaa
/- contracts: a corner's turn; two lines of a polygon that cross -/
namespace Go.Proofs.Ytheddoinnakneaa
open Go.ChangeShapes Go.WideShapes Go.ChangeAt Go.RowKit Go.Joins
set_option linter.unusedVariables false
set_option linter.unusedSimpArgs false
set_option maxRecDepth 4000
theorem turn_any (p1 p2 b1 b2 c1 c2 : Int) (w : World) (hp : Sz p1 p2) (hb : Sz b1 b2) (hc : Sz c1 c2) :
    Calls Try.prog 88 #[.agg #[.int .i64 p1, .int .i64 p2, .int .i64 b1, .int .i64 b2, .int .i64 c1, .int .i64 c2]] w fun e w' => e = .returned (.int .i64 (twI b1 b2 p1 p2 c1 c2)) ∧ Below w.heap.size w w' := by
  have K := Lib.hid (fun W => twiceThree_any b1 b2 p1 p2 c1 c2 W hb hp hc)
  go_enter Try.func88, Try.ntmps88
  go_wp2_with fail
  refine (K.out _).mono ?_; rintro e w1 ⟨rfl, hb1⟩
  obtain ⟨hc1, hf1⟩ := bcell hb1
  have z1_0 : w.heap.size < w1.heap.size := by (have := hb1.size; simp at this; omega)
  have B1 : Below w.heap.size w w1 := (Below.alloc (Below.refl _ _) (by simp <;> omega) _).trans (hb1.mono (by simp <;> omega))
  go_wp2_with fail
  go_ret
  exact ⟨rfl, B1⟩
/-- two lines, each from a corner to the one behind it, cross: lines next to each other are left out -/
def crB (p1 p2 c1 c2 q1 q2 d1 d2 : Int) : Bool := !(decide (c1 = q1) && decide (c2 = q2)) && !(decide (d1 = p1) && decide (d2 = p2)) && meetB p1 p2 c1 c2 q1 q2 d1 d2
theorem isCrossing_any (p1 p2 b1 b2 c1 c2 q1 q2 a1 a2 d1 d2 : Int) (w : World) (hp : isPegB p1 p2 = true) (hc : isPegB c1 c2 = true) (hq : isPegB q1 q2 = true) (hd : isPegB d1 d2 = true) :
    Calls Try.prog 89 #[.agg #[.int .i64 p1, .int .i64 p2, .int .i64 b1, .int .i64 b2, .int .i64 c1, .int .i64 c2], .agg #[.int .i64 q1, .int .i64 q2, .int .i64 a1, .int .i64 a2, .int .i64 d1, .int .i64 d2]] w fun e w' => e = .returned (.bool (crB p1 p2 c1 c2 q1 q2 d1 d2)) ∧ Below w.heap.size w w' := by
  have K := Lib.hid (fun W => linesMeet_any p1 p2 c1 c2 q1 q2 d1 d2 W hp hc hq hd)
  clear hp hc hq hd
  by_cases h1 : c1 = q1 ∧ c2 = q2
  · obtain ⟨rfl, rfl⟩ := h1
    go_enter Try.func89, Try.ntmps89
    go_wp2_with fail
    go_ret
    exact ⟨ret_bool (by simp [crB]), (by repeat (first | exact Below.refl _ _ | assumption | apply Below.drew | refine Below.alloc ?_ (by simp <;> omega) _))⟩
  · by_cases h2 : d1 = p1 ∧ d2 = p2
    · obtain ⟨rfl, rfl⟩ := h2
      by_cases h3 : c1 = q1
      · have h4 : ¬ c2 = q2 := fun h => h1 ⟨h3, h⟩
        subst h3
        clear h1
        go_enter Try.func89, Try.ntmps89
        go_wp2_with fail
        go_ret
        exact ⟨ret_bool (by simp [crB]), (by repeat (first | exact Below.refl _ _ | assumption | apply Below.drew | refine Below.alloc ?_ (by simp <;> omega) _))⟩
      · clear h1
        go_enter Try.func89, Try.ntmps89
        go_wp2_with fail
        go_ret
        exact ⟨ret_bool (by simp [crB]), (by repeat (first | exact Below.refl _ _ | assumption | apply Below.drew | refine Below.alloc ?_ (by simp <;> omega) _))⟩
    · have e : crB p1 p2 c1 c2 q1 q2 d1 d2 = meetB p1 p2 c1 c2 q1 q2 d1 d2 := by
        have x1 : (decide (c1 = q1) && decide (c2 = q2)) = false := by simpa using h1
        have x2 : (decide (d1 = p1) && decide (d2 = p2)) = false := by simpa using h2
        unfold crB; rw [x1, x2]; rfl
      rw [e]
      clear e
      generalize meetB p1 p2 c1 c2 q1 q2 d1 d2 = m at *
      by_cases h3 : c1 = q1 <;> by_cases h4 : d1 = p1
      · have h5 : ¬ c2 = q2 := fun h => h1 ⟨h3, h⟩
        have h6 : ¬ d2 = p2 := fun h => h2 ⟨h4, h⟩
        subst h3 h4
        clear h1 h2
        go_enter Try.func89, Try.ntmps89
        go_wp2_with fail
        refine (K.out _).mono ?_; rintro e w1 ⟨rfl, hb1⟩
        obtain ⟨hc1, hf1⟩ := bcell hb1
        have z1_0 : w.heap.size < w1.heap.size := by (have := hb1.size; simp at this; omega)
        have z1_1 : w.heap.size + 1 < w1.heap.size := by (have := hb1.size; simp at this; omega)
        have B1 : Below w.heap.size w w1 := (Below.alloc (Below.alloc (Below.refl _ _) (by simp <;> omega) _) (by simp <;> omega) _).trans (hb1.mono (by simp <;> omega))
        go_wp2_with fail
        go_ret
        exact ⟨rfl, B1⟩
      · have h5 : ¬ c2 = q2 := fun h => h1 ⟨h3, h⟩
        subst h3
        clear h1 h2
        go_enter Try.func89, Try.ntmps89
        go_wp2_with fail
        refine (K.out _).mono ?_; rintro e w1 ⟨rfl, hb1⟩
        obtain ⟨hc1, hf1⟩ := bcell hb1
        have z1_0 : w.heap.size < w1.heap.size := by (have := hb1.size; simp at this; omega)
        have z1_1 : w.heap.size + 1 < w1.heap.size := by (have := hb1.size; simp at this; omega)
        have B1 : Below w.heap.size w w1 := (Below.alloc (Below.alloc (Below.refl _ _) (by simp <;> omega) _) (by simp <;> omega) _).trans (hb1.mono (by simp <;> omega))
        go_wp2_with fail
        go_ret
        exact ⟨rfl, B1⟩
      · have h6 : ¬ d2 = p2 := fun h => h2 ⟨h4, h⟩
        subst h4
        clear h1 h2
        go_enter Try.func89, Try.ntmps89
        go_wp2_with fail
        refine (K.out _).mono ?_; rintro e w1 ⟨rfl, hb1⟩
        obtain ⟨hc1, hf1⟩ := bcell hb1
        have z1_0 : w.heap.size < w1.heap.size := by (have := hb1.size; simp at this; omega)
        have z1_1 : w.heap.size + 1 < w1.heap.size := by (have := hb1.size; simp at this; omega)
        have B1 : Below w.heap.size w w1 := (Below.alloc (Below.alloc (Below.refl _ _) (by simp <;> omega) _) (by simp <;> omega) _).trans (hb1.mono (by simp <;> omega))
        go_wp2_with fail
        go_ret
        exact ⟨rfl, B1⟩
      · clear h1 h2
        go_enter Try.func89, Try.ntmps89
        go_wp2_with fail
        refine (K.out _).mono ?_; rintro e w1 ⟨rfl, hb1⟩
        obtain ⟨hc1, hf1⟩ := bcell hb1
        have z1_0 : w.heap.size < w1.heap.size := by (have := hb1.size; simp at this; omega)
        have z1_1 : w.heap.size + 1 < w1.heap.size := by (have := hb1.size; simp at this; omega)
        have B1 : Below w.heap.size w w1 := (Below.alloc (Below.alloc (Below.refl _ _) (by simp <;> omega) _) (by simp <;> omega) _).trans (hb1.mono (by simp <;> omega))
        go_wp2_with fail
        go_ret
        exact ⟨rfl, B1⟩
end Go.Proofs.Ytheddoinnakneaa
/- contract: the program's test of a polygon -/
namespace Go.Proofs.Ytheddoinnakneaa
open Go.ChangeShapes Go.WideShapes Go.ChangeAt Go.RowKit Go.Joins
set_option linter.unusedVariables false
set_option linter.unusedSimpArgs false
set_option maxRecDepth 4000
theorem onB_or (a b c d e : Bool) : (a || b || c || d || e) = (c || d || a || b || e) := by cases a <;> cases b <;> cases c <;> cases d <;> rfl
theorem meetB_comm (a1 a2 b1 b2 c1 c2 d1 d2 : Int) : meetB a1 a2 b1 b2 c1 c2 d1 d2 = meetB c1 c2 d1 d2 a1 a2 b1 b2 := by
  unfold meetB; rw [onB_or]; congr 1; rw [decide_eq_decide]; exact And.comm
theorem meP_comm (a b c d : Int × Int) : meP a b c d = meP c d a b := meetB_comm ..
theorem vx_add (l : List (Int × Int)) (i : Nat) : vx l (i + l.length) = vx l i := by unfold vx; rw [Nat.add_mod_right]
def crP (p c q d : Int × Int) : Bool := crB p.1 p.2 c.1 c.2 q.1 q.2 d.1 d.2
theorem crP_iff (p c q d : Int × Int) : crP p c q d = false ↔ (c = q ∨ d = p ∨ meP p c q d = false) := by
  unfold crP crB meP
  have e1 : c = q ↔ c.1 = q.1 ∧ c.2 = q.2 := ⟨fun h => by rw [h]; exact ⟨rfl, rfl⟩, fun h => Prod.ext h.1 h.2⟩
  have e2 : d = p ↔ d.1 = p.1 ∧ d.2 = p.2 := ⟨fun h => by rw [h]; exact ⟨rfl, rfl⟩, fun h => Prod.ext h.1 h.2⟩
  rw [e1, e2]
  generalize meetB p.1 p.2 c.1 c.2 q.1 q.2 d.1 d.2 = m
  by_cases h1 : c.1 = q.1 <;> by_cases h2 : c.2 = q.2 <;> by_cases h3 : d.1 = p.1 <;> by_cases h4 : d.2 = p.2 <;> simp [h1, h2, h3, h4]
/-- what the program looks at, corner by corner -/
def Seen (l : List (Int × Int)) (k : Nat) : Prop := ∀ i, i < k → twP (vx l (i + l.length - 1)) (vx l i) (vx l (i + 1)) ≠ 0 ∧ ∀ j, j < i → vx l i ≠ vx l j ∧ crP (vx l i) (vx l (i + 1)) (vx l j) (vx l (j + 1)) = false
theorem good_seen {l : List (Int × Int)} (h : Good l) : Seen l l.length := by
  intro i hi
  have hn := h.few.1
  refine ⟨?_, fun j hj => ⟨h.diff i j hj hi, ?_⟩⟩
  · by_cases h0 : i = 0
    · subst h0
      have := h.turn (l.length - 1) (by omega)
      rw [show l.length - 1 + 1 = 0 + l.length by omega, show l.length - 1 + 2 = 1 + l.length by omega, vx_add, vx_add] at this
      rw [show 0 + l.length - 1 = l.length - 1 by omega]; exact this
    · have := h.turn (i - 1) (by omega)
      rw [show i - 1 + 1 = i by omega, show i - 1 + 2 = i + 1 by omega] at this
      rw [show i + l.length - 1 = (i - 1) + l.length by omega, vx_add]; exact this
  · rw [crP_iff]
    by_cases h1 : j + 1 = i
    · right; left; rw [h1]
    · by_cases h2 : i + 1 = l.length ∧ j = 0
      · left; rw [h2.1, h2.2, show l.length = 0 + l.length by omega, vx_add]
      · right; right; rw [meP_comm]; exact h.apart j i (by omega) hi (by omega)
theorem seen_good {l : List (Int × Int)} (h0 : 3 ≤ l.length ∧ l.length ≤ 10) (hp : ∀ i, i < l.length → isPg (vx l i) = true) (h : Seen l l.length) : Good l := by
  have df : ∀ i j, j < i → i < l.length → vx l i ≠ vx l j := fun i j hj hi => ((h i hi).2 j hj).1
  refine ⟨h0, hp, df, fun i hi => ?_, fun i k hk hkn hki => ?_⟩
  · by_cases h1 : i + 1 = l.length
    · have := (h 0 (by omega)).1
      rw [show 0 + l.length - 1 = i by omega] at this
      rw [show i + 1 = 0 + l.length by omega, show i + 2 = 0 + 1 + l.length by omega, vx_add, vx_add]; exact this
    · have := (h (i + 1) (by omega)).1
      rw [show i + 1 + l.length - 1 = i + l.length by omega, vx_add] at this
      exact this
  · have := ((h k hkn).2 i (by omega)).2
    rw [crP_iff] at this
    rcases this with h1 | h1 | h1
    · by_cases h2 : k + 1 = l.length
      · rw [h2, show l.length = 0 + l.length by omega, vx_add] at h1
        by_cases h3 : i = 0
        · omega
        · exact absurd h1.symm (df i 0 (by omega) (by omega))
      · exact absurd h1 (df (k + 1) i (by omega) (by omega))
    · exact absurd h1.symm (df k (i + 1) (by omega) hkn)
    · rw [meP_comm]; exact h1
end Go.Proofs.Ytheddoinnakneaa
/- contract: the program's test of a polygon -/
namespace Go.Proofs.Ytheddoinnakneaa
open Go.ChangeShapes Go.WideShapes Go.ChangeAt Go.RowKit Go.Joins
set_option linter.unusedVariables false
set_option linter.unusedSimpArgs false
set_option maxRecDepth 4000
set_option maxHeartbeats 4000000 in
theorem implIsPolygon_any (A : Option Addr) (c : Nat) (l : List (Int × Int)) (w : World) (hn : l.length ≤ 1048576) (hR : Rd w w.heap.size A l) :
    Calls Try.prog 55 #[.slice A l.length c] w fun e w' => e = .returned (.bool (goodB l)) ∧ Below w.heap.size w w' := by
  have KA := Lib.hid (fun W hb => arePegs_any A c l W hn (rd_more (rd_below hR hb (Nat.le_refl _)) hb.size))
  by_cases hlo : l.length < 3
  · have hng : Hid (goodB l = false) := Lib.hid (goodB_false (fun h => by have := h.few; omega))
    have d1 : ((l.length : Int) < 3) := by omega
    clear hR
    go_enter Try.func55, Try.ntmps55
    go_wp2_with fail
    go_ret
    exact ⟨ret_bool hng.out.symm, Below.refl _ _⟩
  · by_cases hhi : 10 < l.length
    · have hng : Hid (goodB l = false) := Lib.hid (goodB_false (fun h => by have := h.few; omega))
      have d1 : ¬ ((l.length : Int) < 3) := by omega
      have d2 : ((10 : Int) < (l.length : Int)) := by omega
      clear hR
      go_enter Try.func55, Try.ntmps55
      go_wp2_with fail
      go_ret
      exact ⟨ret_bool hng.out.symm, Below.refl _ _⟩
    · have d1 : ¬ ((l.length : Int) < 3) := by omega
      have d2 : ¬ ((10 : Int) < (l.length : Int)) := by omega
      by_cases hpg : pegsB l = true
      · have K1 := Lib.hid (KA.out w (Below.refl _ _))
        rw [hpg] at K1
        have hpe := (pegsB_iff l).1 hpg
        have HPE := Lib.hid hpe
        have KC := Lib.hid (fun W (hb : Below w.heap.size w W) => cornersAround_any A c l W (by omega) (by omega) (rd_more (rd_below hR hb (Nat.le_refl _)) hb.size))
        have HFEW := Lib.hid (show 3 ≤ l.length ∧ l.length ≤ 10 by omega)
        have HG := Lib.hid (fun h => goodB_false (l := l) h)
        have HT := Lib.hid (fun h => goodB_true (l := l) h)
        clear hpg hpe KA hR
        have hL1 : ((3 : Int) ≤ (l.length : Int)) := by omega
        have hL2 : ((l.length : Int) ≤ 10) := by omega
        clear hlo hhi
        generalize hN : l.length = n at *
        have HN := Lib.hid hN
        clear hN
        go_enter Try.func55, Try.ntmps55
        go_wp2_with fail
        refine K1.out.mono ?_; rintro e w1 ⟨rfl, hb1⟩
        go_wp2_with fail
        refine (KC.out w1 hb1).mono ?_; rintro e w2 ⟨rfl, hb2, hSC⟩
        have B2 : Below w.heap.size w w2 := hb1.trans (hb2.mono hb1.size)
        have hw1 := hb1.size
        obtain ⟨g, hg⟩ : ∃ g, g = w1.heap.size := ⟨_, rfl⟩
        rw [← hg] at hSC ⊢
        have hgs : g < w2.heap.size := hSC.1
        have CE : Hid (∀ W, Below w2.heap.size w2 W → ∀ i, i < n → (W.cell? ⟨g, i * 6, none⟩ = some (.int .i64 (vx l i).1) ∧ W.cell? ⟨g, i * 6 + 1, none⟩ = some (.int .i64 (vx l i).2) ∧ W.cell? ⟨g, i * 6 + 2, none⟩ = some (.int .i64 (vx l (i + n - 1)).1) ∧ W.cell? ⟨g, i * 6 + 3, none⟩ = some (.int .i64 (vx l (i + n - 1)).2) ∧ W.cell? ⟨g, i * 6 + 4, none⟩ = some (.int .i64 (vx l (i + 1)).1) ∧ W.cell? ⟨g, i * 6 + 5, none⟩ = some (.int .i64 (vx l (i + 1)).2))) := Lib.hid (fun W hW i hi => by
          obtain ⟨c0, c1, c2, c3, c4, c5⟩ := hSC.2.2 i hi
          have hc := (bcell hW).1
          exact ⟨(hc _ _ hgs).trans c0, (hc _ _ hgs).trans c1, (hc _ _ hgs).trans c2, (hc _ _ hgs).trans c3, (hc _ _ hgs).trans c4, (hc _ _ hgs).trans c5⟩)
        have TR : Hid (∀ W, Below w2.heap.size w2 W → Below w.heap.size w W) := Lib.hid (fun W hW => B2.trans (hW.mono B2.size))
        clear K1 KC hb1 hb2 hSC B2 hw1 hg
        go_wp2_with fail
        go_loopg [25] n (fun gg i wr => ∃ k : Nat, k ≤ n ∧ gg = n - k ∧ i = .int .i64 k ∧ Below w2.heap.size w2 wr ∧ Hid (Seen l k))
        case atStart => exact ⟨0, Nat.zero_le _, rfl, rfl, Below.refl _ _, Lib.hid (fun i h => absurd h (Nat.not_lt_zero _))⟩
        case round =>
          obtain ⟨k, hk, hgg, rfl, hB, hF⟩ := hrel
          rename World => wo
          have HGK := Lib.hid hgg
          clear hgg
          by_cases hlt : k < n
          · obtain ⟨x0, x1, x2, x3, x4, x5⟩ := CE.out wo hB k hlt
            have hzB := hB.size
            have hgo : g < wo.heap.size := by omega
            have z1 := sz_of (x := (vx l k).1) (y := (vx l k).2) (HPE.out k hlt)
            have z2 : Sz (vx l (k + n - 1)).1 (vx l (k + n - 1)).2 := sz_of (by rw [← HN.out, ← vx_per]; exact HPE.out _ (by rw [HN.out]; exact Nat.mod_lt _ (by omega)))
            have z3 : Sz (vx l (k + 1)).1 (vx l (k + 1)).2 := sz_of (by rw [← vx_per, HN.out]; exact HPE.out _ (Nat.mod_lt _ (by omega)))
            have T := Lib.hid (fun W => turn_any (vx l k).1 (vx l k).2 (vx l (k + n - 1)).1 (vx l (k + n - 1)).2 (vx l (k + 1)).1 (vx l (k + 1)).2 W z1 z2 z3)
            clear z1 z2 z3
            by_cases hz : twI (vx l (k + n - 1)).1 (vx l (k + n - 1)).2 (vx l k).1 (vx l k).2 (vx l (k + 1)).1 (vx l (k + 1)).2 = 0
            · rw [hz] at T
              have hng : Hid (goodB l = false) := Lib.hid (HG.out (fun h => (good_seen h k (by have := HN.out; omega)).1 (by rw [HN.out]; exact hz)))
              clear hz
              go_wp2_with fail
              refine (T.out _).mono ?_; rintro e w3 ⟨rfl, hb3⟩
              have B3 := Lib.hid (TR.out _ ((Below.alloc hB hzB (.cells #[.int .i64 (vx l k).1, .int .i64 (vx l k).2, .int .i64 (vx l (k + n - 1)).1, .int .i64 (vx l (k + n - 1)).2, .int .i64 (vx l (k + 1)).1, .int .i64 (vx l (k + 1)).2] 107)).trans (hb3.mono (by simp; omega))))
              go_wp2_with fail
              go_ret
              exact ⟨ret_bool hng.out.symm, B3.out⟩
            · have HTW : Hid (twP (vx l (k + l.length - 1)) (vx l k) (vx l (k + 1)) ≠ 0) := Lib.hid (by rw [HN.out]; exact hz)
              have hzb : (twI (vx l (k + n - 1)).1 (vx l (k + n - 1)).2 (vx l k).1 (vx l k).2 (vx l (k + 1)).1 (vx l (k + 1)).2 == 0) = false := by simpa using hz
              generalize twI (vx l (k + n - 1)).1 (vx l (k + n - 1)).2 (vx l k).1 (vx l k).2 (vx l (k + 1)).1 (vx l (k + 1)).2 = t at *
              go_wp2_with fail
              refine (T.out _).mono ?_; rintro e w3 ⟨rfl, hb3⟩
              have B3 := (Below.alloc hB hzB (.cells #[.int .i64 (vx l k).1, .int .i64 (vx l k).2, .int .i64 (vx l (k + n - 1)).1, .int .i64 (vx l (k + n - 1)).2, .int .i64 (vx l (k + 1)).1, .int .i64 (vx l (k + 1)).2] 107)).trans (hb3.mono (by simp; omega))
              have hz1 : wo.heap.size < w3.heap.size := by (have := hb3.size; simp at this; omega)
              have y0 : w3.cell? ⟨wo.heap.size, 0, none⟩ = some (.int .i64 (vx l k).1) := ((bcell hb3).1 _ _ (by simp)).trans (by go_simp)
              have y1 : w3.cell? ⟨wo.heap.size, 1, none⟩ = some (.int .i64 (vx l k).2) := ((bcell hb3).1 _ _ (by simp)).trans (by go_simp)
              have y2 : w3.cell? ⟨wo.heap.size, 2, none⟩ = some (.int .i64 (vx l (k + n - 1)).1) := ((bcell hb3).1 _ _ (by simp)).trans (by go_simp)
              have y3 : w3.cell? ⟨wo.heap.size, 3, none⟩ = some (.int .i64 (vx l (k + n - 1)).2) := ((bcell hb3).1 _ _ (by simp)).trans (by go_simp)
              have y4 : w3.cell? ⟨wo.heap.size, 4, none⟩ = some (.int .i64 (vx l (k + 1)).1) := ((bcell hb3).1 _ _ (by simp)).trans (by go_simp)
              have y5 : w3.cell? ⟨wo.heap.size, 5, none⟩ = some (.int .i64 (vx l (k + 1)).2) := ((bcell hb3).1 _ _ (by simp)).trans (by go_simp)
              clear x0 x1 x2 x3 x4 x5 hb3 T
              go_wp2_with fail
              clear hzb hz
              go_loopg [37] k (fun g2 j wi => ∃ m : Nat, m ≤ k ∧ g2 = k - m ∧ j = .int .i64 m ∧ Below w2.heap.size w2 wi ∧ wo.heap.size < wi.heap.size ∧ wi.cell? ⟨wo.heap.size, 0, none⟩ = some (.int .i64 (vx l k).1) ∧ wi.cell? ⟨wo.heap.size, 1, none⟩ = some (.int .i64 (vx l k).2) ∧ wi.cell? ⟨wo.heap.size, 2, none⟩ = some (.int .i64 (vx l (k + n - 1)).1) ∧ wi.cell? ⟨wo.heap.size, 3, none⟩ = some (.int .i64 (vx l (k + n - 1)).2) ∧ wi.cell? ⟨wo.heap.size, 4, none⟩ = some (.int .i64 (vx l (k + 1)).1) ∧ wi.cell? ⟨wo.heap.size, 5, none⟩ = some (.int .i64 (vx l (k + 1)).2) ∧ Hid (∀ j, j < m → vx l k ≠ vx l j ∧ crP (vx l k) (vx l (k + 1)) (vx l j) (vx l (j + 1)) = false))
              case atStart => exact ⟨0, Nat.zero_le _, rfl, rfl, B3, hz1, y0, y1, y2, y3, y4, y5, Lib.hid (fun j h => absurd h (Nat.not_lt_zero _))⟩
              case round =>
                clear y0 y1 y2 y3 y4 y5 B3 hz1
                obtain ⟨m, hm, hg2, rfl, hBi, hzi, v0, v1, v2, v3, v4, v5, hD⟩ := hrel
                have HGM := Lib.hid hg2
                clear hg2
                by_cases hlm : m < k
                · obtain ⟨q1, q2, r1, r2, s1, s2, hqe, hse, u0, u1, u2, u3, u4, u5⟩ : ∃ q1 q2 r1 r2 s1 s2, vx l m = (q1, q2) ∧ vx l (m + 1) = (s1, s2) ∧ wr.cell? ⟨g, m * 6, none⟩ = some (.int .i64 q1) ∧ wr.cell? ⟨g, m * 6 + 1, none⟩ = some (.int .i64 q2) ∧ wr.cell? ⟨g, m * 6 + 2, none⟩ = some (.int .i64 r1) ∧ wr.cell? ⟨g, m * 6 + 3, none⟩ = some (.int .i64 r2) ∧ wr.cell? ⟨g, m * 6 + 4, none⟩ = some (.int .i64 s1) ∧ wr.cell? ⟨g, m * 6 + 5, none⟩ = some (.int .i64 s2) := by
                    obtain ⟨t0, t1, t2, t3, t4, t5⟩ := CE.out wr hBi m (by omega)
                    exact ⟨_, _, _, _, _, _, rfl, rfl, t0, t1, t2, t3, t4, t5⟩
                  have hzi2 := hBi.size
                  have hgr : g < wr.heap.size := by omega
                  have n1 := HPE.out k hlt
                  have n2 : isPegB (vx l (k + 1)).1 (vx l (k + 1)).2 = true := by rw [← vx_per, HN.out]; exact HPE.out _ (Nat.mod_lt _ (by omega))
                  have n3 : isPegB q1 q2 = true := by have := HPE.out m (by omega); rw [hqe] at this; exact this
                  have n4 : isPegB s1 s2 = true := by have : isPg (vx l (m + 1)) = true := (by rw [← vx_per, HN.out]; exact HPE.out _ (Nat.mod_lt _ (by omega))); rw [hse] at this; exact this
                  have K := Lib.hid (fun W => isCrossing_any (vx l k).1 (vx l k).2 (vx l (k + n - 1)).1 (vx l (k + n - 1)).2 (vx l (k + 1)).1 (vx l (k + 1)).2 q1 q2 r1 r2 s1 s2 W n1 n2 n3 n4)
                  have HQE := Lib.hid hqe
                  have HSE := Lib.hid hse
                  clear n1 n2 n3 n4 hqe hse
                  by_cases heq : (vx l k).1 = q1 ∧ (vx l k).2 = q2
                  · have hng : Hid (goodB l = false) := Lib.hid (HG.out (fun h => h.diff k m hlm (by have := HN.out; omega) (by rw [HQE.out]; exact Prod.ext heq.1 heq.2)))
                    obtain ⟨rfl, rfl⟩ := heq
                    have B5 := Lib.hid (TR.out _ (Below.alloc hBi hzi2 (.cells #[.int .i64 (vx l k).1, .int .i64 (vx l k).2, .int .i64 r1, .int .i64 r2, .int .i64 s1, .int .i64 s2] 107)))
                    go_wp2_with fail
                    go_ret
                    exact ⟨ret_bool hng.out.symm, B5.out⟩
                  · have hne : vx l k ≠ vx l m := fun e => heq (by rw [HQE.out] at e; rw [e]; exact ⟨rfl, rfl⟩)
                    have HNE := Lib.hid hne
                    by_cases hcr : crB (vx l k).1 (vx l k).2 (vx l (k + 1)).1 (vx l (k + 1)).2 q1 q2 s1 s2 = true
                    · have hng : Hid (goodB l = false) := Lib.hid (HG.out (fun h => by
                        have := ((good_seen h k (by have := HN.out; omega)).2 m hlm).2
                        rw [HQE.out, HSE.out] at this
                        unfold crP at this
                        rw [hcr] at this
                        cases this))
                      rw [hcr] at K
                      clear hcr hne
                      by_cases h1 : (vx l k).1 = q1
                      · have h2 : ¬ (vx l k).2 = q2 := fun h => heq ⟨h1, h⟩
                        clear heq
                        subst h1
                        go_wp2_with fail
                        refine (K.out _).mono ?_; rintro e w4 ⟨rfl, hb4⟩
                        have B4 := (Below.alloc hBi hzi2 (.cells #[.int .i64 (vx l k).1, .int .i64 q2, .int .i64 r1, .int .i64 r2, .int .i64 s1, .int .i64 s2] 107)).trans (hb4.mono (by simp; omega))
                        have B5 := Lib.hid (TR.out _ B4)
                        go_wp2_with fail
                        go_ret
                        exact ⟨ret_bool hng.out.symm, B5.out⟩
                      · clear heq
                        go_wp2_with fail
                        refine (K.out _).mono ?_; rintro e w4 ⟨rfl, hb4⟩
                        have B4 := (Below.alloc hBi hzi2 (.cells #[.int .i64 q1, .int .i64 q2, .int .i64 r1, .int .i64 r2, .int .i64 s1, .int .i64 s2] 107)).trans (hb4.mono (by simp; omega))
                        have B5 := Lib.hid (TR.out _ B4)
                        go_wp2_with fail
                        go_ret
                        exact ⟨ret_bool hng.out.symm, B5.out⟩
                    · have hcf : crB (vx l k).1 (vx l k).2 (vx l (k + 1)).1 (vx l (k + 1)).2 q1 q2 s1 s2 = false := by simpa using hcr
                      have hD2 : Hid (∀ j, j < m + 1 → vx l k ≠ vx l j ∧ crP (vx l k) (vx l (k + 1)) (vx l j) (vx l (j + 1)) = false) := Lib.hid (fun j hj => by
                        by_cases hjm : j = m
                        · subst hjm; exact ⟨HNE.out, by rw [HQE.out, HSE.out]; exact hcf⟩
                        · exact hD.out j (by omega))
                      rw [hcf] at K
                      clear hcr hcf hne hD
                      by_cases h1 : (vx l k).1 = q1
                      · have h2 : ¬ (vx l k).2 = q2 := fun h => heq ⟨h1, h⟩
                        clear heq
                        subst h1
                        go_wp2_with fail
                        refine (K.out _).mono ?_; rintro e w4 ⟨rfl, hb4⟩
                        have B4 := (Below.alloc hBi hzi2 (.cells #[.int .i64 (vx l k).1, .int .i64 q2, .int .i64 r1, .int .i64 r2, .int .i64 s1, .int .i64 s2] 107)).trans (hb4.mono (by simp; omega))
                        have zz : wo.heap.size < w4.heap.size := by (have := hb4.size; simp at this; omega)
                        have Y0 := Lib.hid (((bcell hb4).1 _ 0 (by simp; omega)).trans ((World.cell?_alloc_lt wr _ _ hzi).trans v0))
                        have Y1 := Lib.hid (((bcell hb4).1 _ 1 (by simp; omega)).trans ((World.cell?_alloc_lt wr _ _ hzi).trans v1))
                        have Y2 := Lib.hid (((bcell hb4).1 _ 2 (by simp; omega)).trans ((World.cell?_alloc_lt wr _ _ hzi).trans v2))
                        have Y3 := Lib.hid (((bcell hb4).1 _ 3 (by simp; omega)).trans ((World.cell?_alloc_lt wr _ _ hzi).trans v3))
                        have Y4 := Lib.hid (((bcell hb4).1 _ 4 (by simp; omega)).trans ((World.cell?_alloc_lt wr _ _ hzi).trans v4))
                        have Y5 := Lib.hid (((bcell hb4).1 _ 5 (by simp; omega)).trans ((World.cell?_alloc_lt wr _ _ hzi).trans v5))
                        clear hb4
                        go_wp2_with fail
                        go_roundg (k - (m + 1))
                        case measure => have := HGM.out; omega
                        case rel => exact ⟨m + 1, by omega, rfl, by go_num, B4, zz, Y0.out, Y1.out, Y2.out, Y3.out, Y4.out, Y5.out, hD2⟩
                      · clear heq
                        go_wp2_with fail
                        refine (K.out _).mono ?_; rintro e w4 ⟨rfl, hb4⟩
                        have B4 := (Below.alloc hBi hzi2 (.cells #[.int .i64 q1, .int .i64 q2, .int .i64 r1, .int .i64 r2, .int .i64 s1, .int .i64 s2] 107)).trans (hb4.mono (by simp; omega))
                        have zz : wo.heap.size < w4.heap.size := by (have := hb4.size; simp at this; omega)
                        have Y0 := Lib.hid (((bcell hb4).1 _ 0 (by simp; omega)).trans ((World.cell?_alloc_lt wr _ _ hzi).trans v0))
                        have Y1 := Lib.hid (((bcell hb4).1 _ 1 (by simp; omega)).trans ((World.cell?_alloc_lt wr _ _ hzi).trans v1))
                        have Y2 := Lib.hid (((bcell hb4).1 _ 2 (by simp; omega)).trans ((World.cell?_alloc_lt wr _ _ hzi).trans v2))
                        have Y3 := Lib.hid (((bcell hb4).1 _ 3 (by simp; omega)).trans ((World.cell?_alloc_lt wr _ _ hzi).trans v3))
                        have Y4 := Lib.hid (((bcell hb4).1 _ 4 (by simp; omega)).trans ((World.cell?_alloc_lt wr _ _ hzi).trans v4))
                        have Y5 := Lib.hid (((bcell hb4).1 _ 5 (by simp; omega)).trans ((World.cell?_alloc_lt wr _ _ hzi).trans v5))
                        clear hb4
                        go_wp2_with fail
                        go_roundg (k - (m + 1))
                        case measure => have := HGM.out; omega
                        case rel => exact ⟨m + 1, by omega, rfl, by go_num, B4, zz, Y0.out, Y1.out, Y2.out, Y3.out, Y4.out, Y5.out, hD2⟩
                · have hmk : m = k := by omega
                  have hF2 : Hid (Seen l (k + 1)) := Lib.hid (fun i hi => by
                    by_cases hik : i = k
                    · subst hik; exact ⟨HTW.out, fun j hj => hD.out j (by omega)⟩
                    · exact hF.out i (by omega))
                  clear hD hF
                  go_wp2_with fail
                  go_roundg (n - (k + 1))
                  case measure => have := HGK.out; omega
                  case rel => exact ⟨k + 1, by omega, rfl, by go_num, hBi, hF2⟩
          · have hkn : n = k := by omega
            subst hkn
            have hy : Hid (goodB l = true) := Lib.hid (HT.out (seen_good (by have := HFEW.out; have := HN.out; omega) (fun i hi => HPE.out i (by have := HN.out; omega)) (by have := HN.out; rw [this]; exact hF.out)))
            have BB := Lib.hid (TR.out _ hB)
            go_wp2_with fail
            go_ret
            exact ⟨ret_bool hy.out.symm, BB.out⟩
      · have hpf : pegsB l = false := by simpa using hpg
        have hng : Hid (goodB l = false) := Lib.hid (goodB_false (fun h => hpg ((pegsB_iff l).2 h.pegs)))
        have K1 := Lib.hid (KA.out w (Below.refl _ _))
        rw [hpf] at K1
        clear hpf hpg KA hR hlo hhi
        go_enter Try.func55, Try.ntmps55
        go_wp2_with fail
        refine K1.out.mono ?_; rintro e w1 ⟨rfl, hb1⟩
        go_wp2_with fail
        go_ret
        exact ⟨ret_bool hng.out.symm, hb1⟩
end Go.Proofs.Ytheddoinnakneaa
/- contracts: TwiceArea, PegsOn and PegsInside, on both sides -/
namespace Go.Proofs.Ytheddoinnakneaa
open Go.ChangeShapes Go.WideShapes Go.ChangeAt Go.RowKit Go.Joins
set_option linter.unusedVariables false
set_option linter.unusedSimpArgs false
set_option maxRecDepth 4000
def gi (b : Bool) (x : Int) : Int := if b = true then x else 0
theorem ret_tup {a b : Int} {c : Bool} (h : a = b) : Ending.returned (.tuple #[.int .i64 a, .bool c]) = .returned (.tuple #[.int .i64 b, .bool c]) := by rw [h]
theorem gi_true (x : Int) : gi true x = x := rfl
theorem gi_false (x : Int) : gi false x = 0 := rfl
end Go.Proofs.Ytheddoinnakneaa
/- the least and the greatest numbers of corners -/
namespace Go.Proofs.Ytheddoinnakneaa
open Go.ChangeShapes Go.WideShapes Go.ChangeAt Go.RowKit Go.Joins
set_option linter.unusedVariables false
set_option linter.unusedSimpArgs false
set_option maxRecDepth 4000
/-- the least and the greatest numbers of corner 0 and of the first k corners -/
def loN (l : List (Int × Int)) : Nat → Int × Int
  | 0 => vx l 0
  | k + 1 => (min (loN l k).1 (vx l k).1, min (loN l k).2 (vx l k).2)
def hiN (l : List (Int × Int)) : Nat → Int × Int
  | 0 => vx l 0
  | k + 1 => (max (hiN l k).1 (vx l k).1, max (hiN l k).2 (vx l k).2)
end Go.Proofs.Ytheddoinnakneaa
/- widths in a direction: what is told -/
namespace Go.Proofs.Ytheddoinnakneaa
open Go.ChangeShapes Go.WideShapes Go.ChangeAt Go.RowKit Go.Joins
set_option linter.unusedVariables false
set_option linter.unusedSimpArgs false
set_option maxRecDepth 4000
/-- the value of a point -/
def vlu (u v : Int) (p : Int × Int) : Int := u * p.1 + v * p.2
def loW (l : List (Int × Int)) (u v : Int) : Nat → Int
  | 0 => vlu u v (vx l 0)
  | k + 1 => min (loW l u v k) (vlu u v (vx l k))
def hiW (l : List (Int × Int)) (u v : Int) : Nat → Int
  | 0 => vlu u v (vx l 0)
  | k + 1 => max (hiW l u v k) (vlu u v (vx l k))
theorem lohi_x (l : List (Int × Int)) (k : Nat) : loW l 1 0 k = (loN l k).1 ∧ hiW l 1 0 k = (hiN l k).1 := by
  induction k with
  | zero => simp [loW, hiW, loN, hiN, vlu]
  | succ k ih => simp [loW, hiW, loN, hiN, vlu, ih.1, ih.2]
theorem lohi_y (l : List (Int × Int)) (k : Nat) : loW l 0 1 k = (loN l k).2 ∧ hiW l 0 1 k = (hiN l k).2 := by
  induction k with
  | zero => simp [loW, hiW, loN, hiN, vlu]
  | succ k ih => simp [loW, hiW, loN, hiN, vlu, ih.1, ih.2]
theorem vlu_parts {u v : Int} {p : Int × Int} (h1 : -20000 ≤ u) (h2 : u ≤ 20000) (h3 : -20000 ≤ v) (h4 : v ≤ 20000) (hp : isPg p = true) : (-800000 ≤ u * p.1 ∧ u * p.1 ≤ 800000) ∧ (-800000 ≤ v * p.2 ∧ v * p.2 ≤ 800000) := by
  unfold isPg isPegB at hp
  simp only [Bool.and_eq_true, decide_eq_true_eq] at hp
  have a1 := mul_bd (x := u) (y := p.1) (m := 20000) (n := 40) (by omega) (by omega) (by omega) (by omega)
  have a2 := mul_bd (x := v) (y := p.2) (m := 20000) (n := 40) (by omega) (by omega) (by omega) (by omega)
  omega
theorem lohi_bd {l : List (Int × Int)} {u v : Int} (h1 : -20000 ≤ u) (h2 : u ≤ 20000) (h3 : -20000 ≤ v) (h4 : v ≤ 20000) (hp : ∀ i, i < l.length → isPg (vx l i) = true) (h0 : 0 < l.length) : ∀ k, k ≤ l.length → (-1600000 ≤ loW l u v k ∧ loW l u v k ≤ 1600000) ∧ (-1600000 ≤ hiW l u v k ∧ hiW l u v k ≤ 1600000) ∧ loW l u v k ≤ hiW l u v k := by
  intro k
  induction k with
  | zero =>
    intro _
    have := vlu_parts h1 h2 h3 h4 (hp 0 h0)
    simp only [loW, hiW, vlu]
    omega
  | succ k ih =>
    intro hk
    have := vlu_parts h1 h2 h3 h4 (hp k (by omega))
    have i1 := ih (by omega)
    simp only [loW, hiW, vlu]
    omega
/-- is it a direction that functions take? -/
def dirB (u v : Int) : Bool := (decide (-200 ≤ u) && decide (u ≤ 200)) && (decide (-200 ≤ v) && decide (v ≤ 200)) && decide (Nat.gcd u.natAbs v.natAbs = 1)
noncomputable def okW (l : List (Int × Int)) (u v : Int) : Bool := goodB l && dirB u v
noncomputable def wdS (l : List (Int × Int)) (u v : Int) : Int := if okW l u v = true then hiW l u v l.length - loW l u v l.length else 0
theorem wdS_t {l : List (Int × Int)} {u v : Int} (h : okW l u v = true) : wdS l u v = hiW l u v l.length - loW l u v l.length := by unfold wdS; rw [if_pos h]
theorem wdS_f {l : List (Int × Int)} {u v : Int} (h : okW l u v = false) : wdS l u v = 0 := by unfold wdS; rw [h]; rfl
theorem dirB_t {u v : Int} (h : dirB u v = true) : -200 ≤ u ∧ u ≤ 200 ∧ -200 ≤ v ∧ v ≤ 200 ∧ Nat.gcd u.natAbs v.natAbs = 1 := by
  unfold dirB at h
  simp only [Bool.and_eq_true, decide_eq_true_eq] at h
  omega
end Go.Proofs.Ytheddoinnakneaa

