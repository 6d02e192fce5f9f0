/- 'x = append(x, ..)' whose order is open: the first operation, a move, may come ahead of any other one up to the append. -/
import Derived.Test.YtacabmbajadbgaaRt
namespace Go.Proofs.Ytacabmbajadbgaa
open Go.ChangeShapes Go.WideShapes Go.ChangeAt Go.RowKit Go.Joins
set_option linter.unusedVariables false
set_option linter.unusedSimpArgs false
set_option maxRecDepth 4000
section
variable {P : Program} {ops : Array Oper} {md : Region.Mode} {S : World → Prop}
def sink1B (md : Region.Mode) (ops : Array Oper) (n : Nat) : Bool :=
  (List.range n).all fun i => decide (i = 0) || (List.range (n + 1)).any fun j => decide (i < j) && Region.waitsFor md ops j i
theorem tail_waits1 {n : Nat} {listed : Array Bool} (hs : sink1B md ops n = true) (hc : Region.chainB md ops n = true) (hn : n < ops.size) (inv : HeadInv md ops n listed) :
    ∀ (d i : Nat), n - i = d → i < n → i ≠ 0 → listed.getD i true = false → ∀ t, n ≤ t → t ∉ Region.ready md ops listed := by
  intro d
  induction d using Nat.strongRecOn with
  | _ d ih =>
    intro i hd hi hi0 hun t ht hr
    obtain ⟨_, ot, hot, hall⟩ := mem_ready.1 hr
    have htlt : t < ops.size := (Array.getElem?_eq_some_iff.1 hot).1
    by_cases htn : t = n
    · subst htn
      have h1 := List.all_eq_true.1 hs i (List.mem_range.2 hi)
      simp only [Bool.or_eq_true, decide_eq_true_eq] at h1
      rcases h1 with h1 | h1
      · exact hi0 h1
      obtain ⟨j, hj, hj2⟩ := List.any_eq_true.1 h1
      simp only [Bool.and_eq_true, decide_eq_true_eq] at hj2
      obtain ⟨oj, hoj, e, he, hb, hon⟩ := Region.waitsFor_spec hj2.2
      have hjle : j ≤ t := by have := List.mem_range.1 hj; omega
      by_cases hjt : j = t
      · subst hjt
        have : oj = ot := Option.some.inj (hoj.symm.trans hot)
        subst this
        have h2 := hall e he hb
        rw [hon, getD_both hun] at h2
        cases h2
      · cases hl : listed.getD j false with
        | true =>
          have h2 := inv.closed j oj hoj hl e he hb
          rw [hon, getD_both hun] at h2
          cases h2
        | false =>
          have hjs : j < listed.size := by rw [inv.size]; omega
          exact ih (t - j) (by omega) j rfl (by omega) (by omega) (getD_in hjs hl) t (Nat.le_refl _) hr
    · have h1 := List.all_eq_true.1 hc t (List.mem_range.2 htlt)
      simp only [Bool.or_eq_true, decide_eq_true_eq] at h1
      rcases h1 with h1 | h1
      · omega
      · obtain ⟨o', ho', e, he, hb, hon⟩ := Region.waitsFor_spec h1
        have : o' = ot := Option.some.inj (ho'.symm.trans hot)
        subst this
        have h2 := hall e he hb
        rw [hon, getD_both (inv.tail (t - 1) (by omega) (by omega))] at h2
        cases h2
theorem wpAnyS_first1 {n i : Nat} {oi : Oper} {v : Value} {L : Array Bool → Act → Prop} (hi : ops[i]? = some oi) (hsel : ∀ (j : Nat) (o : Oper) cs b, ops[j]? = some o → o.op ≠ .select cs b)
    (hs : sink1B md ops n = true) (hc : Region.chainB md ops n = true) (hn : n < ops.size) (hin : i < n) (hi0 : i ≠ 0)
    (hdone : ∀ listed a, L listed a → ∀ j ∈ Region.ready md ops listed, n ≤ j) :
    ∀ (f : Nat) (listed : Array Bool) (a : Act), HeadInv md ops n listed →
      (∀ j oj, ops[j]? = some oj → j ≠ i → listed.getD j true = false → (∀ e ∈ oj.after, Region.binds md e = true → e.on ≠ i) → oi.apart ops oj = true) →
      i ∈ Region.ready md ops listed → Steady P ops S oi v a →
      wpAnyS P md ops S n L f (listed.setIfInBounds i true) (a.put oi.dst v) → wpAnyS P md ops S n L (f + 1) listed a := by
  intro f
  induction f with
  | zero =>
    intro listed a inv _ hr hy H
    have hun := (mem_ready.1 hr).1
    refine ⟨fun h => (by rw [h] at hr; cases hr), fun j hj => ?_⟩
    have hjn : j < n := by
      rcases Nat.lt_or_ge j n with h | h
      · exact h
      · exact absurd hj (tail_waits1 hs hc hn inv _ i rfl hin hi0 hun j h)
    refine ⟨hjn, ?_⟩
    by_cases hji : j = i
    · subst hji; exact ⟨oi, v, hi, hy, H⟩
    · have := hdone _ _ H j (ready_mono hj hji)
      omega
  | succ f ih =>
    intro listed a inv hfree hr hy H
    have hun := (mem_ready.1 hr).1
    refine ⟨fun h => (by rw [h] at hr; cases hr), fun j hj => ?_⟩
    have hjn : j < n := by
      rcases Nat.lt_or_ge j n with h | h
      · exact h
      · exact absurd hj (tail_waits1 hs hc hn inv _ i rfl hin hi0 hun j h)
    refine ⟨hjn, ?_⟩
    by_cases hji : j = i
    · subst hji; exact ⟨oi, v, hi, hy, H⟩
    · obtain ⟨_, oj, u, hoj, hsj, Hj⟩ := H.2 j (ready_mono hj hji)
      obtain ⟨hjun, oj', hoj', hall⟩ := mem_ready.1 hj
      obtain rfl : oj' = oj := Option.some.inj (hoj'.symm.trans hoj)
      have hnot : ∀ e ∈ oj'.after, Region.binds md e = true → e.on ≠ i := fun e he hb heq => by
        have h1 := hall e he hb
        rw [heq, getD_both hun] at h1
        cases h1
      obtain ⟨h1, h2, h3⟩ := Oper.apart_spec (hfree j oj' hoj hji hjun hnot)
      have k1 : Steady P ops S oj' u a := steady_same hsj (execOp_put oj' (fun cs b => hsel j oj' cs b hoj) a oi.dst v h1).symm (wanted_put oj' a oi.dst v h1).symm
      have k2 : Steady P ops S oi v (a.put oj'.dst u) := steady_same hy (execOp_put oi (fun cs b => hsel i oi cs b hi) a oj'.dst u h3) (wanted_put oi a oj'.dst u h3)
      refine ⟨oj', u, hoj, k1, ih _ _ (inv.set hj hjn) (fun k ok hk hki hun hno => ?_) (ready_mono hr (Ne.symm hji)) k2 ?_⟩
      · refine hfree k ok hk hki ?_ hno
        by_cases hjk : j = k
        · subst hjk; exact hjun
        · rw [getD_set_ne true hjk] at hun; exact hun
      · rw [Array.setIfInBounds_comm _ _ hji, ← Act.put_comm a v u h2]
        exact Hj
theorem wpAnyS_lex1 {n g : Nat} {T : Act → Prop} (hsel : Region.noSelect ops = true) (hs : sink1B md ops n = true) (hc : Region.chainB md ops n = true) (hn : n < ops.size) :
    ∀ (l : List Oper) (k : Nat) (listed : Array Bool) (a : Act), (∀ j, j < l.length → l[j]? = ops[k + j]?) → k + l.length = n → k ≠ 0 → HeadInv md ops n listed →
    Region.lexHead md ops g l.length k listed = true → wpH P ops S T l a →
    wpAnyS P md ops S n (fun listed' a' => Region.seqB md ops g n listed' = true ∧ T a') l.length listed a
  | [], k, listed, a, _, hk, _, _, hB, h => by
    have : k = n := by simpa using hk
    subst this
    exact ⟨by simpa [Region.lexHead] using hB, h⟩
  | o :: l, k, listed, a, hl, hk, hk0, inv, hB, h => by
    have h0 : ops[k]? = some o := by simpa using (hl 0 (by simp)).symm
    simp only [List.length_cons, Region.lexHead, Bool.and_eq_true] at hB
    obtain ⟨⟨hr, hf⟩, hB'⟩ := hB
    have hkn : k < n := by simp only [List.length_cons] at hk; omega
    have hr' : k ∈ Region.ready md ops listed := by simpa using hr
    obtain ⟨v, hy, hK⟩ := h
    exact wpAnyS_first1 h0 (Region.noSelect_spec hsel) hs hc hn hkn hk0 (fun listed' a' hL => seqB_ready hL.1) l.length listed a inv (Region.free_spec h0 hf) hr' hy
      (wpAnyS_lex1 hsel hs hc hn l (k + 1) _ _ (fun j hj => by have := hl (j + 1) (by simp; omega); simpa [Nat.add_assoc, Nat.add_comm 1 j] using this) (by simp only [List.length_cons] at hk; omega) (by omega) (inv.set hr' hkn) hB' hK)
/-- what the first operation behind the head comes to: a value, in a world of its own -/
def TailV (P : Program) (ops : Array Oper) (Q : Exit → Act → World → Prop) (o : Oper) (rest : List Oper) (a : Act) (W : World) : Prop :=
  ∃ v w', (execOp a.eval o).run P W = .ok (.value v) w' ∧ wpList P ops Q rest (a.put o.dst v) w'
theorem op_value {o : Oper} {a : Act} {K : Act → World → Prop} {Q : Exit → Act → World → Prop} {W w' : World} {v : Value} (h1 : (execOp a.eval o).run P W = .ok (.value v) w') (h2 : K (a.put o.dst v) w') : o.wp P a W K Q := by
  unfold Oper.wp
  rw [h1]
  exact h2
theorem wpOp_value {i : Nat} {o : Oper} {a : Act} {K : Act → World → Prop} {Q : Exit → Act → World → Prop} {W w' : World} {v : Value} (hi : ops[i]? = some o) (hw : Region.wanted o (yielded ops a.tmps) = true)
    (h1 : (execOp a.eval o).run P W = .ok (.value v) w') (h2 : K (a.put o.dst v) w') : wpOp P ops Q i K a W := by
  unfold wpOp
  simp only [hi, hw, if_true]
  left
  exact op_value h1 h2
theorem wpAny_lazy {n g : Nat} {o0 on : Oper} {rest : List Oper} {v0 : Value} {Q : Exit → Act → World → Prop} (h0 : ops[0]? = some o0) (hon : ops[n]? = some on) (hn0 : n ≠ 0)
    (hrest : ∀ j, rest[j]? = ops[n + 1 + j]?) (hg : rest.length = g) (hsel : ∀ (j : Nat) (o : Oper) cs b, ops[j]? = some o → o.op ≠ .select cs b)
    (hap : o0.apart ops on = true) (hw1 : Region.waitsFor md ops (n + 1) 0 = true) (hc : Region.chainB md ops n = true) (hsz : n + 1 < ops.size) (hwn : ∀ a : Act, Region.wanted on (yielded ops a.tmps) = true) :
    ∀ (f : Nat) (listed : Array Bool) (a : Act), HeadInv md ops n listed →
      (∀ j oj, ops[j]? = some oj → j ≠ 0 → listed.getD j true = false → (∀ e ∈ oj.after, Region.binds md e = true → e.on ≠ 0) → o0.apart ops oj = true) →
      0 ∈ Region.ready md ops listed → Region.wanted o0 (yielded ops a.tmps) = true → (∀ w, (execOp a.eval o0).run P w = .ok (.value v0) w) →
      wpAnyS P md ops S n (fun listed' a' => Region.seqB md ops (g + 1) n listed' = true ∧ ∀ W, S W → TailV P ops Q on rest a' W) f (listed.setIfInBounds 0 true) (a.put o0.dst v0) →
      ∀ W, S W → wpAny P md ops Q (f + 1 + (g + 1)) listed a W := by
  intro f
  induction f with
  | zero =>
    intro listed a inv hfree hr hw hp H W hS
    obtain ⟨hB, hT⟩ := H
    obtain ⟨v, w', hv, hl⟩ := hT W hS
    have hB' := hB
    simp only [Region.seqB, Bool.and_eq_true, decide_eq_true_eq] at hB'
    obtain ⟨hrd, hB2⟩ := hB'
    have done : wpAny P md ops Q (g + 1) (listed.setIfInBounds 0 true) (a.put o0.dst v0) W := by
      refine ⟨fun h => (by rw [hrd] at h; cases h), fun i hi => ?_⟩
      rw [hrd] at hi
      have hin : i = n := by simpa using hi
      subst hin
      refine wpOp_value hon (hwn _) hv ?_
      have := wpAny_of_seq (md := md) (Q' := Q) rest (i + 1) ((listed.setIfInBounds 0 true).setIfInBounds i true) _ w' hrest (by rw [hg]; exact hB2) hl
      rw [hg] at this
      exact this
    rw [show 0 + 1 + (g + 1) = (g + 1) + 1 by omega]
    refine ⟨fun h => (by rw [h] at hr; cases hr), fun j hj => ?_⟩
    by_cases hj0 : j = 0
    · subst hj0
      exact wpOp_value h0 hw (hp W) done
    · have hjr := ready_mono (i := 0) hj hj0
      rw [hrd] at hjr
      have hjn : j = n := by simpa using hjr
      subst hjn
      obtain ⟨a1, a2, a3⟩ := Oper.apart_spec hap
      have hv2 : (execOp a.eval on).run P W = .ok (.value v) w' := by
        rw [← execOp_put on (fun cs b => hsel j on cs b hon) a o0.dst v0 a1]; exact hv
      refine wpOp_value hon (hwn _) hv2 ?_
      refine ⟨fun h => ?_, fun i hi => ?_⟩
      · have := ready_mono (i := j) hr (Ne.symm hj0)
        rw [h] at this; cases this
      · have hi0 : i = 0 := by
          apply Classical.byContradiction
          intro hi0
          have h0un : (listed.setIfInBounds j true).getD 0 false = false := by
            rw [getD_set_ne false hj0]; exact getD_both (mem_ready.1 hr).1
          have hi' := ready_mono (i := 0) hi hi0
          rw [Array.setIfInBounds_comm _ _ hj0] at hi'
          cases g with
          | zero =>
            simp only [Region.seqB, List.isEmpty_iff] at hB2
            rw [hB2] at hi'
            cases hi'
          | succ g =>
            simp only [Region.seqB, Bool.and_eq_true, decide_eq_true_eq] at hB2
            rw [hB2.1] at hi'
            have hi1 : i = j + 1 := by simpa using hi'
            subst hi1
            obtain ⟨_, oi, hoi, hall⟩ := mem_ready.1 hi
            obtain ⟨o', ho', e, he, hb, hon'⟩ := Region.waitsFor_spec hw1
            have : o' = oi := Option.some.inj (ho'.symm.trans hoi)
            subst this
            have h2 := hall e he hb
            rw [hon', h0un] at h2
            cases h2
        subst hi0
        have hp2 : (execOp (a.put on.dst v).eval o0).run P w' = .ok (.value v0) w' := by
          rw [execOp_put o0 (fun cs b => hsel 0 o0 cs b h0) a on.dst v a3]; exact hp w'
        have hw2 : Region.wanted o0 (yielded ops (a.put on.dst v).tmps) = true := by rw [wanted_put o0 a on.dst v a3]; exact hw
        refine wpOp_value h0 hw2 hp2 ?_
        rw [Array.setIfInBounds_comm _ _ hj0, ← Act.put_comm a v0 v a2]
        have := wpAny_of_seq (md := md) (Q' := Q) rest (j + 1) ((listed.setIfInBounds 0 true).setIfInBounds j true) _ w' hrest (by rw [hg]; exact hB2) hl
        rw [hg] at this
        exact this
  | succ f ih =>
    intro listed a inv hfree hr hw hp H W hS
    rw [show f + 1 + 1 + (g + 1) = (f + 1 + (g + 1)) + 1 by omega]
    refine ⟨fun h => (by rw [h] at hr; cases hr), fun j hj => ?_⟩
    by_cases hj0 : j = 0
    · subst hj0
      refine wpOp_value h0 hw (hp W) ?_
      refine wpAny_of_S (Q := Q) (g := g + 1) (fun listed' a' hL W' hW' => ?_) (f + 1) _ _ H W hS
      obtain ⟨hB, hT⟩ := hL
      obtain ⟨v, w', hv, hl⟩ := hT W' hW'
      simp only [Region.seqB, Bool.and_eq_true, decide_eq_true_eq] at hB
      refine ⟨fun h => (by rw [hB.1] at h; cases h), fun i hi => ?_⟩
      rw [hB.1] at hi
      have hin : i = n := by simpa using hi
      subst hin
      refine wpOp_value hon (hwn _) hv ?_
      have := wpAny_of_seq (md := md) (Q' := Q) rest (i + 1) (listed'.setIfInBounds i true) _ w' hrest (by rw [hg]; exact hB.2) hl
      rw [hg] at this
      exact this
    · obtain ⟨hjn, oj, u, hoj, hsj, Hj⟩ := H.2 j (ready_mono hj hj0)
      obtain ⟨hjun, oj', hoj', hall⟩ := mem_ready.1 hj
      obtain rfl : oj' = oj := Option.some.inj (hoj'.symm.trans hoj)
      have hnot : ∀ e ∈ oj'.after, Region.binds md e = true → e.on ≠ 0 := fun e he hb heq => by
        have h1 := hall e he hb
        rw [heq, getD_both (mem_ready.1 hr).1] at h1
        cases h1
      obtain ⟨h1, h2, h3⟩ := Oper.apart_spec (hfree j oj' hoj hj0 hjun hnot)
      have k1 : Steady P ops S oj' u a := steady_same hsj (execOp_put oj' (fun cs b => hsel j oj' cs b hoj) a o0.dst v0 h1).symm (wanted_put oj' a o0.dst v0 h1).symm
      refine steady_op hoj k1 hS fun w' hS' => ?_
      refine ih (listed.setIfInBounds j true) (a.put oj'.dst u) (inv.set hj hjn) (fun k ok hk hki hun hno => ?_) (ready_mono hr (Ne.symm hj0)) (by rw [wanted_put o0 a oj'.dst u h3]; exact hw) (fun w => ?_) ?_ w' hS'
      · refine hfree k ok hk hki ?_ hno
        by_cases hjk : j = k
        · subst hjk; exact hjun
        · rw [getD_set_ne true hjk] at hun; exact hun
      · rw [execOp_put o0 (fun cs b => hsel 0 o0 cs b h0) a oj'.dst u h3]; exact hp w
      · rw [Array.setIfInBounds_comm _ _ hj0, ← Act.put_comm a v0 u h2]
        exact Hj
def lexAppB (md : Region.Mode) (ops : Array Oper) (n : Nat) : Bool :=
  Region.noSelect ops && decide (n + 1 < ops.size) && sink1B md ops n && Region.chainB md ops n && Region.waitsFor md ops (n + 1) 0 &&
    (Region.ready md ops (Array.replicate ops.size false)).contains 0 && Region.free md ops (Array.replicate ops.size false) 0 &&
    Region.lexHead md ops (ops.size - n) (n - 1) 1 ((Array.replicate ops.size false).setIfInBounds 0 true)
theorem wp_region_AP {id : Nat} {Q : Exit → Act → World → Prop} {a : Act} {w : World} {l : List Oper} (n : Nat) {o0 on : Oper} {hd rest : List Oper} {v0 : Value} (S : World → Prop) (hm : P.follows .mixedOrders = true) (hB : lexAppB .any l.toArray n = true) (hS : S w.drew)
    (hl0 : l.take n = o0 :: hd) (hln : l.drop n = on :: rest) (hap : o0.apart l.toArray on = true) (hwn : ∀ a, Region.wanted on (yielded l.toArray a) = true)
    (hw0 : Region.wanted o0 (yielded l.toArray a.tmps) = true) (hp : ∀ w, (execOp a.eval o0).run P w = .ok (.value v0) w)
    (h : wpH P l.toArray S (fun a' => ∀ W, S W → TailV P l.toArray Q on rest a' W) hd (a.put o0.dst v0)) : (Code.region id l.toArray true).wp P Q a w := by
  simp only [lexAppB, Bool.and_eq_true, decide_eq_true_eq] at hB
  obtain ⟨⟨⟨⟨⟨⟨⟨hsel, hn⟩, hs⟩, hc⟩, hw1⟩, hr0⟩, hf0⟩, hlex⟩ := hB
  have hn' : n + 1 < l.length := by simpa using hn
  have hn0 : n ≠ 0 := by
    intro h0
    subst h0
    simp at hl0
  have htl : (l.take n).length = n := by simp; omega
  have hhd : hd.length = n - 1 := by
    have := congrArg List.length hl0
    simp at this
    omega
  have h0i : l.toArray[0]? = some o0 := by
    have h0 : (l.take n)[0]? = some o0 := by rw [hl0]; rfl
    have hlt : 0 < n := by omega
    simpa [List.getElem?_take, hlt] using h0
  have hoi : l.toArray[n]? = some on := by
    have h0 : (l.drop n)[0]? = some on := by rw [hln]; rfl
    simpa [List.getElem?_drop] using h0
  have hrest : ∀ j, rest[j]? = l.toArray[n + 1 + j]? := fun j => by
    have h0 : (l.drop n)[j + 1]? = rest[j]? := by rw [hln]; rfl
    rw [← h0]
    simp [List.getElem?_drop]
    congr 1
    omega
  have hrl : rest.length = l.toArray.size - n - 1 := by
    have := congrArg List.length hln
    simp at this ⊢
    omega
  have inv0 : HeadInv .any l.toArray n (Array.replicate l.toArray.size false) :=
    ⟨by simp, fun j oj _ hl => (by rw [getD_replicate_false] at hl; cases hl), fun t _ ht => getD_in (by simpa using ht) (getD_replicate_false _ _)⟩
  have hr0' : 0 ∈ Region.ready .any l.toArray (Array.replicate l.toArray.size false) := by simpa using hr0
  have H := wpAnyS_lex1 (md := .any) (g := l.toArray.size - n) hsel hs hc (by omega) hd 1 _ _ (fun j hj => by
    have h0 : (l.take n)[j + 1]? = hd[j]? := by rw [hl0]; rfl
    rw [← h0]
    have hlt : j + 1 < n := by omega
    simp [List.getElem?_take, hlt, Nat.add_comm 1 j]) (by omega) (by omega) (inv0.set hr0' (by omega)) (by rw [hhd]; exact hlex) h
  refine wp_region_any hm ?_
  have hg1 : l.toArray.size - n = rest.length + 1 := by rw [hrl]; omega
  rw [hg1] at H
  have := wpAny_lazy (md := .any) (Q := Q) h0i hoi hn0 hrest rfl (Region.noSelect_spec hsel) hap hw1 hc hn (fun a => hwn a.tmps) hd.length _ a inv0 (Region.free_spec h0i hf0) hr0' hw0 hp H w.drew hS
  rw [hhd, show n - 1 + 1 + (rest.length + 1) = l.toArray.size by rw [hrl]; omega] at this
  exact this
end
end Go.Proofs.Ytacabmbajadbgaa
