/- A statement that leaves the order of its first operations open, one of which makes a new block, and one of which, which looks at no memory, may also come behind the store into it: one walk, in the order of the text. -/
import Derived.Test.YtjlihafpnppchaaRn
namespace Go.Proofs.Ytjlihafpnppchaa
open Go.ChangeShapes Go.WideShapes Go.ChangeAt Go.RowKit Go.Joins
set_option linter.unusedVariables false
set_option linter.unusedSimpArgs false
section
variable {P : Program} {ops : Array Oper} {W0 : World}
theorem binds_any_text {e : Edge} (h : Region.binds .any e = true) : Region.binds .text e = true := by
  unfold Region.binds at *
  split at h <;> simp_all
theorem ready_text_any {j : Nat} {listed : Array Bool} (h : j ∈ Region.ready .text ops listed) : j ∈ Region.ready .any ops listed := by
  rw [mem_ready] at *
  obtain ⟨h0, o, ho, hall⟩ := h
  exact ⟨h0, o, ho, fun e he hb => hall e he (binds_any_text hb)⟩
/-- the edges that the text alone draws: only from operation n to operation m -/
structure Late (ops : Array Oper) (n m : Nat) (om on : Oper) : Prop where
  hm : ops[m]? = some om
  hn : ops[n]? = some on
  mn : m < n
  other : ∀ j o, ops[j]? = some o → j ≠ n → ∀ e ∈ o.after, Region.binds .text e = true → Region.binds .any e = true
  self : ∀ e ∈ on.after, Region.binds .text e = true → Region.binds .any e = true ∨ e.on = m
  deps : ∀ e ∈ om.after, Region.binds .text e = true → ∃ e' ∈ on.after, Region.binds .any e' = true ∧ e'.on = e.on
  free : ∀ j o, ops[j]? = some o → n ≤ j → (∀ e ∈ o.after, Region.binds .any e = true → e.on ≠ m) → om.apart ops o = true
theorem late_other {n m : Nat} {om on : Oper} (h : Late ops n m om on) {j : Nat} {listed : Array Bool} (hj : j ∈ Region.ready .any ops listed) (hne : j ≠ n) : j ∈ Region.ready .text ops listed := by
  rw [mem_ready] at *
  obtain ⟨h0, o, ho, hall⟩ := hj
  exact ⟨h0, o, ho, fun e he hb => hall e he (h.other j o ho hne e he hb)⟩
theorem late_m {n m : Nat} {om on : Oper} (h : Late ops n m om on) {listed : Array Bool} (hsz : listed.size = ops.size) (hj : n ∈ Region.ready .any ops listed) (hne : n ∉ Region.ready .text ops listed) :
    m ∈ Region.ready .text ops listed ∧ n ∈ Region.ready .text ops (listed.setIfInBounds m true) := by
  have hj0 := hj
  rw [mem_ready] at hj
  obtain ⟨h0, o, ho, hall⟩ := hj
  obtain rfl : o = on := Option.some.inj (ho.symm.trans h.hn)
  have hms : m < listed.size := by rw [hsz]; exact (Array.getElem?_eq_some_iff.1 h.hm).1
  have hun : listed.getD m false = false := by
    cases hl : listed.getD m false with
    | false => rfl
    | true =>
      refine absurd (mem_ready.2 ⟨h0, o, ho, fun e he hb => ?_⟩) hne
      rcases h.self e he hb with h1 | h1
      · exact hall e he h1
      · rw [h1]; exact hl
  refine ⟨mem_ready.2 ⟨getD_in hms hun, om, h.hm, fun e he hb => ?_⟩, mem_ready.2 ⟨?_, o, ho, fun e he hb => ?_⟩⟩
  · obtain ⟨e', h1, h2, h3⟩ := h.deps e he hb
    rw [← h3]; exact hall e' h1 h2
  · rw [getD_set_ne true (Nat.ne_of_lt h.mn)]; exact h0
  · rcases h.self e he hb with h1 | h1
    · exact getD_set_true (hall e he h1)
    · rw [h1]; simp [hms]
theorem wpAny_late {n m g : Nat} {om on : Oper} {S : World → Prop} {L : Array Bool → Act → Prop} {Q : Exit → Act → World → Prop} (hL : Late ops n m om on) (hsel : ∀ (j : Nat) (o : Oper) cs b, ops[j]? = some o → o.op ≠ .select cs b)
    (hs : Region.sinkB .text ops n = true) (hc : Region.chainB .text ops n = true) (hn : n < ops.size)
    (hpure : ∀ (a : Act) v w w', S w → Comes P S v ((execOp a.eval om).run P w) → (execOp a.eval om).run P w' = .ok (.value v) w')
    (hQ : ∀ c (a : Act) v w, Q (.panic c) (a.put om.dst v) w → Q (.panic c) a w)
    (hT : ∀ listed a, L listed a → ∀ w, S w → wpAny P .any ops Q g listed a w) :
    ∀ (f : Nat) (listed : Array Bool) (a : Act), HeadInv .text ops n listed → wpAnyS P .text ops S n L f listed a → ∀ w, S w → wpAny P .any ops Q (f + g) listed a w
  | 0, listed, a, _, h, w, hS => by rw [Nat.zero_add]; exact hT _ _ h w hS
  | f + 1, listed, a, inv, h, w, hS => by
    by_cases hnr : n ∈ Region.ready .any ops listed ∧ n ∉ Region.ready .text ops listed
    · obtain ⟨hm, hn2⟩ := late_m hL inv.size hnr.1 hnr.2
      obtain ⟨_, om', v, hom, hst, H⟩ := h.2 m hm
      obtain rfl : om' = om := Option.some.inj (hom.symm.trans hL.hm)
      have inv2 := inv.set hm hL.mn
      cases f with
      | succ f => exact absurd (H.2 n hn2).1 (Nat.lt_irrefl n)
      | zero =>
        have hy : Yields P ops om' v a := by
          rcases hst with ⟨h1, h2⟩ | h2
          · exact Or.inl ⟨h1, fun w' => hpure a v w w' hS (h2 w hS)⟩
          · exact Or.inr h2
        have := wpAny_first (Q := Q) (md := .any) hom hsel (fun c a w => hQ c a v w) g listed a w (fun j oj hj hjm hun hno => by
          rcases Nat.lt_or_ge j n with hjn | hjn
          · exact absurd hn2 (tail_waits hs hc hn inv2 _ j rfl hjn (by rw [getD_set_ne true (Ne.symm hjm)]; exact hun) n (Nat.le_refl _))
          · exact hL.free j oj hj hjn hno) (ready_text_any hm) hy (hT _ _ H w hS)
        rw [show 0 + 1 + g = g + 1 by omega]
        exact this
    · have key : ∀ j, j ∈ Region.ready .any ops listed → j ∈ Region.ready .text ops listed := fun j hj => by
        by_cases hjn : j = n
        · subst hjn
          apply Classical.byContradiction
          intro h1
          exact hnr ⟨hj, h1⟩
        · exact late_other hL hj hjn
      rw [show f + 1 + g = (f + g) + 1 by omega]
      refine ⟨fun h0 => ?_, fun j hj => ?_⟩
      · exfalso
        apply h.1
        apply List.eq_nil_iff_forall_not_mem.2
        intro j hj
        have := ready_text_any hj
        rw [h0] at this
        cases this
      · obtain ⟨hjn, oj, v, ho, hy, hk⟩ := h.2 j (key j hj)
        exact steady_op ho hy hS fun w' hS' => wpAny_late hL hsel hs hc hn hpure hQ hT f _ _ (inv.set (key j hj) hjn) hk w' hS'
theorem wpAny_alloc2 {n z m g : Nat} {oz om on : Oper} {obj : Obj} {rest : List Oper} {T : Act → Prop} {Q : Exit → Act → World → Prop} (hL : Late ops n m om on) (hsel : ∀ (j : Nat) (o : Oper) cs b, ops[j]? = some o → o.op ≠ .select cs b)
    (hs : Region.sinkB .text ops n = true) (hc : Region.chainB .text ops n = true) (hn : n < ops.size) (hz : z < n) (hnz : Region.waitsFor .any ops n z = true) (hoz : ops[z]? = some oz)
    (hap : ∀ j oj, j < n → j ≠ z → ops[j]? = some oj → oz.apart ops oj = true) (hw : ∀ a : Act, Region.wanted oz (yielded ops a.tmps) = true)
    (hal : ∀ (a : Act) W, (execOp a.eval oz).run P W = .ok (.value (.pointer (some ⟨W.heap.size, 0, none⟩))) (W.alloc obj))
    (hpure : ∀ (S : World → Prop) (a : Act) v w w', Comes P S v ((execOp a.eval om).run P w) → (execOp a.eval om).run P w' = .ok (.value v) w')
    (hQ : ∀ c (a : Act) v w, Q (.panic c) (a.put om.dst v) w → Q (.panic c) a w)
    (hrest : ∀ j, rest[j]? = ops[n + j]?) (hg : rest.length = g)
    (hT : ∀ a', T a' → ∀ W1 W, Below W0.heap.size W0 W1 → Below (W1.alloc obj).heap.size (W1.alloc obj) W → wpList P ops Q rest (a'.put oz.dst (.pointer (some ⟨W1.heap.size, 0, none⟩))) W) :
    ∀ (f : Nat) (listed : Array Bool) (a : Act), HeadInv .text ops n listed → z ∈ Region.ready .text ops listed →
      wpAnyR P .text ops W0 n (fun l' a' => (Region.seqB .text ops g n l' = true ∧ Region.seqB .any ops g n l' = true) ∧ T a') f (listed.setIfInBounds z true) a →
      ∀ W, Below W0.heap.size W0 W → wpAny P .any ops Q (f + 1 + g) listed a W := by
  have doz : ∀ (f : Nat) (listed : Array Bool) (a : Act), HeadInv .text ops n listed → z ∈ Region.ready .text ops listed →
      wpAnyR P .text ops W0 n (fun l' a' => (Region.seqB .text ops g n l' = true ∧ Region.seqB .any ops g n l' = true) ∧ T a') f (listed.setIfInBounds z true) a →
      ∀ W, Below W0.heap.size W0 W → wpOp P ops Q z (fun a' w' => wpAny P .any ops Q (f + g) (listed.setIfInBounds z true) a' w') a W := by
    intro f listed a inv hr H W hW
    refine op_gives hoz (hw _) (hal _ _) ?_
    have hzl : (listed.setIfInBounds z true).getD z true = true := by
      rcases Nat.lt_or_ge z listed.size with h' | h'
      · simp [h']
      · simp [Array.getElem?_eq_none h']
    have hWA : Below W0.heap.size W0 (W.alloc obj) := Below.alloc hW hW.size obj
    have H2 := wpAnyR_put (vz := .pointer (some ⟨W.heap.size, 0, none⟩)) hsel hap f _ _ hzl H
    have H3 := wpAnyS_of_R (S := fun w => Below (W.alloc obj).heap.size (W.alloc obj) w) (fun w hb => hWA.trans (hb.mono hWA.size)) (fun w w' h1 h2 => h1.trans (h2.mono h1.size)) f _ _ H2
    refine wpAny_late (Q := Q) (g := g) hL hsel hs hc hn (fun a v w w' _ h => hpure _ a v w w' h) hQ (fun l' a' hLL W' hW' => ?_) f _ _ (inv.set hr hz) H3 (W.alloc obj) (Below.refl _ _)
    obtain ⟨b, ⟨hB, hTb⟩, rfl⟩ := hLL
    have := wpAny_of_seq (md := .any) (Q' := Q) rest n l' _ W' hrest (by rw [hg]; exact hB.2) (hT b hTb W W' hW hW')
    rwa [hg] at this
  have nope : ∀ (listed : Array Bool), z ∈ Region.ready .text ops listed → n ∉ Region.ready .any ops listed := fun listed hr hj => by
    obtain ⟨o', ho', e, he, hb, hon⟩ := Region.waitsFor_spec hnz
    obtain ⟨_, o, ho, hall⟩ := mem_ready.1 hj
    obtain rfl : o' = o := Option.some.inj (ho'.symm.trans ho)
    have := hall e he hb
    rw [hon, getD_both (mem_ready.1 hr).1] at this
    cases this
  intro f
  induction f with
  | zero =>
    intro listed a inv hr H W hW
    rw [show 0 + 1 + g = (0 + g) + 1 by omega]
    refine ⟨fun h => (by have := ready_text_any hr; rw [h] at this; cases this), fun j hj => ?_⟩
    by_cases hjz : j = z
    · subst hjz; exact doz 0 listed a inv hr H W hW
    · have hjt := late_other hL hj (fun e => nope listed hr (e ▸ hj))
      have h1 := seqB_ready H.1.1 j (ready_mono hjt hjz)
      exact absurd hjt (tail_waits hs hc hn inv _ z rfl hz (mem_ready.1 hr).1 j h1)
  | succ f ih =>
    intro listed a inv hr H W hW
    rw [show f + 1 + 1 + g = (f + 1 + g) + 1 by omega]
    refine ⟨fun h => (by have := ready_text_any hr; rw [h] at this; cases this), fun j hj => ?_⟩
    by_cases hjz : j = z
    · subst hjz; exact doz (f + 1) listed a inv hr H W hW
    · have hjt := late_other hL hj (fun e => nope listed hr (e ▸ hj))
      obtain ⟨hjn, oj, u, hoj, hsj, Hj⟩ := H.2 j (ready_mono hjt hjz)
      have hst : Steady P ops (fun w => Below W0.heap.size W0 w) oj u a := steady_of_R hsj (fun w h => h) (fun w w' h1 h2 => h1.trans (h2.mono h1.size))
      refine steady_op hoj hst hW fun w' hS' => ?_
      refine ih (listed.setIfInBounds j true) (a.put oj.dst u) (inv.set hjt hjn) (ready_mono hr (Ne.symm hjz)) ?_ w' hS'
      rw [Array.setIfInBounds_comm _ _ hjz]
      exact Hj
def lexT (ops : Array Oper) (g n : Nat) : Nat → Nat → Array Bool → Bool
  | 0, _, listed => Region.seqB .text ops g n listed && Region.seqB .any ops g n listed
  | m + 1, k, listed => (Region.ready .text ops listed).contains k && Region.free .text ops listed k && lexT ops g n m (k + 1) (listed.setIfInBounds k true)
theorem wpAnyR_lexT {n g : Nat} {T : Act → Prop} (hsel : Region.noSelect ops = true) (hs : Region.sinkB .text ops n = true) (hc : Region.chainB .text ops n = true) (hn : n < ops.size) :
    ∀ (l : List Oper) (k : Nat) (listed : Array Bool) (a : Act), (∀ j, j < l.length → l[j]? = ops[k + j]?) → k + l.length < n → HeadInv .text ops n listed →
    lexT ops g n l.length k listed = true → wpHR P ops W0 T l a →
    wpAnyR P .text ops W0 n (fun listed' a' => (Region.seqB .text ops g n listed' = true ∧ Region.seqB .any ops g n listed' = true) ∧ T a') l.length listed a
  | [], k, listed, a, _, _, _, hB, h => by simp only [List.length_nil, lexT, Bool.and_eq_true] at hB; exact ⟨hB, h⟩
  | o :: l, k, listed, a, hl, hk, inv, hB, h => by
    have h0 : ops[k]? = some o := by simpa using (hl 0 (by simp)).symm
    simp only [List.length_cons, lexT, Bool.and_eq_true] at hB
    obtain ⟨⟨hr, hf⟩, hB'⟩ := hB
    have hkn : k < n := by simp only [List.length_cons] at hk; omega
    have hr' : k ∈ Region.ready .text ops listed := by simpa using hr
    obtain ⟨v, hy, hK⟩ := h
    exact wpAnyR_first h0 (Region.noSelect_spec hsel) hs hc hn hkn (fun listed' a' hL => seqB_ready hL.1.1) l.length listed a inv (Region.free_spec h0 hf) hr' hy
      (wpAnyR_lexT hsel hs hc hn l (k + 1) _ _ (fun j hj => by have := hl (j + 1) (by simp; omega); simpa [Nat.add_assoc, Nat.add_comm 1 j] using this) (by simp only [List.length_cons] at hk; omega) (inv.set hr' hkn) hB' hK)
def lateB (ops : Array Oper) (n m : Nat) : Bool :=
  match ops[m]?, ops[n]? with
  | some om, some on =>
    decide (m < n) && ((List.range ops.size).all fun j => decide (j = n) || (match ops[j]? with | some o => o.after.all fun e => !Region.binds .text e || Region.binds .any e | none => true)) &&
      (on.after.all fun e => !Region.binds .text e || Region.binds .any e || decide (e.on = m)) &&
      (om.after.all fun e => !Region.binds .text e || on.after.any fun e' => Region.binds .any e' && decide (e'.on = e.on)) &&
      ((List.range ops.size).all fun j => decide (j < n) || (match ops[j]? with | some o => (o.after.any fun e => Region.binds .any e && decide (e.on = m)) || om.apart ops o | none => true))
  | _, _ => false
theorem late_of {n m : Nat} {om on : Oper} (hm : ops[m]? = some om) (hn : ops[n]? = some on) (h : lateB ops n m = true) : Late ops n m om on := by
  unfold lateB at h
  simp only [hm, hn, Bool.and_eq_true, decide_eq_true_eq] at h
  obtain ⟨⟨⟨⟨h1, h2⟩, h3⟩, h4⟩, h5⟩ := h
  refine ⟨hm, hn, h1, fun j o ho hj e he hb => ?_, fun e he hb => ?_, fun e he hb => ?_, fun j o ho hj hno => ?_⟩
  · have := List.all_eq_true.1 h2 j (List.mem_range.2 (Array.getElem?_eq_some_iff.1 ho).1)
    simp only [ho, hj, decide_false, Bool.false_or] at this
    have := Array.all_eq_true'.1 this e he
    simpa [hb] using this
  · have := Array.all_eq_true'.1 h3 e he
    simpa [hb] using this
  · have := Array.all_eq_true'.1 h4 e he
    simp only [hb, Bool.not_true, Bool.false_or] at this
    obtain ⟨e', he', h6⟩ := Array.any_eq_true'.1 this
    simp only [Bool.and_eq_true, decide_eq_true_eq] at h6
    exact ⟨e', he', h6⟩
  · have := List.all_eq_true.1 h5 j (List.mem_range.2 (Array.getElem?_eq_some_iff.1 ho).1)
    simp only [ho, show ¬ j < n by omega, decide_false, Bool.false_or, Bool.or_eq_true] at this
    rcases this with h6 | h6
    · obtain ⟨e', he', h7⟩ := Array.any_eq_true'.1 h6
      simp only [Bool.and_eq_true, decide_eq_true_eq] at h7
      exact absurd h7.2 (hno e' he' h7.1)
    · exact h6
def lexMB (ops : Array Oper) (z m : Nat) : Bool :=
  Region.noSelect ops && decide (z + 1 < ops.size) && Region.sinkB .text ops (z + 1) && Region.chainB .text ops (z + 1) && (Region.ready .text ops (Array.replicate ops.size false)).contains z &&
    ((List.range z).all fun j => match ops[z]?, ops[j]? with | some oz, some oj => oz.apart ops oj | _, _ => false) &&
    lexT ops (ops.size - (z + 1)) (z + 1) z 0 ((Array.replicate ops.size false).setIfInBounds z true) && Region.waitsFor .any ops (z + 1) z && lateB ops (z + 1) m
theorem wp_region_AM {id : Nat} {Q : Exit → Act → World → Prop} {a : Act} {w : World} {l : List Oper} (z m : Nat) {oz om on : Oper} {rest tl : List Oper} {obj : Obj} (W0 : World) (hm : P.follows .mixedOrders = true) (hB : lexMB l.toArray z m = true)
    (hS : Below W0.heap.size W0 w.drew) (hlz : l.drop z = oz :: on :: rest) (hlm : l.drop m = om :: tl) (hw : ∀ a, Region.wanted oz (yielded l.toArray a) = true)
    (hal : ∀ (a : Act) W, (execOp a.eval oz).run P W = .ok (.value (.pointer (some ⟨W.heap.size, 0, none⟩))) (W.alloc obj))
    (hpure : ∀ (S : World → Prop) (a : Act) v w w', Comes P S v ((execOp a.eval om).run P w) → (execOp a.eval om).run P w' = .ok (.value v) w')
    (hQ : ∀ c (a : Act) v w, Q (.panic c) (a.put om.dst v) w → Q (.panic c) a w)
    (h : wpHR P l.toArray W0 (fun a' => ∀ W1 W, Below W0.heap.size W0 W1 → Below (W1.alloc obj).heap.size (W1.alloc obj) W → wpList P l.toArray Q (on :: rest) (a'.put oz.dst (.pointer (some ⟨W1.heap.size, 0, none⟩))) W) (l.take z) a) :
    (Code.region id l.toArray true).wp P Q a w := by
  simp only [lexMB, Bool.and_eq_true, decide_eq_true_eq] at hB
  obtain ⟨⟨⟨⟨⟨⟨⟨⟨hsel, hn⟩, hs⟩, hc⟩, hr0⟩, hap⟩, hlex⟩, hnz⟩, hlate⟩ := hB
  have hn' : z + 1 < l.length := by simpa using hn
  have hoz : l.toArray[z]? = some oz := by
    have h0 : (l.drop z)[0]? = some oz := by rw [hlz]; rfl
    simpa [List.getElem?_drop] using h0
  have hom : l.toArray[m]? = some om := by
    have h0 : (l.drop m)[0]? = some om := by rw [hlm]; rfl
    simpa [List.getElem?_drop] using h0
  have hrest : ∀ j, (on :: rest)[j]? = l.toArray[z + 1 + j]? := fun j => by
    have h0 : (l.drop z)[j + 1]? = (on :: rest)[j]? := by rw [hlz]; rfl
    rw [← h0]
    simp [List.getElem?_drop]
    congr 1
    omega
  have hon : l.toArray[z + 1]? = some on := by have := hrest 0; simpa using this.symm
  have hrl : (on :: rest).length = l.toArray.size - (z + 1) := by
    have := congrArg List.length hlz
    simp at this ⊢
    omega
  have htl : (l.take z).length = z := by simp; omega
  have inv0 : HeadInv .text l.toArray (z + 1) (Array.replicate l.toArray.size false) :=
    ⟨by simp, fun j oj _ hl => (by rw [getD_replicate_false] at hl; cases hl), fun t _ ht => getD_in (by simpa using ht) (getD_replicate_false _ _)⟩
  have hr0' : z ∈ Region.ready .text l.toArray (Array.replicate l.toArray.size false) := by simpa using hr0
  have H := wpAnyR_lexT (g := l.toArray.size - (z + 1)) hsel hs hc hn (l.take z) 0 _ a (fun j hj => by
    have hj' : j < z := by rw [htl] at hj; exact hj
    simp [List.getElem?_take, hj']) (by rw [htl]; omega) (inv0.set hr0' (by omega)) (by rw [htl]; exact hlex) h
  refine wp_region_any hm ?_
  have hap' : ∀ j oj, j < z + 1 → j ≠ z → l.toArray[j]? = some oj → oz.apart l.toArray oj = true := fun j oj hj hjz hoj => by
    have h1 := List.all_eq_true.1 hap j (List.mem_range.2 (by omega))
    simpa only [hoz, hoj] using h1
  have := wpAny_alloc2 (Q := Q) (g := l.toArray.size - (z + 1)) (rest := on :: rest) (late_of hom hon hlate) (Region.noSelect_spec hsel) hs hc hn (by omega) hnz hoz hap' (fun a => hw a.tmps) hal hpure hQ hrest hrl (fun a' hT => hT) (l.take z).length _ a inv0 hr0' H w.drew hS
  rw [htl, show z + 1 + (l.toArray.size - (z + 1)) = l.toArray.size by omega] at this
  exact this
theorem wpAnyS_lexT {S : World → Prop} {n g : Nat} {T : Act → Prop} (hsel : Region.noSelect ops = true) (hs : Region.sinkB .text ops n = true) (hc : Region.chainB .text ops n = true) (hn : n < ops.size) :
    ∀ (l : List Oper) (k : Nat) (listed : Array Bool) (a : Act), (∀ j, j < l.length → l[j]? = ops[k + j]?) → k + l.length = n → HeadInv .text ops n listed →
    lexT ops g n l.length k listed = true → wpH P ops S T l a →
    wpAnyS P .text ops S n (fun listed' a' => (Region.seqB .text ops g n listed' = true ∧ Region.seqB .any ops g n listed' = true) ∧ T a') l.length listed a
  | [], k, listed, a, _, _, _, hB, h => by simp only [List.length_nil, lexT, Bool.and_eq_true] at hB; exact ⟨hB, h⟩
  | o :: l, k, listed, a, hl, hk, inv, hB, h => by
    have h0 : ops[k]? = some o := by simpa using (hl 0 (by simp)).symm
    simp only [List.length_cons, lexT, Bool.and_eq_true] at hB
    obtain ⟨⟨hr, hf⟩, hB'⟩ := hB
    have hkn : k < n := by simp only [List.length_cons] at hk; omega
    have hr' : k ∈ Region.ready .text ops listed := by simpa using hr
    obtain ⟨v, hy, hK⟩ := h
    exact wpAnyS_first h0 (Region.noSelect_spec hsel) hs hc hn hkn (fun listed' a' hL => seqB_ready hL.1.1) l.length listed a inv (Region.free_spec h0 hf) hr' hy
      (wpAnyS_lexT hsel hs hc hn l (k + 1) _ _ (fun j hj => by have := hl (j + 1) (by simp; omega); simpa [Nat.add_assoc, Nat.add_comm 1 j] using this) (by simp only [List.length_cons] at hk; omega) (inv.set hr' hkn) hB' hK)
def lexBMB (ops : Array Oper) (n m : Nat) : Bool :=
  Region.noSelect ops && decide (n < ops.size) && Region.sinkB .text ops n && Region.chainB .text ops n && lexT ops (ops.size - n) n n 0 (Array.replicate ops.size false) && lateB ops n m
theorem wp_region_BM {id : Nat} {Q : Exit → Act → World → Prop} {a : Act} {w : World} {l : List Oper} (n m : Nat) {om on : Oper} {rest tl : List Oper} (S : World → Prop) (hm : P.follows .mixedOrders = true) (hB : lexBMB l.toArray n m = true)
    (hS : S w.drew) (hln : l.drop n = on :: rest) (hlm : l.drop m = om :: tl)
    (hpure : ∀ (S : World → Prop) (a : Act) v w w', Comes P S v ((execOp a.eval om).run P w) → (execOp a.eval om).run P w' = .ok (.value v) w')
    (hQ : ∀ c (a : Act) v w, Q (.panic c) (a.put om.dst v) w → Q (.panic c) a w)
    (h : wpH P l.toArray S (fun a' => ∀ W, S W → wpList P l.toArray Q (l.drop n) a' W) (l.take n) a) : (Code.region id l.toArray true).wp P Q a w := by
  simp only [lexBMB, Bool.and_eq_true, decide_eq_true_eq] at hB
  obtain ⟨⟨⟨⟨⟨hsel, hn⟩, hs⟩, hc⟩, hlex⟩, hlate⟩ := hB
  have hn' : n < l.length := by simpa using hn
  have hom : l.toArray[m]? = some om := by
    have h0 : (l.drop m)[0]? = some om := by rw [hlm]; rfl
    simpa [List.getElem?_drop] using h0
  have hon : l.toArray[n]? = some on := by
    have h0 : (l.drop n)[0]? = some on := by rw [hln]; rfl
    simpa [List.getElem?_drop] using h0
  have htl : (l.take n).length = n := by simp; omega
  have hdl : (l.drop n).length = l.toArray.size - n := by simp
  have inv0 : HeadInv .text l.toArray n (Array.replicate l.toArray.size false) :=
    ⟨by simp, fun j oj _ hl => (by rw [getD_replicate_false] at hl; cases hl), fun t _ ht => getD_in (by simpa using ht) (getD_replicate_false _ _)⟩
  have H := wpAnyS_lexT (g := l.toArray.size - n) hsel hs hc hn (l.take n) 0 _ a (fun j hj => by
    have hj' : j < n := by rw [htl] at hj; exact hj
    simp [List.getElem?_take, hj']) (by rw [htl]; omega) inv0 (by rw [htl]; exact hlex) h
  refine wp_region_any hm ?_
  have := wpAny_late (Q := Q) (g := l.toArray.size - n) (late_of hom hon hlate) (Region.noSelect_spec hsel) hs hc hn (fun a v w w' _ h => hpure _ a v w w' h) hQ (fun l' a' hLL W' hW' => by
    have := wpAny_of_seq (md := .any) (Q' := Q) (l.drop n) n l' _ W' (fun j => by simp [List.getElem?_drop]) (by rw [hdl]; exact hLL.1.2) (hLL.2 W' hW')
    rwa [hdl] at this) (l.take n).length _ a inv0 H w.drew hS
  rw [htl, show n + (l.toArray.size - n) = l.toArray.size by omega] at this
  exact this
theorem extract_pure {P : Program} {S : World → Prop} {o : Oper} {x : Operand} {i : Nat} (ho : o.op = .extract x i) {a : Act} {v : Value} {w w' : World} (h : Comes P S v ((execOp a.eval o).run P w)) : (execOp a.eval o).run P w' = .ok (.value v) w' := by
  unfold execOp at *
  rw [ho] at *
  simp only [] at *
  generalize a.eval x = y at *
  cases y with
  | tuple vs =>
    simp [go_sem] at h ⊢
    cases hv : vs[i]? with
    | none => rw [hv] at h; simp [go_sem, stuck, Comes] at h
    | some u =>
      rw [hv] at h
      simp [go_sem, Comes] at h ⊢
      exact h.1
  | _ => simp [go_sem, stuck, Comes] at h
end
end Go.Proofs.Ytjlihafpnppchaa
