/- A statement that leaves its order open and in which one operation writes what no other one reads: one walk through it, in the order of the text. -/
import Derived.Test.YtieimijkkjhegaaRt
namespace Go.Proofs.Ytieimijkkjhegaa
open Go.ChangeShapes Go.WideShapes Go.ChangeAt Go.RowKit Go.Joins
set_option linter.unusedVariables false
set_option linter.unusedSimpArgs false
set_option maxRecDepth 4000
section
variable {P : Program} {ops : Array Oper} {Q : Exit → Act → World → Prop} {md : Region.Mode} {S : Array Bool → World → Prop}
def SteadyL (P : Program) (ops : Array Oper) (S : Array Bool → World → Prop) (i : Nat) (o : Oper) (v : Value) (a : Act) : Prop :=
  (Region.wanted o (yielded ops a.tmps) = true ∧ ∀ L w, L.getD i true = false → S L w → Comes P (S (L.setIfInBounds i true)) v ((execOp a.eval o).run P w)) ∨
  (Region.wanted o (yielded ops a.tmps) = false ∧ v = undef ∧ ∀ L w, S L w → S (L.setIfInBounds i true) w)
theorem steadyL_same {i : Nat} {o : Oper} {v : Value} {a a' : Act} (hy : SteadyL P ops S i o v a) (he : execOp a'.eval o = execOp a.eval o)
    (hw : Region.wanted o (yielded ops a'.tmps) = Region.wanted o (yielded ops a.tmps)) : SteadyL P ops S i o v a' := by
  unfold SteadyL at *; rw [he, hw]; exact hy
theorem steadyL_op {i : Nat} {o : Oper} {v : Value} {a : Act} (hi : ops[i]? = some o) (hy : SteadyL P ops S i o v a) {K : Act → World → Prop} {w : World} {L : Array Bool} (hl : L.getD i true = false) (hS : S L w)
    (h : ∀ w', S (L.setIfInBounds i true) w' → K (a.put o.dst v) w') : wpOp P ops Q i K a w := by
  unfold wpOp
  simp only [hi]
  rcases hy with ⟨hw, hv⟩ | ⟨hw, rfl, hk⟩
  · simp only [hw, if_true]
    left
    have hc := hv L w hl hS
    unfold Oper.wp
    generalize (execOp a.eval o).run P w = r at *
    cases r with
    | ok n w' =>
      cases n with
      | value u => obtain ⟨rfl, h'⟩ := hc; exact h _ h'
      | skip => obtain ⟨rfl, h'⟩ := hc; exact h _ h'
      | enter f args => exact Calls.mono hc fun e w'' he => by obtain ⟨rfl, hs⟩ := he; exact h _ hs
      | _ => exact hc.elim
    | halt x w' => exact hc.elim
  · simp only [hw, Bool.false_eq_true, if_false]
    exact h _ (hk L w hS)
def wpL (P : Program) (md : Region.Mode) (ops : Array Oper) (Q : Exit → Act → World → Prop) (S : Array Bool → World → Prop) : Nat → Array Bool → Act → Prop
  | 0, listed, a => Region.ready md ops listed = [] ∧ ∀ w, S listed w → Q .normal a w
  | fuel + 1, listed, a => (Region.ready md ops listed = [] → ∀ w, S listed w → Q .normal a w) ∧
    ∀ i ∈ Region.ready md ops listed, ∃ oi v, ops[i]? = some oi ∧ SteadyL P ops S i oi v a ∧ wpL P md ops Q S fuel (listed.setIfInBounds i true) (a.put oi.dst v)
theorem wpAny_of_L : ∀ (fuel : Nat) (listed : Array Bool) (a : Act), wpL P md ops Q S fuel listed a → ∀ w, S listed w → wpAny P md ops Q fuel listed a w
  | 0, _, _, h, w, hS => ⟨h.1, h.2 w hS⟩
  | fuel + 1, _, _, h, w, hS => ⟨fun hr => h.1 hr w hS, fun i hi => by
      obtain ⟨oi, v, ho, hy, hn⟩ := h.2 i hi
      exact steadyL_op ho hy (mem_ready.1 hi).1 hS fun w' hS' => wpAny_of_L fuel _ _ hn w' hS'⟩
theorem wpL_first {i : Nat} {oi : Oper} {v : Value} (hi : ops[i]? = some oi) (hsel : ∀ (j : Nat) (o : Oper) cs b, ops[j]? = some o → o.op ≠ .select cs b) :
    ∀ (fuel : Nat) (listed : Array Bool) (a : Act),
      (∀ j oj, ops[j]? = some oj → j ≠ i → listed.getD j true = false → (∀ e ∈ oj.after, Region.binds md e = true → e.on ≠ i) → oi.apart ops oj = true) →
      i ∈ Region.ready md ops listed → SteadyL P ops S i oi v a →
      wpL P md ops Q S fuel (listed.setIfInBounds i true) (a.put oi.dst v) → wpL P md ops Q S (fuel + 1) listed a := by
  intro fuel
  induction fuel with
  | zero =>
    intro listed a _ hr hy H
    refine ⟨fun h => (by rw [h] at hr; cases hr), fun j hj => ?_⟩
    by_cases hji : j = i
    · subst hji; exact ⟨oi, v, hi, hy, H⟩
    · have hm := ready_mono hj hji
      rw [H.1] at hm
      cases hm
  | succ fuel ih =>
    intro listed a hfree hr hy H
    refine ⟨fun h => (by rw [h] at hr; cases hr), fun j hj => ?_⟩
    by_cases hji : j = i
    · subst hji; exact ⟨oi, v, hi, hy, H⟩
    · obtain ⟨oj, u, hoj, hsj, Hj⟩ := H.2 j (ready_mono hj hji)
      obtain ⟨hjun, oj', hoj', hall⟩ := mem_ready.1 hj
      obtain rfl : oj' = oj := Option.some.inj (hoj'.symm.trans hoj)
      have hnot : ∀ e ∈ oj'.after, Region.binds md e = true → e.on ≠ i := fun e he hb heq => by
        have h1 := hall e he hb
        have h0 := (mem_ready.1 hr).1
        rw [heq] at h1
        have : listed.getD i true = listed.getD i false := by
          rcases Nat.lt_or_ge i listed.size with h' | h'
          · simp [h']
          · simp [Array.getElem?_eq_none h'] at h1
        rw [this, h1] at h0
        cases h0
      obtain ⟨h1, h2, h3⟩ := Oper.apart_spec (hfree j oj' hoj hji hjun hnot)
      have k1 : SteadyL P ops S j oj' u a := steadyL_same hsj (execOp_put oj' (fun cs b => hsel j oj' cs b hoj) a oi.dst v h1).symm (wanted_put oj' a oi.dst v h1).symm
      have k2 : SteadyL P ops S i oi v (a.put oj'.dst u) := steadyL_same hy (execOp_put oi (fun cs b => hsel i oi cs b hi) a oj'.dst u h3) (wanted_put oi a oj'.dst u h3)
      refine ⟨oj', u, hoj, k1, ih _ _ (fun k ok hk hki hun hno => ?_) (ready_mono hr (Ne.symm hji)) k2 ?_⟩
      · refine hfree k ok hk hki ?_ hno
        by_cases hjk : j = k
        · subst hjk; exact hjun
        · rw [getD_set_ne true hjk] at hun; exact hun
      · rw [Array.setIfInBounds_comm _ _ hji, ← Act.put_comm a v u h2]
        exact Hj
/-- operation number z turns W1 into W2, as far as block n -/
def Flag (z n : Nat) (W1 W2 : World) (L : Array Bool) (W : World) : Prop := Below n (if L.getD z false = true then W2 else W1) W
theorem wpZ_take {z n i : Nat} {W1 W2 : World} {oi : Oper} {v : Value} {fuel : Nat} {listed : Array Bool} {a : Act} (hi : ops[i]? = some oi) (hs : Region.noSelect ops = true)
    (hf : Region.free md ops listed i = true) (hr : (Region.ready md ops listed).contains i = true) (hy : SteadyL P ops (Flag z n W1 W2) i oi v a)
    (h : wpL P md ops Q (Flag z n W1 W2) fuel (listed.setIfInBounds i true) (a.put oi.dst v)) : wpL P md ops Q (Flag z n W1 W2) (fuel + 1) listed a :=
  wpL_first hi (Region.noSelect_spec hs) fuel listed a (Region.free_spec hi hf) (by simpa using hr) hy h
/-- number i, as it stands in the text; it is not number z -/
theorem wpZ_text {z n : Nat} {W1 W2 : World} (i : Nat) {oi : Oper} {rest : List Oper} {v : Value} {fuel : Nat} {listed : Array Bool} {a : Act} (hi : ops.toList.drop i = oi :: rest) (hs : Region.noSelect ops = true)
    (hf : Region.free md ops listed i = true) (hr : (Region.ready md ops listed).contains i = true) (hw : Region.wanted oi (yielded ops a.tmps) = true) (hz : i ≠ z)
    (h1 : ∀ X, (X = W1 ∨ X = W2) → ∀ w, Below n X w → Comes P (Below n X) v ((execOp a.eval oi).run P w))
    (h : wpL P md ops Q (Flag z n W1 W2) fuel (listed.setIfInBounds i true) (a.put oi.dst v)) : wpL P md ops Q (Flag z n W1 W2) (fuel + 1) listed a :=
  wpZ_take (op_of_drop hi) hs hf hr (Or.inl ⟨hw, fun L w _ hS => by
    have e : Flag z n W1 W2 (L.setIfInBounds i true) = Flag z n W1 W2 L := by unfold Flag; rw [getD_set_ne false hz]
    rw [e]
    unfold Flag at *
    split at hS
    · rename_i hc; simp only [hc, if_true]; exact h1 W2 (.inr rfl) w hS
    · rename_i hc; simp only [hc, if_false]; exact h1 W1 (.inl rfl) w hS⟩) h
theorem wpZ_skip {z n : Nat} {W1 W2 : World} (i : Nat) {oi : Oper} {rest : List Oper} {fuel : Nat} {listed : Array Bool} {a : Act} (hi : ops.toList.drop i = oi :: rest) (hs : Region.noSelect ops = true)
    (hf : Region.free md ops listed i = true) (hr : (Region.ready md ops listed).contains i = true) (hw : Region.wanted oi (yielded ops a.tmps) = false) (hz : i ≠ z)
    (h : wpL P md ops Q (Flag z n W1 W2) fuel (listed.setIfInBounds i true) (a.put oi.dst undef)) : wpL P md ops Q (Flag z n W1 W2) (fuel + 1) listed a :=
  wpZ_take (op_of_drop hi) hs hf hr (Or.inr ⟨hw, rfl, fun L w hS => by unfold Flag at *; rw [getD_set_ne false hz]; exact hS⟩) h
/-- number z itself -/
theorem wpZ_store {z n : Nat} {W1 W2 : World} {oi : Oper} {rest : List Oper} {v : Value} {fuel : Nat} {listed : Array Bool} {a : Act} (hi : ops.toList.drop z = oi :: rest) (hs : Region.noSelect ops = true)
    (hf : Region.free md ops listed z = true) (hr : (Region.ready md ops listed).contains z = true) (hw : Region.wanted oi (yielded ops a.tmps) = true)
    (h1 : ∀ w, Below n W1 w → Comes P (Below n W2) v ((execOp a.eval oi).run P w))
    (h : wpL P md ops Q (Flag z n W1 W2) fuel (listed.setIfInBounds z true) (a.put oi.dst v)) : wpL P md ops Q (Flag z n W1 W2) (fuel + 1) listed a :=
  wpZ_take (op_of_drop hi) hs hf hr (Or.inl ⟨hw, fun L w hl hS => by
    have h0 : L.getD z false = false := getD_both hl
    have h2 : (L.setIfInBounds z true).getD z false = true := by
      rcases Nat.lt_or_ge z L.size with h' | h'
      · simp [h']
      · simp [Array.getElem?_eq_none h'] at hl
    have e : Flag z n W1 W2 (L.setIfInBounds z true) = Below n W2 := by funext W; unfold Flag; rw [h2]; rfl
    rw [e]
    unfold Flag at hS
    rw [h0] at hS
    exact h1 w hS⟩) h
theorem wpZ_done {z n : Nat} {W1 W2 : World} {listed : Array Bool} {a : Act} (hr : Region.ready md ops listed = []) (hz : listed.getD z false = true) (h : ∀ w, Below n W2 w → Q .normal a w) : ∀ fuel, wpL P md ops Q (Flag z n W1 W2) fuel listed a
  | 0 => ⟨hr, fun w hS => h w (by unfold Flag at hS; rw [hz] at hS; exact hS)⟩
  | _ + 1 => ⟨fun _ w hS => h w (by unfold Flag at hS; rw [hz] at hS; exact hS), by rw [hr]; simp⟩
theorem wp_region_Z {id : Nat} {a : Act} {w : World} (z n : Nat) (W1 W2 : World) (hm : P.follows .mixedOrders = true) (hS : Below n W1 w.drew)
    (h : wpL P .any ops Q (Flag z n W1 W2) ops.size (Array.replicate ops.size false) a) : (Code.region id ops true).wp P Q a w :=
  wp_region_any hm (wpAny_of_L _ _ _ h _ (by unfold Flag; rw [getD_replicate_false]; exact hS))
theorem bcellN {n : Nat} {X W : World} (h : Below n X W) : (∀ b o, b < n → W.cell? ⟨b, o, none⟩ = X.cell? ⟨b, o, none⟩) ∧ (∀ b o, b < n → W.frozen? ⟨b, o, none⟩ = X.frozen? ⟨b, o, none⟩) :=
  ⟨fun b o hb => h.cell (p := ⟨b, o, none⟩) hb, fun b o hb => h.frozen (p := ⟨b, o, none⟩) hb⟩
theorem below_set2 {n : Nat} {W1 w : World} (h : Below n W1 w) (p : Addr) (u : Value) (hp : p.block < n) : Below n (W1.setCell p u) (w.setCell p u) :=
  ⟨h.os, h.tape, h.output, by simpa [World.setCell] using h.size, fun k hk => by
    simp only [World.setCell, Array.getElem?_modify]
    rw [h.block k hk]⟩
end
end Go.Proofs.Ytieimijkkjhegaa
