/- A statement that leaves its order open, all of whose operations come to one value in every world that meets S and lead to such a world again: one walk through it, in the order of the text, serves for every order. -/
import Derived.Test.YtacabmbajadbgaaF
import Derived.OrdersHeld
namespace Go.Proofs.Ytacabmbajadbgaa
open Go.ChangeShapes Go.WideShapes Go.ChangeAt Go.RowKit Go.Joins
set_option linter.unusedVariables false
set_option linter.unusedSimpArgs false
set_option maxRecDepth 4000
section
variable {P : Program} {ops : Array Oper} {Q : Exit → Act → World → Prop} {md : Region.Mode} {S : World → Prop}
/-- what an operation's run comes to: the value v, in a world that meets S -/
def Comes (P : Program) (S : World → Prop) (v : Value) : Result Next → Prop
  | .ok (.value u) w' => u = v ∧ S w'
  | .ok .skip w' => v = undef ∧ S w'
  | .ok (.enter f args) w' => Calls P f args w' fun e w'' => e = .returned v ∧ S w''
  | _ => False
theorem comes_value {u v : Value} {w' : World} : Comes P S v (.ok (.value u) w') = (u = v ∧ S w') := rfl
theorem comes_skip {v : Value} {w' : World} : Comes P S v (.ok .skip w') = (v = undef ∧ S w') := rfl
theorem comes_enter {v : Value} {f : FuncId} {args : Array Value} {w' : World} : Comes P S v (.ok (.enter f args) w') = Calls P f args w' (fun e w'' => e = .returned v ∧ S w'') := rfl
theorem comes_v {u : Value} {w' : World} (h : S w') : Comes P S u (.ok (.value u) w') := ⟨rfl, h⟩
theorem comes_e {v : Value} {f : FuncId} {args : Array Value} {w' : World} (h : Calls P f args w' fun e w'' => e = .returned v ∧ S w'') : Comes P S v (.ok (.enter f args) w') := h
theorem comes_c {v : Value} {f : FuncId} {args : Array Value} {w' : World} (h : Calls P f args w' fun e w'' => e = .returned v ∧ Below w'.heap.size w' w'') (hk : ∀ w'', Below w'.heap.size w' w'' → S w'') : Comes P S v (.ok (.enter f args) w') :=
  Calls.mono h fun e w'' he => ⟨he.1, hk w'' he.2⟩
theorem comes_q {v : Value} {f : FuncId} {args : Array Value} {w' : World} (h : Calls P f args w' fun e w'' => e = .returned v ∧ w' = w'') (hs : S w') : Comes P S v (.ok (.enter f args) w') :=
  Calls.mono h fun e w'' he => ⟨he.1, he.2 ▸ hs⟩
def Steady (P : Program) (ops : Array Oper) (S : World → Prop) (o : Oper) (v : Value) (a : Act) : Prop :=
  (Region.wanted o (yielded ops a.tmps) = true ∧ ∀ w, S w → Comes P S v ((execOp a.eval o).run P w)) ∨
  (Region.wanted o (yielded ops a.tmps) = false ∧ v = undef)
theorem steady_same {o : Oper} {v : Value} {a a' : Act} (hy : Steady P ops S o v a) (he : execOp a'.eval o = execOp a.eval o)
    (hw : Region.wanted o (yielded ops a'.tmps) = Region.wanted o (yielded ops a.tmps)) : Steady P ops S o v a' := by
  unfold Steady at *; rw [he, hw]; exact hy
theorem steady_op {i : Nat} {o : Oper} {v : Value} {a : Act} (hi : ops[i]? = some o) (hy : Steady P ops S o v a) {K : Act → World → Prop} {w : World} (hS : S w)
    (h : ∀ w', S w' → K (a.put o.dst v) w') : wpOp P ops Q i K a w := by
  unfold wpOp
  simp only [hi]
  rcases hy with ⟨hw, hv⟩ | ⟨hw, rfl⟩
  · simp only [hw, if_true]
    left
    have hc := hv w hS
    unfold Oper.wp
    generalize (execOp a.eval o).run P w = r at *
    cases r with
    | ok n w' =>
      cases n with
      | value u => obtain ⟨rfl, h'⟩ := hc; exact h _ h'
      | skip => obtain ⟨rfl, h'⟩ := hc; exact h _ h'
      | enter f args => exact Calls.mono hc fun e w'' he => by obtain ⟨rfl, hs⟩ := he; exact h _ hs
      | _ => exact hc.elim
    | halt x w' => exact hc.elim
  · simp only [hw, Bool.false_eq_true, if_false]
    exact h _ hS
/-- whichever comes up comes to one value: no world is spoken of till the end -/
def wpB (P : Program) (md : Region.Mode) (ops : Array Oper) (Q : Exit → Act → World → Prop) (S : World → Prop) : Nat → Array Bool → Act → Prop
  | 0, listed, a => Region.ready md ops listed = [] ∧ ∀ w, S w → Q .normal a w
  | fuel + 1, listed, a => (Region.ready md ops listed = [] → ∀ w, S w → Q .normal a w) ∧
    ∀ i ∈ Region.ready md ops listed, ∃ oi v, ops[i]? = some oi ∧ Steady P ops S oi v a ∧ wpB P md ops Q S fuel (listed.setIfInBounds i true) (a.put oi.dst v)
theorem wpAny_of_B : ∀ (fuel : Nat) (listed : Array Bool) (a : Act), wpB P md ops Q S fuel listed a → ∀ w, S w → wpAny P md ops Q fuel listed a w
  | 0, _, _, h, w, hS => ⟨h.1, h.2 w hS⟩
  | fuel + 1, _, _, h, w, hS => ⟨fun hr => h.1 hr w hS, fun i hi => by
      obtain ⟨oi, v, ho, hy, hn⟩ := h.2 i hi
      exact steady_op ho hy hS fun w' hS' => wpAny_of_B fuel _ _ hn w' hS'⟩
theorem wpB_first {i : Nat} {oi : Oper} {v : Value} (hi : ops[i]? = some oi) (hsel : ∀ (j : Nat) (o : Oper) cs b, ops[j]? = some o → o.op ≠ .select cs b) :
    ∀ (fuel : Nat) (listed : Array Bool) (a : Act),
      (∀ j oj, ops[j]? = some oj → j ≠ i → listed.getD j true = false → (∀ e ∈ oj.after, Region.binds md e = true → e.on ≠ i) → oi.apart ops oj = true) →
      i ∈ Region.ready md ops listed → Steady P ops S oi v a →
      wpB P md ops Q S fuel (listed.setIfInBounds i true) (a.put oi.dst v) → wpB P md ops Q S (fuel + 1) listed a := by
  intro fuel
  induction fuel with
  | zero =>
    intro listed a _ hr hy H
    refine ⟨fun h => (by rw [h] at hr; cases hr), fun j hj => ?_⟩
    by_cases hji : j = i
    · subst hji; exact ⟨oi, v, hi, hy, H⟩
    · have hm := ready_mono hj hji
      rw [H.1] at hm
      cases hm
  | succ fuel ih =>
    intro listed a hfree hr hy H
    refine ⟨fun h => (by rw [h] at hr; cases hr), fun j hj => ?_⟩
    by_cases hji : j = i
    · subst hji; exact ⟨oi, v, hi, hy, H⟩
    · obtain ⟨oj, u, hoj, hsj, Hj⟩ := H.2 j (ready_mono hj hji)
      obtain ⟨hjun, oj', hoj', hall⟩ := mem_ready.1 hj
      obtain rfl : oj' = oj := Option.some.inj (hoj'.symm.trans hoj)
      have hnot : ∀ e ∈ oj'.after, Region.binds md e = true → e.on ≠ i := fun e he hb heq => by
        have h1 := hall e he hb
        have h0 := (mem_ready.1 hr).1
        rw [heq] at h1
        have : listed.getD i true = listed.getD i false := by
          rcases Nat.lt_or_ge i listed.size with h' | h'
          · simp [h']
          · simp [Array.getElem?_eq_none h'] at h1
        rw [this, h1] at h0
        cases h0
      obtain ⟨h1, h2, h3⟩ := Oper.apart_spec (hfree j oj' hoj hji hjun hnot)
      have k1 : Steady P ops S oj' u a := steady_same hsj (execOp_put oj' (fun cs b => hsel j oj' cs b hoj) a oi.dst v h1).symm (wanted_put oj' a oi.dst v h1).symm
      have k2 : Steady P ops S oi v (a.put oj'.dst u) := steady_same hy (execOp_put oi (fun cs b => hsel i oi cs b hi) a oj'.dst u h3) (wanted_put oi a oj'.dst u h3)
      refine ⟨oj', u, hoj, k1, ih _ _ (fun k ok hk hki hun hno => ?_) (ready_mono hr (Ne.symm hji)) k2 ?_⟩
      · refine hfree k ok hk hki ?_ hno
        by_cases hjk : j = k
        · subst hjk; exact hjun
        · rw [getD_set_ne true hjk] at hun; exact hun
      · rw [Array.setIfInBounds_comm _ _ hji, ← Act.put_comm a v u h2]
        exact Hj
theorem wpB_take {i : Nat} {oi : Oper} {v : Value} {fuel : Nat} {listed : Array Bool} {a : Act} (hi : ops[i]? = some oi) (hs : Region.noSelect ops = true)
    (hf : Region.free md ops listed i = true) (hr : (Region.ready md ops listed).contains i = true) (hy : Steady P ops S oi v a)
    (h : wpB P md ops Q S fuel (listed.setIfInBounds i true) (a.put oi.dst v)) : wpB P md ops Q S (fuel + 1) listed a :=
  wpB_first hi (Region.noSelect_spec hs) fuel listed a (Region.free_spec hi hf) (by simpa using hr) hy h
theorem op_of_drop {i : Nat} {oi : Oper} {rest : List Oper} (h : ops.toList.drop i = oi :: rest) : ops[i]? = some oi := by
  have h0 : (ops.toList.drop i)[0]? = some oi := by rw [h]; rfl
  simpa [List.getElem?_drop] using h0
/-- number i, as it stands in the text -/
theorem wpB_text (i : Nat) {oi : Oper} {rest : List Oper} {v : Value} {fuel : Nat} {listed : Array Bool} {a : Act} (hi : ops.toList.drop i = oi :: rest) (hs : Region.noSelect ops = true)
    (hf : Region.free md ops listed i = true) (hr : (Region.ready md ops listed).contains i = true) (hw : Region.wanted oi (yielded ops a.tmps) = true)
    (hy : ∀ w, S w → Comes P S v ((execOp a.eval oi).run P w))
    (h : wpB P md ops Q S fuel (listed.setIfInBounds i true) (a.put oi.dst v)) : wpB P md ops Q S (fuel + 1) listed a :=
  wpB_take (op_of_drop hi) hs hf hr (Or.inl ⟨hw, hy⟩) h
/-- number i, which is not asked for -/
theorem wpB_skip (i : Nat) {oi : Oper} {rest : List Oper} {fuel : Nat} {listed : Array Bool} {a : Act} (hi : ops.toList.drop i = oi :: rest) (hs : Region.noSelect ops = true)
    (hf : Region.free md ops listed i = true) (hr : (Region.ready md ops listed).contains i = true) (hw : Region.wanted oi (yielded ops a.tmps) = false)
    (h : wpB P md ops Q S fuel (listed.setIfInBounds i true) (a.put oi.dst undef)) : wpB P md ops Q S (fuel + 1) listed a :=
  wpB_take (op_of_drop hi) hs hf hr (Or.inr ⟨hw, rfl⟩) h
theorem wpB_done {listed : Array Bool} {a : Act} (hr : Region.ready md ops listed = []) (h : ∀ w, S w → Q .normal a w) : ∀ fuel, wpB P md ops Q S fuel listed a
  | 0 => ⟨hr, h⟩
  | _ + 1 => ⟨fun _ => h, by rw [hr]; simp⟩
theorem wp_region_B {id : Nat} {a : Act} {w : World} (S : World → Prop) (hm : P.follows .mixedOrders = true) (hS : S w.drew)
    (h : wpB P .any ops Q S ops.size (Array.replicate ops.size false) a) : (Code.region id ops true).wp P Q a w :=
  wp_region_any hm (wpAny_of_B _ _ _ h _ hS)
end
end Go.Proofs.Ytacabmbajadbgaa
