/- contracts: IsClue, IsPuzzle, the program: the door to which a clue comes that is none -/
import Derived.Test.YtacabmbajadbgaaPz3
import Derived.Test.YtacabmbajadbgaaPz5
import Derived.Tactics2
import Derived.Defers
import Derived.Recover
import Derived.Laws.Pointers
namespace Go.Proofs.Ytacabmbajadbgaa
open Go.ChangeShapes Go.WideShapes Go.ChangeAt Go.RowKit Go.Joins
set_option linter.unusedVariables false
set_option linter.unusedSimpArgs false
set_option maxRecDepth 4000
theorem isSide_any (s : Int) (w : World) : Calls Try.prog 77 #[.int .i64 s] w fun e w' => e = .returned (.bool (inQ 1 12 s)) ∧ w = w' := by
  cases q : inQ 1 12 s
  · rcases inQ_f q with h | ⟨h, g⟩
    · have h' : ¬ 1 ≤ s := by omega
      clear q h
      go_enter Try.func77, Try.ntmps77
      go_wp2_with fail
      go_ret
      exact ⟨rfl, rfl⟩
    · have h' : 1 ≤ s := by omega
      have g' : ¬ s ≤ 12 := by omega
      clear q h g
      go_enter Try.func77, Try.ntmps77
      go_wp2_with fail
      go_ret
      exact ⟨rfl, rfl⟩
  · obtain ⟨h, g⟩ := inQ_t q
    have h' : 1 ≤ s := by omega
    have g' : s ≤ 12 := by omega
    clear q h g
    go_enter Try.func77, Try.ntmps77
    go_wp2_with fail
    go_ret
    exact ⟨rfl, rfl⟩
theorem opsS_val {P : Program} {ops : Array Oper} {Q : Exit → Act → List Frame → World → Prop} {i : Nat} {rest : List Nat} {a : Act} {cs : List Frame} {w w' : World} {o : Oper} {v : Value} (ho : ops[i]? = some o) (hw : Region.wanted o (yielded ops a.tmps) = true) (hr : (execOp a.eval o).run P w = .ok (.value v) w')
    (h : wpOpsS P ops Q rest (a.put o.dst v) cs w') : wpOpsS P ops Q (i :: rest) a cs w := by
  simp only [wpOpsS, ho, hw, if_true, hr, Oper.upon]; exact h
theorem opsS_skip {P : Program} {ops : Array Oper} {Q : Exit → Act → List Frame → World → Prop} {i : Nat} {rest : List Nat} {a : Act} {cs : List Frame} {w w' : World} {o : Oper} (ho : ops[i]? = some o) (hw : Region.wanted o (yielded ops a.tmps) = true) (hr : (execOp a.eval o).run P w = .ok .skip w')
    (h : wpOpsS P ops Q rest (a.put o.dst undef) cs w') : wpOpsS P ops Q (i :: rest) a cs w := by
  simp only [wpOpsS, ho, hw, if_true, hr, Oper.upon]; exact h
theorem opsS_rec {P : Program} {ops : Array Oper} {Q : Exit → Act → List Frame → World → Prop} {i : Nat} {rest : List Nat} {a : Act} {cs cs' : List Frame} {w w' : World} {o : Oper} {v : Value} (ho : ops[i]? = some o) (hw : Region.wanted o (yielded ops a.tmps) = true) (hr : (execOp a.eval o).run P w = .ok .recover w') (hs : recoverD cs = some (v, cs'))
    (h : wpOpsS P ops Q rest (a.put o.dst v) cs' w') : wpOpsS P ops Q (i :: rest) a cs w := by
  simp only [wpOpsS, ho, hw, if_true, hr, hs]; exact h
theorem opsS_no {P : Program} {ops : Array Oper} {Q : Exit → Act → List Frame → World → Prop} {i : Nat} {rest : List Nat} {a : Act} {cs : List Frame} {w w' : World} {o : Oper} (ho : ops[i]? = some o) (hw : Region.wanted o (yielded ops a.tmps) = true) (hr : (execOp a.eval o).run P w = .ok .recover w') (hs : recoverD cs = none)
    (h : wpOpsS P ops Q rest (a.put o.dst .nilIface) cs w') : wpOpsS P ops Q (i :: rest) a cs w := by
  simp only [wpOpsS, ho, hw, if_true, hr, hs]; exact h
theorem ta_none (xT : TypeId) (w : World) : (Instr.typeAssert .nilIface xT 38 true).run Try.prog w = .ok (.tuple #[.agg #[.int .i64 0, .int .i64 0, .int .i64 0, .int .i64 0], .bool false]) w := by
  have hz : Try.t38.zero = some (.agg #[.int .i64 0, .int .i64 0, .int .i64 0, .int .i64 0]) := by kernel_rfl
  simp [Instr.typeAssert, run_underlying Try.underlying38, zeroValue, hz, go_sem, Result.andThen]
theorem ta_some (xT : TypeId) (v : Value) (w : World) : (Instr.typeAssert (.iface 38 v) xT 38 true).run Try.prog w = .ok (.tuple #[v, .bool true]) w := by
  simp [Instr.typeAssert, run_underlying Try.underlying38, go_sem, Result.andThen]
/-- the boxes of the named results -/
structure Nmd (w W : World) (p q : Nat) (a b c d : Int) (r : Bool) : Prop where
  below : Below w.heap.size w W
  pl : w.heap.size ≤ p
  ql : w.heap.size ≤ q
  pu : p < W.heap.size
  qu : q < W.heap.size
  ne : p ≠ q
  c0 : W.cell? ⟨p, 0, none⟩ = some (.int .i64 a)
  c1 : W.cell? ⟨p, 1, none⟩ = some (.int .i64 b)
  c2 : W.cell? ⟨p, 2, none⟩ = some (.int .i64 c)
  c3 : W.cell? ⟨p, 3, none⟩ = some (.int .i64 d)
  cq : W.cell? ⟨q, 0, none⟩ = some (.bool r)
  fp : ∀ o, W.frozen? ⟨p, o, none⟩ = false
  fq : ∀ o, W.frozen? ⟨q, o, none⟩ = false
theorem nmd_below {w W W' : World} {p q : Nat} {a b c d : Int} {r : Bool} (t : Nmd w W p q a b c d r) (hb : Below W.heap.size W W') : Nmd w W' p q a b c d r := by
  obtain ⟨t1, t2, t3, t4, t5, t6, t7, t8, t9, t10, t11, t12, t13⟩ := t
  have hc := (bcell hb).1
  have hf := (bcell hb).2
  have hz := hb.size
  exact ⟨t1.trans (hb.mono t1.size), t2, t3, by omega, by omega, t6, (hc _ _ t4).trans t7, (hc _ _ t4).trans t8, (hc _ _ t4).trans t9, (hc _ _ t4).trans t10, (hc _ _ t5).trans t11, fun o => (hf _ _ t4).trans (t12 o), fun o => (hf _ _ t5).trans (t13 o)⟩
theorem nmd_set {w W : World} {p q : Nat} {a b c d : Int} {r : Bool} (t : Nmd w W p q a b c d r) (x0 x1 x2 x3 : Int) (y : Bool) :
    Nmd w (((((W.setCell ⟨p, 0, none⟩ (.int .i64 x0)).setCell ⟨p, 1, none⟩ (.int .i64 x1)).setCell ⟨p, 2, none⟩ (.int .i64 x2)).setCell ⟨p, 3, none⟩ (.int .i64 x3)).setCell ⟨q, 0, none⟩ (.bool y)) p q x0 x1 x2 x3 y := by
  obtain ⟨t1, t2, t3, t4, t5, t6, t7, t8, t9, t10, t11, t12, t13⟩ := t
  have ne : ∀ (W : World) (b b' o o' : Nat) (v : Value), (b', o') ≠ (b, o) → (W.setCell ⟨b', o', none⟩ v).cell? ⟨b, o, none⟩ = W.cell? ⟨b, o, none⟩ := fun W b b' o o' v h =>
    World.cell?_setCell_other W _ _ _ (fun e => h (by injection e with e1 e2; rw [e1, e2]))
  refine ⟨((((t1.setCell (p := ⟨p, 0, none⟩) t2 _).setCell (p := ⟨p, 1, none⟩) t2 _).setCell (p := ⟨p, 2, none⟩) t2 _).setCell (p := ⟨p, 3, none⟩) t2 _).setCell (p := ⟨q, 0, none⟩) t3 _, t2, t3, by simpa [World.setCell] using t4, by simpa [World.setCell] using t5, t6, ?_, ?_, ?_, ?_, ?_, fun o => by simp only [World.frozen?_setCell]; exact t12 o, fun o => by simp only [World.frozen?_setCell]; exact t13 o⟩
  · rw [ne _ _ _ _ _ _ (by first | (simp; done) | (simp; omega)), ne _ _ _ _ _ _ (by simp), ne _ _ _ _ _ _ (by simp), ne _ _ _ _ _ _ (by simp), World.cell?_setCell_same _ _ _ t7]
  · rw [ne _ _ _ _ _ _ (by simp), ne _ _ _ _ _ _ (by simp), ne _ _ _ _ _ _ (by simp)]
    exact World.cell?_setCell_same _ _ _ ((ne _ _ _ _ _ _ (by simp)).trans t8)
  · rw [ne _ _ _ _ _ _ (by simp), ne _ _ _ _ _ _ (by simp)]
    exact World.cell?_setCell_same _ _ _ ((ne _ _ _ _ _ _ (by simp)).trans ((ne _ _ _ _ _ _ (by simp)).trans t9))
  · rw [ne _ _ _ _ _ _ (by simp)]
    exact World.cell?_setCell_same _ _ _ ((ne _ _ _ _ _ _ (by simp)).trans ((ne _ _ _ _ _ _ (by simp)).trans ((ne _ _ _ _ _ _ (by simp)).trans t10)))
  · exact World.cell?_setCell_same _ _ _ ((ne _ _ _ _ _ _ (by first | (simp; done) | (simp; omega))).trans ((ne _ _ _ _ _ _ (by first | (simp; done) | (simp; omega))).trans ((ne _ _ _ _ _ _ (by first | (simp; done) | (simp; omega))).trans ((ne _ _ _ _ _ _ (by first | (simp; done) | (simp; omega))).trans t11))))
set_option maxHeartbeats 1000000 in
theorem caught_idle (p q : Nat) (w0 w : World) (a b c d : Int) (r : Bool) (h : Nmd w0 w p q a b c d r) :
    CallsD Try.prog 113 #[.pointer (some ⟨p, 0, none⟩), .pointer (some ⟨q, 0, none⟩)] .returning w fun e u' w' => e = .returned (.tuple #[]) ∧ u' = .returning ∧ Nmd w0 w' p q 0 0 0 0 false := by
  have HF := Lib.hid (nmd_set h 0 0 0 0 false)
  obtain ⟨t1, t2, t3, t4, t5, t6, t7, t8, t9, t10, t11, t12, t13⟩ := h
  have f0 := t12 0
  have f1 := t12 1
  have f2 := t12 2
  have f3 := t12 3
  have f4 := t13 0
  refine callsD_of_wpS Try.func113 rfl fun c₀ cs hu => ?_
  simp only [Try.ntmps113, List.size_toArray, List.length_cons, List.length_nil, Nat.reduceAdd, Nat.reduceSub, Array.replicate_succ, Array.replicate_zero, List.push_toArray, List.append_toArray, List.nil_append, List.cons_append]
  have hta := ta_none 20
  apply wpS_region
  simp [wpOpsS, go_sem, recoverD, hu, Exit.thenS, hta, t6, t7, t8, t9, t10, t11, f0, f1, f2, f3, f4, bodyPostS, results, Try.results113]
  exact ⟨_, by cases c₀; simp_all, rfl, HF.out⟩
set_option maxHeartbeats 1000000 in
theorem caught_some (p q : Nat) (w0 w : World) (a b c d : Int) (r : Bool) (h : Nmd w0 w p q a b c d r) (k x y z : Int) (older : List PanicEntry) :
    CallsD Try.prog 113 #[.pointer (some ⟨p, 0, none⟩), .pointer (some ⟨q, 0, none⟩)] (.panicking ({ v := .iface 38 (.agg #[.int .i64 k, .int .i64 x, .int .i64 y, .int .i64 z]), recovered := false } :: older)) w fun e u' w' => e = .returned (.tuple #[]) ∧
      u' = .panicking ({ v := .iface 38 (.agg #[.int .i64 k, .int .i64 x, .int .i64 y, .int .i64 z]), recovered := true } :: older) ∧ Nmd w0 w' p q k x y z true := by
  have HF := Lib.hid (nmd_set h k x y z true)
  obtain ⟨t1, t2, t3, t4, t5, t6, t7, t8, t9, t10, t11, t12, t13⟩ := h
  have f0 := t12 0
  have f1 := t12 1
  have f2 := t12 2
  have f3 := t12 3
  have f4 := t13 0
  refine callsD_of_wpS Try.func113 rfl fun c₀ cs hu => ?_
  simp only [Try.ntmps113, List.size_toArray, List.length_cons, List.length_nil, Nat.reduceAdd, Nat.reduceSub, Array.replicate_succ, Array.replicate_zero, List.push_toArray, List.append_toArray, List.nil_append, List.cons_append]
  have hta := fun w => ta_some 20 (.agg #[.int .i64 k, .int .i64 x, .int .i64 y, .int .i64 z]) w
  apply wpS_region
  simp [wpOpsS, go_sem, recoverD, hu, Exit.thenS, hta, t6, t7, t8, t9, t10, t11, f0, f1, f2, f3, f4, bodyPostS, results, Try.results113]
  exact HF.out
/-- what firstNone returns -/
def fnE (s : Int) (n : Nat) (f : Nat → Int) (e : Ending) : Prop := ∃ k x y z, e = .returned (.tuple #[.agg #[.int .i64 k, .int .i64 x, .int .i64 y, .int .i64 z], .bool (!allC s f n)])
set_option maxHeartbeats 4000000 in
theorem firstNone_any (s : Int) (A : Option Addr) (c n : Nat) (f : Nat → Int) (w : World) (h1 : 1 ≤ s) (h2 : s ≤ 12) (hn : n ≤ 6) (hR : RdI w w.heap.size A (n * 4) f) :
    Calls Try.prog 93 #[.agg #[.int .i64 s, .slice A n c]] w fun e w' => fnE s n f e ∧ Below w.heap.size w w' := by
  have hmf : ∀ (fn : Fn) (first cap : Array Value) (w : World), (Instr.makeFunc fn first cap).run Try.prog w = .ok (.func fn first cap) w := fun _ _ _ _ => rfl
  have KR := Lib.hid (fun k a b c W => raise_any s k a b c W h1 h2)
  have HR := Lib.hid hR
  clear hR
  have P0 := Lib.hid (pbx_new w s A n c 28)
  go_enter_defers Try.func93, Try.ntmps93
  go_wp2_with fail
  obtain ⟨W0, hW0⟩ : ∃ W0, W0 = (((w.alloc (.cells #[.int .i64 s, .slice A n c] 28)).alloc (.cells #[.int .i64 0, .int .i64 0, .int .i64 0, .int .i64 0] 38)).alloc (.cells #[.bool false] 4)) := ⟨_, rfl⟩
  have PB : Hid (Pbx W0 w.heap.size s A n c) := Lib.hid (by
    rw [hW0]
    exact pbx_below P0.out (Below.alloc (Below.alloc (Below.refl _ _) (Nat.le_refl _) _) (by simp) _))
  have NM : Hid (Nmd w W0 (w.heap.size + 1) (w.heap.size + 1 + 1) 0 0 0 0 false) := Lib.hid (by
    rw [hW0]
    refine ⟨Below.alloc (Below.alloc (Below.alloc (Below.refl _ _) (Nat.le_refl _) _) (by simp) _) (by simp; omega) _, by omega, by omega, by simp, by simp, by omega, by go_simp, by go_simp, by go_simp, by go_simp, by go_simp, fun o => ?_, fun o => ?_⟩
    · have e : w.heap[w.heap.size + 1]? = none := Array.getElem?_eq_none (by omega)
      rw [frozen?_alloc_cells, frozen?_alloc_cells, frozen?_alloc_cells]; simp [World.frozen?, e]
    · have e : w.heap[w.heap.size + 1 + 1]? = none := Array.getElem?_eq_none (by omega)
      rw [frozen?_alloc_cells, frozen?_alloc_cells, frozen?_alloc_cells]; simp [World.frozen?, e])
  rw [← hW0]
  clear hW0 P0
  go_loopg [10] n (fun gg i wr => ∃ k : Nat, k ≤ n ∧ gg = n - k ∧ i = .int .i64 k ∧ Hid (Nmd w wr (w.heap.size + 1) (w.heap.size + 1 + 1) 0 0 0 0 false) ∧ Hid (Pbx wr w.heap.size s A n c) ∧ Hid (∀ i, i < k → clueB s (f (i * 4)) (f (i * 4 + 1)) (f (i * 4 + 2)) (f (i * 4 + 3)) = true))
  case atStart => exact ⟨0, Nat.zero_le _, rfl, rfl, NM, PB, Lib.hid (fun i h => absurd h (Nat.not_lt_zero _))⟩
  case round =>
    clear NM PB
    obtain ⟨k, hk, hgg, rfl, hN, hP, hC⟩ := hrel
    rename World => wo
    have HGK := Lib.hid hgg
    clear hgg
    by_cases hlt : k < n
    · obtain ⟨b, off, rfl, hb, hcell⟩ := HR.out (by omega)
      obtain ⟨q0, q1, q2, q3⟩ := clue_read hb hcell hN.out.below hlt
      have hz := hN.out.below.size
      have hbo : b < wo.heap.size := by omega
      have pc := hP.out.c0
      have pz := hP.out.z
      have HCF : Hid (clueB s (f (k * 4)) (f (k * 4 + 1)) (f (k * 4 + 2)) (f (k * 4 + 3)) = false → allC s f n = false) := Lib.hid (fun h => allC_f hlt h)
      have K1 := Lib.hid (fun W => KR.out (f (k * 4)) (f (k * 4 + 1)) (f (k * 4 + 2)) (f (k * 4 + 3)) W)
      have HC2 : Hid (clueB s (f (k * 4)) (f (k * 4 + 1)) (f (k * 4 + 2)) (f (k * 4 + 3)) = true → ∀ i, i < k + 1 → clueB s (f (i * 4)) (f (i * 4 + 1)) (f (i * 4 + 2)) (f (i * 4 + 3)) = true) := Lib.hid (fun h i hi => by
        by_cases hik : i = k
        · subst hik; exact h
        · exact hC.out i (by omega))
      clear hcell hC
      generalize f (k * 4) = n0 at *
      generalize f (k * 4 + 1) = n1 at *
      generalize f (k * 4 + 2) = n2 at *
      generalize f (k * 4 + 3) = n3 at *
      by_cases hcl : clueB s n0 n1 n2 n3 = true
      · have hr : raiE s n0 n1 n2 n3 = .returned (.tuple #[]) := by unfold raiE; rw [if_pos hcl]
        have HC3 := Lib.hid (HC2.out hcl)
        rw [hr] at K1
        clear hcl hr HC2 HCF
        go_wp2_with fail
        obtain ⟨W1, hW1⟩ : ∃ W1, W1 = (wo.alloc (.cells #[.int .i64 n0, .int .i64 n1, .int .i64 n2, .int .i64 n3] 38)) := ⟨_, rfl⟩
        rw [← hW1]
        have yW10_0 : W1.cell? ⟨wo.heap.size, 0, none⟩ = some (.int .i64 n0) := by rw [hW1]; go_simp
        have yW10_1 : W1.cell? ⟨wo.heap.size, 1, none⟩ = some (.int .i64 n1) := by rw [hW1]; go_simp
        have yW10_2 : W1.cell? ⟨wo.heap.size, 2, none⟩ = some (.int .i64 n2) := by rw [hW1]; go_simp
        have yW10_3 : W1.cell? ⟨wo.heap.size, 3, none⟩ = some (.int .i64 n3) := by rw [hW1]; go_simp
        have fW10 : ∀ o, W1.frozen? ⟨wo.heap.size, o, none⟩ = false := by intro o; rw [hW1]; (repeat rw [frozen?_alloc_cells]); simp [World.frozen?]
        have zW10 : wo.heap.size < W1.heap.size := by rw [hW1]; simp <;> omega
        have BW1 : Below wo.heap.size wo W1 := by rw [hW1]; exact (Below.alloc (Below.refl _ _) (by simp <;> omega) _)
        have eW1 : Hid (W1.heap.size = wo.heap.size + 1) := Lib.hid (by rw [hW1]; simp)
        clear hW1
        have N1 := Lib.hid (nmd_below hN.out BW1)
        have P1 := Lib.hid (pbx_below hP.out BW1)
        refine (K1.out _).mono ?_; rintro e w2 ⟨rfl, hb2⟩
        have N2 := Lib.hid (nmd_below N1.out hb2)
        have P2 := Lib.hid (pbx_below P1.out hb2)
        clear hb2 N1 P1 hN hP BW1 fW10 eW1 zW10 yW10_0 yW10_1 yW10_2 yW10_3 q0 q1 q2 q3 pc pz
        go_wp2_with fail
        go_roundg (n - (k + 1))
        case measure => have := HGK.out; omega
        case rel => exact ⟨k + 1, by omega, rfl, by go_num, N2, P2, HC3⟩
      · have hcf : clueB s n0 n1 n2 n3 = false := by simpa using hcl
        have hr : raiE s n0 n1 n2 n3 = pnc n0 n1 n2 n3 := by unfold raiE; rw [hcf]; rfl
        have HF := Lib.hid (HCF.out hcf)
        rw [hr] at K1
        clear hcl hcf hr HC2 HCF
        go_wp2_with fail
        obtain ⟨W1, hW1⟩ : ∃ W1, W1 = (wo.alloc (.cells #[.int .i64 n0, .int .i64 n1, .int .i64 n2, .int .i64 n3] 38)) := ⟨_, rfl⟩
        rw [← hW1]
        have yW10_0 : W1.cell? ⟨wo.heap.size, 0, none⟩ = some (.int .i64 n0) := by rw [hW1]; go_simp
        have yW10_1 : W1.cell? ⟨wo.heap.size, 1, none⟩ = some (.int .i64 n1) := by rw [hW1]; go_simp
        have yW10_2 : W1.cell? ⟨wo.heap.size, 2, none⟩ = some (.int .i64 n2) := by rw [hW1]; go_simp
        have yW10_3 : W1.cell? ⟨wo.heap.size, 3, none⟩ = some (.int .i64 n3) := by rw [hW1]; go_simp
        have fW10 : ∀ o, W1.frozen? ⟨wo.heap.size, o, none⟩ = false := by intro o; rw [hW1]; (repeat rw [frozen?_alloc_cells]); simp [World.frozen?]
        have zW10 : wo.heap.size < W1.heap.size := by rw [hW1]; simp <;> omega
        have BW1 : Below wo.heap.size wo W1 := by rw [hW1]; exact (Below.alloc (Below.refl _ _) (by simp <;> omega) _)
        have eW1 : Hid (W1.heap.size = wo.heap.size + 1) := Lib.hid (by rw [hW1]; simp)
        clear hW1
        have N1 := Lib.hid (nmd_below hN.out BW1)
        refine (K1.out _).mono ?_; rintro e w2 ⟨rfl, hb2⟩
        have N2 := Lib.hid (nmd_below N1.out hb2)
        clear hb2 N1 hN hP BW1 fW10 eW1 zW10 yW10_0 yW10_1 yW10_2 yW10_3 q0 q1 q2 q3 pc pz
        unfold pnc
        go_wp2_with fail
        refine leaves_cons (f := 113) (args := #[.pointer (some ⟨w.heap.size + 1, 0, none⟩), .pointer (some ⟨w.heap.size + 1 + 1, 0, none⟩)]) (by simp) (by simp [go_sem]) ?_
        refine (caught_some _ _ _ _ _ _ _ _ _ N2.out n0 n1 n2 n3 []).mono ?_
        rintro e u' w3 ⟨rfl, rfl, N3⟩
        obtain ⟨t1, t2, t3, t4, t5, t6, t7, t8, t9, t10, t11, t12, t13⟩ := N3
        simp [Leaves, settle, results, Try.results93, go_sem, t4, t5, t7, t8, t9, t10, t11]
        exact ⟨⟨n0, n1, n2, n3, by rw [HF.out]; rfl⟩, t1⟩
    · obtain rfl : k = n := by omega
      have HT : Hid (allC s f k = true) := Lib.hid ((allC_iff s f k).2 hC.out)
      obtain ⟨t1, t2, t3, t4, t5, t6, t7, t8, t9, t10, t11, t12, t13⟩ := hN.out
      have f0 := t12 0
      have f1 := t12 1
      have f2 := t12 2
      have f3 := t12 3
      have f4 := t13 0
      have NS := Lib.hid (nmd_set hN.out 0 0 0 0 false)
      clear t1 t2 t3 t12 t13 hC
      go_wp2_with fail
      refine leaves_cons (f := 113) (args := #[.pointer (some ⟨w.heap.size + 1, 0, none⟩), .pointer (some ⟨w.heap.size + 1 + 1, 0, none⟩)]) (by simp) (by simp [go_sem]) ?_
      refine (caught_idle _ _ _ _ _ _ _ _ _ NS.out).mono ?_
      rintro e u' w3 ⟨rfl, rfl, N3⟩
      obtain ⟨t1, t2, t3, t4, t5, t6, t7, t8, t9, t10, t11, t12, t13⟩ := N3
      simp [Leaves, settle, results, Try.results93, go_sem, t4, t5, t7, t8, t9, t10, t11]
      exact ⟨⟨0, 0, 0, 0, by rw [HT.out]; rfl⟩, t1⟩
theorem puzB_f1 {s : Int} {n : Nat} {f : Nat → Int} (h : inQ 1 12 s = false) : puzB s n f = false := by unfold puzB; rw [h]; rfl
set_option maxHeartbeats 1000000 in
theorem implIsPuzzle_any (s : Int) (A : Option Addr) (c n : Nat) (f : Nat → Int) (w : World) (hR : RdI w w.heap.size A (n * 4) f) :
    Calls Try.prog 58 #[.agg #[.int .i64 s, .slice A n c]] w fun e w' => e = .returned (.bool (puzB s n f)) ∧ Below w.heap.size w w' := by
  have KS := Lib.hid (fun W => isSide_any s W)
  have HB := Lib.hid (Below.alloc (Below.refl w.heap.size w) (Nat.le_refl _) (.cells #[.int .i64 s, .slice A n c] 28))
  by_cases hs : inQ 1 12 s = true
  · by_cases hn : n ≤ 6
    · have h12 := inQ_12 hs
      have KF := Lib.hid (fun W (hb : Below w.heap.size w W) => firstNone_any s A c n f W h12.1 h12.2 hn (rdi_below hR hb (Nat.le_refl _)))
      have hp : Hid (puzB s n f = allC s f n) := Lib.hid (by unfold puzB; rw [hs]; simp [hn])
      have hn6 : ¬ (6 : Int) < (n : Int) := by omega
      rw [hs] at KS
      rw [hp.out]
      generalize hal : allC s f n = al at *
      unfold fnE at KF
      rw [hal] at KF
      clear hal hs h12 hR hn hp
      go_enter Try.func58, Try.ntmps58
      go_wp2_with fail
      refine (KS.out _).mono ?_; rintro e _ ⟨rfl, rfl⟩
      go_wp2_with fail
      refine (KF.out _ HB.out).mono ?_; rintro e w1 ⟨⟨x0, x1, x2, x3, rfl⟩, hb1⟩
      have B1 := HB.out.trans (hb1.mono HB.out.size)
      clear hb1
      go_wp2_with fail
      go_ret
      exact ⟨ret_bool (by simp), Below.alloc B1 B1.size _⟩
    · have hp : Hid (puzB s n f = false) := Lib.hid (by unfold puzB; simp [hn])
      have hn6 : (6 : Int) < (n : Int) := by omega
      rw [hs] at KS
      rw [hp.out]
      clear hs hR hn hp
      go_enter Try.func58, Try.ntmps58
      go_wp2_with fail
      refine (KS.out _).mono ?_; rintro e _ ⟨rfl, rfl⟩
      go_wp2_with fail
      go_ret
      exact ⟨rfl, HB.out⟩
  · have hf : inQ 1 12 s = false := by simpa using hs
    rw [hf] at KS
    rw [puzB_f1 hf]
    clear hs hf hR
    go_enter Try.func58, Try.ntmps58
    go_wp2_with fail
    refine (KS.out _).mono ?_; rintro e _ ⟨rfl, rfl⟩
    go_wp2_with fail
    go_ret
    exact ⟨rfl, HB.out⟩
theorem four_rd (W : World) (k a b c : Int) (t : TypeId) : RdI (W.alloc (.cells #[.int .i64 k, .int .i64 a, .int .i64 b, .int .i64 c] t)) (W.alloc (.cells #[.int .i64 k, .int .i64 a, .int .i64 b, .int .i64 c] t)).heap.size (some ⟨W.heap.size, 0, none⟩) (1 * 4) (fun i => if i = 0 then k else if i = 1 then a else if i = 2 then b else c) := by
  intro _
  refine ⟨W.heap.size, 0, rfl, by simp, fun i hi => ?_⟩
  match i, hi with
  | 0, _ => go_simp
  | 1, _ => go_simp
  | 2, _ => go_simp
  | 3, _ => go_simp
set_option maxHeartbeats 1000000 in
theorem implIsClue_any (s k a b c : Int) (w : World) :
    Calls Try.prog 64 #[.int .i64 s, .agg #[.int .i64 k, .int .i64 a, .int .i64 b, .int .i64 c]] w fun e w' => e = .returned (.bool (inQ 1 12 s && clueB s k a b c)) ∧ Below w.heap.size w w' := by
  have hp : Hid (puzB s 1 (fun i => if i = 0 then k else if i = 1 then a else if i = 2 then b else c) = (inQ 1 12 s && clueB s k a b c)) := Lib.hid (by unfold puzB allC allC; simp)
  have KP := Lib.hid (fun W => implIsPuzzle_any s (some ⟨W.heap.size, 0, none⟩) 1 1 (fun i => if i = 0 then k else if i = 1 then a else if i = 2 then b else c) (W.alloc (.cells #[.int .i64 k, .int .i64 a, .int .i64 b, .int .i64 c] 38)) (four_rd W k a b c 38))
  rw [hp.out] at KP
  generalize (inQ 1 12 s && clueB s k a b c) = q at *
  have HB := Lib.hid (Below.alloc (Below.refl w.heap.size w) (Nat.le_refl _) (.cells #[.int .i64 k, .int .i64 a, .int .i64 b, .int .i64 c] 38))
  clear hp
  go_enter Try.func64, Try.ntmps64
  go_wp2_with fail
  obtain ⟨W0, hW0⟩ : ∃ W0, W0 = w.alloc (.cells #[.int .i64 k, .int .i64 a, .int .i64 b, .int .i64 c] 38) := ⟨_, rfl⟩
  have K2 := KP.out W0
  have B0 := HB.out
  rw [← hW0] at B0 ⊢
  have hz : W0.heap.size = w.heap.size + 1 := by rw [hW0]; simp
  rw [hz] at K2
  refine K2.mono ?_; rintro e w1 ⟨rfl, hb1⟩
  have B1 := (Below.alloc B0 (by omega) (.cells #[.int .i64 k, .int .i64 a, .int .i64 b, .int .i64 c] 38)).trans (hb1.mono (by simp; omega))
  go_wp2_with fail
  go_ret
  exact ⟨rfl, B1⟩
end Go.Proofs.Ytacabmbajadbgaa
