/- joined: Ha Wm3 Rn Wm2 Wm4 Wm5 Wm6 U5 -/
import Derived.Test.YtheddoinnakneaaZDirectionsOfWidth4
import Derived.Laws.OwnMore
import Derived.OwnWalk
import Derived.Laws.AppendOwnNone
import Derived.BigRegion
import Derived.Laws.Cover1
/- rows of pairs of numbers, each pair in a block of its own, that a call appends to -/
namespace Go.Proofs.Ytheddoinnakneaa
open Go.ChangeShapes Go.WideShapes Go.ChangeAt Go.RowKit Go.Joins
set_option linter.unusedVariables false
set_option linter.unusedSimpArgs false
set_option maxRecDepth 4000
theorem ints_info : (Try.prog.info? 47).map (fun i => (i.zero, i.size, i.bytes)) = some (some (.slice none 0 0), 1, 24) := by kernel_rfl
theorem info_parts2 {i : Option TypeInfo} {z : Value} {s b : Nat} (h : i.map (fun i => (i.zero, i.size, i.bytes)) = some (some z, s, b)) : ∃ i0, i = some i0 ∧ i0.zero = some z ∧ i0.size = s ∧ i0.bytes = b := by
  cases i with
  | none => simp at h
  | some i0 =>
    simp at h
    exact ⟨i0, rfl, h.1, h.2.1, h.2.2⟩
/-- the row v of k slices, number i of them the numbers x i and y i in block q i -/
def PairAt (w : World) (base : Nat) (xs : List Value) (q : Nat → Nat) (x y : Nat → Int) (i : Nat) : Prop :=
  xs[i]? = some (.slice (some ⟨q i, 0, none⟩) 2 2) ∧ base ≤ q i ∧ q i < w.heap.size ∧ w.heap[q i]? = some (.cells #[.int .i64 (x i), .int .i64 (y i)] 3 (0, 0)) ∧ ∀ j, j < i → q j < q i
def RowH (w : World) (base : Nat) (v : Value) (x y : Nat → Int) (k : Nat) : Prop :=
  ∃ (xs : List Value) (q : Nat → Nat), w.ownsRow base 47 1 v k xs ∧ ∀ i, i < k → PairAt w base xs q x y i
theorem rowH_nil (w : World) (base : Nat) (x y : Nat → Int) : RowH w base (.slice none 0 0) x y 0 :=
  ⟨[], fun _ => 0, World.ownsRow_nil w base _ _, fun i h => absurd h (Nat.not_lt_zero i)⟩
theorem own_block {w w' : World} {base : Nat} {v : Value} {k : Nat} {xs : List Value} (h : w.ownsRow base 47 1 v k xs) (hk : ∀ b, b < w.heap.size → w'.heap[b]? = w.heap[b]?) : w'.ownsRow base 47 1 v k xs := by
  have h0 := h
  obtain ⟨h1, h2⟩ := h
  rcases h2 with h2 | ⟨g, cap, cur, hv, hg, hh, r⟩
  · exact ⟨h1, .inl h2⟩
  · have hl := h0.lt g (by rw [hv]; rfl)
    exact ⟨h1, .inr ⟨g, cap, cur, hv, hg, (hk g hl.2).trans hh, r⟩⟩
theorem rowH_below {w w' : World} {base B : Nat} {v : Value} {x y : Nat → Int} {k : Nat} (h : RowH w base v x y k) (hb : Below B w w') (hB : w.heap.size ≤ B) : RowH w' base v x y k := by
  obtain ⟨xs, q, ho, hq⟩ := h
  refine ⟨xs, q, own_block ho fun b hbl => hb.block b (by omega), fun i hi => ?_⟩
  obtain ⟨h1, h2, h3, h4, h5⟩ := hq i hi
  have := hb.size
  exact ⟨h1, h2, by omega, (hb.block _ (by omega)).trans h4, h5⟩
theorem not_own {w : World} {base : Nat} {v : Value} {k : Nat} {xs : List Value} {g : Nat} {cs : Array Value} (h : w.ownsRow base 47 1 v k xs) (hg : w.heap[g]? = some (.cells cs 3 (0, 0))) : some g ≠ v.ownBlock := by
  intro e
  rcases h.2 with ⟨hv, _⟩ | ⟨g', cap, cur, hv, _, hh, _⟩
  · rw [hv] at e; cases e
  · rw [hv] at e
    injection e with e
    subst e
    rw [hh] at hg
    injection hg with hg
    injection hg with _ h2
    exact absurd h2 (by decide)
/-- behind an append of one more pair -/
theorem rowH_push {W w' : World} {base : Nat} {v v' : Value} {x y : Nat → Int} {k : Nat} {xs : List Value} {q : Nat → Nat} (hbase : base ≤ W.heap.size) (ho : W.ownsRow base 47 1 v k xs) (hq : ∀ i, i < k → PairAt W base xs q x y i)
    (hown : w'.ownsRow base 47 1 v' (k + 1) (xs ++ [.slice (some ⟨W.heap.size, 0, none⟩) 2 2]))
    (hg : ((W.alloc (.cells #[.int .i64 (x k), .int .i64 (y k)] 3)).alloc (.cells #[.slice (some ⟨W.heap.size, 0, none⟩) 2 2] 47)).grownBy w' v.ownBlock) : RowH w' base v' x y (k + 1) := by
  have hlen : xs.length = k := by have := ho.1; omega
  have hA : Below W.heap.size W ((W.alloc (.cells #[.int .i64 (x k), .int .i64 (y k)] 3)).alloc (.cells #[.slice (some ⟨W.heap.size, 0, none⟩) 2 2] 47)) := Below.alloc (Below.alloc (Below.refl _ _) (Nat.le_refl _) _) (by simp) _
  have hsz : ((W.alloc (.cells #[.int .i64 (x k), .int .i64 (y k)] 3)).alloc (.cells #[.slice (some ⟨W.heap.size, 0, none⟩) 2 2] 47)).heap.size = W.heap.size + 2 := by simp
  have hgs := hg.size
  have hnew : ((W.alloc (.cells #[.int .i64 (x k), .int .i64 (y k)] 3)).alloc (.cells #[.slice (some ⟨W.heap.size, 0, none⟩) 2 2] 47)).heap[W.heap.size]? = some (.cells #[.int .i64 (x k), .int .i64 (y k)] 3 (0, 0)) := by
    have h1 := (Below.alloc (Below.refl (W.alloc (.cells #[.int .i64 (x k), .int .i64 (y k)] 3)).heap.size (W.alloc (.cells #[.int .i64 (x k), .int .i64 (y k)] 3))) (Nat.le_refl _) (.cells #[.slice (some ⟨W.heap.size, 0, none⟩) 2 2] 47)).block W.heap.size (by simp)
    rw [h1]
    exact heap_alloc_new W _
  refine ⟨xs ++ [.slice (some ⟨W.heap.size, 0, none⟩) 2 2], fun i => if i < k then q i else W.heap.size, hown, fun i hi => ?_⟩
  unfold PairAt
  by_cases hik : i < k
  · obtain ⟨h1, h2, h3, h4, h5⟩ := hq i hik
    simp only [hik, if_true]
    refine ⟨by rw [List.getElem?_append_left (by omega)]; exact h1, h2, by omega, ?_, fun j hj => by rw [if_pos (by omega)]; exact h5 j hj⟩
    rw [hg.block (q i) (by omega) (not_own ho h4)]
    exact (hA.block _ h3).trans h4
  · have e : i = k := by omega
    subst e
    simp only [Nat.lt_irrefl, if_false]
    refine ⟨by rw [List.getElem?_append_right (by omega), hlen, Nat.sub_self]; rfl, hbase, by omega, ?_, fun j hj => by rw [if_pos hj]; exact (hq j hj).2.2.1⟩
    rw [hg.block W.heap.size (by omega) (fun e => by
      rcases ho.2 with ⟨hv, _⟩ | ⟨g', cap, cur, hv, _, hh, _⟩
      · rw [hv] at e; cases e
      · have := (ho.lt g' (by rw [hv]; rfl)).2
        rw [hv] at e
        injection e with e
        have e2 : W.heap.size = g' := e
        omega)]
    exact hnew
theorem frozen_cells {w : World} {g : Nat} {cs : Array Value} {t : TypeId} (h : w.heap[g]? = some (.cells cs t (0, 0))) (o : Nat) : w.frozen? ⟨g, o, none⟩ = false := by simp [World.frozen?, h]
/-- the rows, read -/
theorem rwS_of {w : World} {base : Nat} {v : Value} {x y : Nat → Int} {n : Nat} (h : RowH w base v x y n) (hn : 0 < n) :
    ∃ A c, v = .slice A n c ∧ n ≤ c ∧ c ≤ maxLen ∧ RwS w base w.heap.size A n (fun _ => 2) (fun i t => if t = 0 then x i else y i) := by
  obtain ⟨xs, q, ho, hq⟩ := h
  have ho2 := ho
  rcases ho.2 with ⟨_, h0⟩ | ⟨g, cap, cur, hv, hg, hh, hc, hm, _⟩
  · omega
  · subst hv
    refine ⟨some ⟨g, 0, none⟩, cap, rfl, hc, hm, fun _ => ⟨g, 0, q, rfl, hg, (ho.lt g rfl).2, fun i hi => ?_⟩⟩
    obtain ⟨h1, h2, h3, h4, h5⟩ := hq i hi
    refine ⟨⟨h2, h3, fun e => not_own ho h4 (by rw [e]; rfl), fun j hj e => by have := h5 j hj; omega⟩, some ⟨q i, 0, none⟩, 2, ?_, fun _ => ⟨q i, 0, rfl, Nat.le_refl _, Nat.lt_succ_self _, fun t ht => ?_⟩⟩
    · rw [Nat.zero_add, ho2.cellAt i (by omega)]; exact h1
    · rw [Nat.zero_add]
      refine ⟨?_, frozen_cells h4 t⟩
      rw [cell_of_row w (q i) t _ 3 (0, 0) h4]
      have ht2 : t < 2 := ht
      rcases (show t = 0 ∨ t = 1 by omega) with rfl | rfl <;> rfl
/-- what a call returns that gives n lists of numbers and says whether there are such -/
def RetS (w : World) (n : Nat) (m : Nat → Nat) (f : Nat → Nat → Int) (b : Bool) (e : Ending) (w' : World) : Prop :=
  ∃ A c, e = .returned (.tuple #[.slice A n c, .bool b]) ∧ n ≤ c ∧ c ≤ maxLen ∧ Below w.heap.size w w' ∧ RwS w' w.heap.size w'.heap.size A n m f
theorem retS_nil {w w' : World} {m : Nat → Nat} {f : Nat → Nat → Int} (hb : Below w.heap.size w w') : RetS w 0 m f false (.returned (.tuple #[.slice none 0 0, .bool false])) w' :=
  ⟨none, 0, rfl, by simp, by simp [maxLen], hb, fun h => absurd h (by omega)⟩
theorem retS_row {w w2 w' : World} {v : Value} {x y : Nat → Int} {n : Nat} (hb2 : Below w.heap.size w w2) (h : RowH w' w2.heap.size v x y n) (hn : 0 < n) (hb : Below w2.heap.size w2 w') :
    RetS w n (fun _ => 2) (fun i t => if t = 0 then x i else y i) true (.returned (.tuple #[v, .bool true])) w' := by
  obtain ⟨A, c, rfl, h1, h2, h3⟩ := rwS_of h hn
  exact ⟨A, c, rfl, h1, h2, hb2.trans (hb.mono hb2.size), rws_more h3 hb2.size (Nat.le_refl _)⟩
end Go.Proofs.Ytheddoinnakneaa
/- a pair put into a row of pairs -/
namespace Go.Proofs.Ytheddoinnakneaa
open Go.ChangeShapes Go.WideShapes Go.ChangeAt Go.RowKit Go.Joins
set_option linter.unusedVariables false
set_option linter.unusedSimpArgs false
set_option maxRecDepth 4000
theorem wm_cells {w : World} {g : Nat} {x : Value} (h1 : w.cell? ⟨g, 0, none⟩ = some x) : ∀ j u, [x][j]? = some u → w.cell? ((⟨g, 0, none⟩ : Addr).add j) = some u := by
  intro j u hj
  match j, hj with
  | 0, hj => simp at hj; subst hj; exact h1
theorem wm_one (x : Option Addr) (n c : Nat) : ∀ u ∈ [Value.slice x n c], u.oneCell' = true := by
  intro u hu; simp at hu; subst hu; rfl
theorem slM_cells {w W : World} {base g r cap B : Nat} {q ys : List Nat} (h : w.ownsRow base 47 1 (.slice (some ⟨g, 0, none⟩) r cap) r (slM q)) (hb : Below B w W) (hB : w.heap.size ≤ B) (hq : q.length = r) (o : Nat) (hy : ∀ j b, ys[j]? = some b → q[o + j]? = some b) :
    ∀ j u, (slM ys)[j]? = some u → W.cell? ((⟨g, o, none⟩ : Addr).add j) = some u := by
  intro j u hj
  unfold slM at hj
  rw [List.getElem?_map] at hj
  cases hyj : ys[j]? with
  | none => rw [hyj] at hj; cases hj
  | some b =>
    rw [hyj] at hj
    injection hj with hj
    subst hj
    have h1 := hy j b hyj
    have h2 : o + j < q.length := by
      rcases Nat.lt_or_ge (o + j) q.length with h' | h'
      · exact h'
      · rw [List.getElem?_eq_none h'] at h1; cases h1
    have hg := (World.ownsRow.lt h g rfl).2
    have ea : (⟨g, o, none⟩ : Addr).add j = ⟨g, o + j, none⟩ := by first | rfl | simp [Addr.add]
    rw [ea]
    exact (World.cell?_of_block (w := w) (hb.block g (by omega))).trans ((World.ownsRow.cellAt h (o + j) (by omega)).trans (slM_get h1))
/-- a new pair is there still, behind the append -/
theorem pair_new {w w' : World} {base n : Nat} {v : Value} {xs : List Value} {x y : Int} (ho : ((w.alloc (.cells #[.int .i64 x, .int .i64 y] 3)).alloc (.cells #[.slice (some ⟨w.heap.size, 0, none⟩) 2 2] 47)).ownsRow base 47 1 v n xs)
    (hg : ((w.alloc (.cells #[.int .i64 x, .int .i64 y] 3)).alloc (.cells #[.slice (some ⟨w.heap.size, 0, none⟩) 2 2] 47)).grownBy w' v.ownBlock) : w'.heap[w.heap.size]? = some (.cells #[.int .i64 x, .int .i64 y] 3 (0, 0)) ∧ w.heap.size < w'.heap.size := by
  have hnew : ((w.alloc (.cells #[.int .i64 x, .int .i64 y] 3)).alloc (.cells #[.slice (some ⟨w.heap.size, 0, none⟩) 2 2] 47)).heap[w.heap.size]? = some (.cells #[.int .i64 x, .int .i64 y] 3 (0, 0)) := by
    have h1 := (Below.alloc (Below.refl (w.alloc (.cells #[.int .i64 x, .int .i64 y] 3)).heap.size (w.alloc (.cells #[.int .i64 x, .int .i64 y] 3))) (Nat.le_refl _) (.cells #[.slice (some ⟨w.heap.size, 0, none⟩) 2 2] 47)).block w.heap.size (by simp)
    rw [h1]
    exact heap_alloc_new w _
  have hsz : ((w.alloc (.cells #[.int .i64 x, .int .i64 y] 3)).alloc (.cells #[.slice (some ⟨w.heap.size, 0, none⟩) 2 2] 47)).heap.size = w.heap.size + 2 := by simp
  have hgs := hg.size
  exact ⟨(hg.block w.heap.size (by omega) (not_own ho hnew)).trans hnew, by omega⟩
theorem rowM_put {W7 w8 w10 w11 : World} {base n10 t : Nat} {q : List Nat} {s : List (Int × Int)} {x y : Int} {v10 v11 : Value} {xs : List Value} (hb : base ≤ W7.heap.size) (P7 : PrM W7 base q s) (ht : t ≤ s.length)
    (h8 : W7.heap.size ≤ w8.heap.size) (B10 : Below W7.heap.size W7 w10) (hp : w10.heap[w8.heap.size]? = some (.cells #[.int .i64 x, .int .i64 y] 3 (0, 0))) (hl : w8.heap.size < w10.heap.size)
    (own10 : w10.ownsRow base 47 1 v10 n10 xs) (hg : w10.grownBy w11 v10.ownBlock)
    (own11 : w11.ownsRow base 47 1 v11 (s.length + 1) (slM (q.take t) ++ [.slice (some ⟨w8.heap.size, 0, none⟩) 2 2] ++ slM (q.drop t))) :
    RowM w11 base v11 (s.take t ++ [(x, y)] ++ s.drop t) := by
  have P10 := prM_below P7 B10 (Nat.le_refl _)
  have hgs := hg.size
  have P11 : PrM w11 base q s := prM_blocks P10 hgs (fun b hbq => hg.block b (prM_lt P10 hbq).2 (by
    obtain ⟨i, hi⟩ := List.mem_iff_getElem?.1 hbq
    have hl : i < q.length := by
      rcases Nat.lt_or_ge i q.length with g | g
      · exact g
      · rw [List.getElem?_eq_none g] at hi; cases hi
    have := P10.at_ i b _ hi (pt_get (l := s) (i := i) (by rw [← P10.len]; exact hl))
    exact not_own own10 this.2.2))
  have hp11 := (hg.block w8.heap.size hl (not_own own10 hp)).trans hp
  refine ⟨q.take t ++ [w8.heap.size] ++ q.drop t, ?_, prM_put P11 ht (by omega) (by omega) (p := (x, y)) hp11 (fun hm => ?_)⟩
  · rw [slM_put]
    have e : (s.take t ++ [(x, y)] ++ s.drop t).length = s.length + 1 := by simp; omega
    rw [e]
    exact own11
  · have := (prM_lt P7 hm).2
    omega
theorem rowM_one {w : World} {base b : Nat} {x y : Int} {v : Value} {n : Nat} (hn : n = 1) (h1 : base ≤ b) (hp : w.heap[b]? = some (.cells #[.int .i64 x, .int .i64 y] 3 (0, 0))) (hl : b < w.heap.size) (ho : w.ownsRow base 47 1 v n [.slice (some ⟨b, 0, none⟩) 2 2]) : RowM w base v [(x, y)] := by
  subst hn
  refine ⟨[b], ho, rfl, by simp, fun i b' p h2 h3 => ?_⟩
  match i, h2, h3 with
  | 0, h2, h3 =>
    simp at h2 h3
    subst h2 h3
    exact ⟨h1, hl, hp⟩
theorem ins_nil (p : Int × Int) : ins [] p = [p] := by simp [ins]
theorem wm_none {P : Program} {w : World} {ops : Array Oper} {rest : List Oper} {o : Oper} {a : Act} {Q : Exit → Act → World → Prop} (hgd : o.guard = none) (s x : Operand) (t : TypeId)
    (ho : o.op = .call { callee := .builtin .append, args := #[s, x], argTypes := #[t, t] })
    (base : Nat) (e : TypeId) (i : TypeInfo) (size : Nat) (ht : P.underlying t = some (.slice e)) (hi : P.info? e = some i)
    (v : Value) (n : Nat) (xs : List Value) (hs : a.eval s = v) (hown : w.ownsRow base e size v n xs) (hx : a.eval x = .slice none 0 0)
    (h : ∀ W v', W = w → v' = v → wpList P ops Q rest (a.put o.dst v') W) : wpList P ops Q (o :: rest) a w :=
  wpList_append_own_none hgd s x t ho base e i size ht hi v n xs hs hown hx (h _ _ rfl rfl)
end Go.Proofs.Ytheddoinnakneaa
/- A statement that leaves the order of its first operations open, one of which makes a new block; the last ones stand in one order: one walk, in the order of the text, whatever the block's number. -/
namespace Go.Proofs.Ytheddoinnakneaa
open Go.ChangeShapes Go.WideShapes Go.ChangeAt Go.RowKit Go.Joins
set_option linter.unusedVariables false
set_option linter.unusedSimpArgs false
set_option maxRecDepth 4000
section
variable {P : Program} {ops : Array Oper} {md : Region.Mode} {W0 : World}
theorem comes_mono {S S' : World → Prop} {v : Value} {r : Result Next} (h : Comes P S v r) (hk : ∀ w, S w → S' w) : Comes P S' v r := by
  cases r with
  | ok n w' =>
    cases n with
    | value u => exact ⟨h.1, hk _ h.2⟩
    | skip => exact ⟨h.1, hk _ h.2⟩
    | enter f args => exact Calls.mono h fun e w'' he => ⟨he.1, hk _ he.2⟩
    | _ => exact h.elim
  | halt x w' => exact h.elim
def SteadyR (P : Program) (ops : Array Oper) (W0 : World) (o : Oper) (v : Value) (a : Act) : Prop :=
  (Region.wanted o (yielded ops a.tmps) = true ∧ ∀ w, Below W0.heap.size W0 w → Comes P (fun w' => Below w.heap.size w w') v ((execOp a.eval o).run P w)) ∨
  (Region.wanted o (yielded ops a.tmps) = false ∧ v = undef)
theorem steady_of_R {S : World → Prop} {o : Oper} {v : Value} {a : Act} (h : SteadyR P ops W0 o v a) (hS : ∀ w, S w → Below W0.heap.size W0 w) (hK : ∀ w w', S w → Below w.heap.size w w' → S w') : Steady P ops S o v a := by
  rcases h with ⟨h1, h2⟩ | h
  · exact Or.inl ⟨h1, fun w hw => comes_mono (h2 w (hS w hw)) fun w' hb => hK w w' hw hb⟩
  · exact Or.inr h
theorem steadyR_same {o : Oper} {v : Value} {a a' : Act} (hy : SteadyR P ops W0 o v a) (he : execOp a'.eval o = execOp a.eval o)
    (hw : Region.wanted o (yielded ops a'.tmps) = Region.wanted o (yielded ops a.tmps)) : SteadyR P ops W0 o v a' := by
  unfold SteadyR at *; rw [he, hw]; exact hy
def wpAnyR (P : Program) (md : Region.Mode) (ops : Array Oper) (W0 : World) (n : Nat) (L : Array Bool → Act → Prop) : Nat → Array Bool → Act → Prop
  | 0, listed, a => L listed a
  | f + 1, listed, a => Region.ready md ops listed ≠ [] ∧ ∀ i ∈ Region.ready md ops listed, i < n ∧ ∃ oi v, ops[i]? = some oi ∧ SteadyR P ops W0 oi v a ∧ wpAnyR P md ops W0 n L f (listed.setIfInBounds i true) (a.put oi.dst v)
theorem wpAnyS_of_R {n : Nat} {L : Array Bool → Act → Prop} {S : World → Prop} (hS : ∀ w, S w → Below W0.heap.size W0 w) (hK : ∀ w w', S w → Below w.heap.size w w' → S w') :
    ∀ (f : Nat) (listed : Array Bool) (a : Act), wpAnyR P md ops W0 n L f listed a → wpAnyS P md ops S n L f listed a
  | 0, _, _, h => h
  | f + 1, listed, a, h => ⟨h.1, fun i hi => by
      obtain ⟨h1, oi, v, ho, hy, hn⟩ := h.2 i hi
      exact ⟨h1, oi, v, ho, steady_of_R hy hS hK, wpAnyS_of_R hS hK f _ _ hn⟩⟩
theorem wpAnyR_first {n i : Nat} {oi : Oper} {v : Value} {L : Array Bool → Act → Prop} (hi : ops[i]? = some oi) (hsel : ∀ (j : Nat) (o : Oper) cs b, ops[j]? = some o → o.op ≠ .select cs b)
    (hs : Region.sinkB md ops n = true) (hc : Region.chainB md ops n = true) (hn : n < ops.size) (hin : i < n)
    (hdone : ∀ listed a, L listed a → ∀ j ∈ Region.ready md ops listed, n ≤ j) :
    ∀ (f : Nat) (listed : Array Bool) (a : Act), HeadInv md ops n listed →
      (∀ j oj, ops[j]? = some oj → j ≠ i → listed.getD j true = false → (∀ e ∈ oj.after, Region.binds md e = true → e.on ≠ i) → oi.apart ops oj = true) →
      i ∈ Region.ready md ops listed → SteadyR P ops W0 oi v a →
      wpAnyR P md ops W0 n L f (listed.setIfInBounds i true) (a.put oi.dst v) → wpAnyR P md ops W0 n L (f + 1) listed a := by
  intro f
  induction f with
  | zero =>
    intro listed a inv _ hr hy H
    have hun := (mem_ready.1 hr).1
    refine ⟨fun h => (by rw [h] at hr; cases hr), fun j hj => ?_⟩
    have hjn : j < n := by
      rcases Nat.lt_or_ge j n with h | h
      · exact h
      · exact absurd hj (tail_waits hs hc hn inv _ i rfl hin hun j h)
    refine ⟨hjn, ?_⟩
    by_cases hji : j = i
    · subst hji; exact ⟨oi, v, hi, hy, H⟩
    · have := hdone _ _ H j (ready_mono hj hji)
      omega
  | succ f ih =>
    intro listed a inv hfree hr hy H
    have hun := (mem_ready.1 hr).1
    refine ⟨fun h => (by rw [h] at hr; cases hr), fun j hj => ?_⟩
    have hjn : j < n := by
      rcases Nat.lt_or_ge j n with h | h
      · exact h
      · exact absurd hj (tail_waits hs hc hn inv _ i rfl hin hun j h)
    refine ⟨hjn, ?_⟩
    by_cases hji : j = i
    · subst hji; exact ⟨oi, v, hi, hy, H⟩
    · obtain ⟨_, oj, u, hoj, hsj, Hj⟩ := H.2 j (ready_mono hj hji)
      obtain ⟨hjun, oj', hoj', hall⟩ := mem_ready.1 hj
      obtain rfl : oj' = oj := Option.some.inj (hoj'.symm.trans hoj)
      have hnot : ∀ e ∈ oj'.after, Region.binds md e = true → e.on ≠ i := fun e he hb heq => by
        have h1 := hall e he hb
        rw [heq, getD_both hun] at h1
        cases h1
      obtain ⟨h1, h2, h3⟩ := Oper.apart_spec (hfree j oj' hoj hji hjun hnot)
      have k1 : SteadyR P ops W0 oj' u a := steadyR_same hsj (execOp_put oj' (fun cs b => hsel j oj' cs b hoj) a oi.dst v h1).symm (wanted_put oj' a oi.dst v h1).symm
      have k2 : SteadyR P ops W0 oi v (a.put oj'.dst u) := steadyR_same hy (execOp_put oi (fun cs b => hsel i oi cs b hi) a oj'.dst u h3) (wanted_put oi a oj'.dst u h3)
      refine ⟨oj', u, hoj, k1, ih _ _ (inv.set hj hjn) (fun k ok hk hki hun hno => ?_) (ready_mono hr (Ne.symm hji)) k2 ?_⟩
      · refine hfree k ok hk hki ?_ hno
        by_cases hjk : j = k
        · subst hjk; exact hjun
        · rw [getD_set_ne true hjk] at hun; exact hun
      · rw [Array.setIfInBounds_comm _ _ hji, ← Act.put_comm a v u h2]
        exact Hj
/-- the head, in the text's order -/
def wpHR (P : Program) (ops : Array Oper) (W0 : World) (T : Act → Prop) : List Oper → Act → Prop
  | [], a => T a
  | o :: rest, a => ∃ v, SteadyR P ops W0 o v a ∧ wpHR P ops W0 T rest (a.put o.dst v)
def lexZ (md : Region.Mode) (ops : Array Oper) (g n : Nat) : Nat → Nat → Array Bool → Bool
  | 0, _, listed => Region.seqB md ops g n listed
  | m + 1, k, listed => (Region.ready md ops listed).contains k && Region.free md ops listed k && lexZ md ops g n m (k + 1) (listed.setIfInBounds k true)
theorem wpAnyR_lex {n g : Nat} {T : Act → Prop} (hsel : Region.noSelect ops = true) (hs : Region.sinkB md ops n = true) (hc : Region.chainB md ops n = true) (hn : n < ops.size) :
    ∀ (l : List Oper) (k : Nat) (listed : Array Bool) (a : Act), (∀ j, j < l.length → l[j]? = ops[k + j]?) → k + l.length < n → HeadInv md ops n listed →
    lexZ md ops g n l.length k listed = true → wpHR P ops W0 T l a →
    wpAnyR P md ops W0 n (fun listed' a' => Region.seqB md ops g n listed' = true ∧ T a') l.length listed a
  | [], k, listed, a, _, _, _, hB, h => ⟨hB, h⟩
  | o :: l, k, listed, a, hl, hk, inv, hB, h => by
    have h0 : ops[k]? = some o := by simpa using (hl 0 (by simp)).symm
    simp only [List.length_cons, lexZ, Bool.and_eq_true] at hB
    obtain ⟨⟨hr, hf⟩, hB'⟩ := hB
    have hkn : k < n := by simp only [List.length_cons] at hk; omega
    have hr' : k ∈ Region.ready md ops listed := by simpa using hr
    obtain ⟨v, hy, hK⟩ := h
    exact wpAnyR_first h0 (Region.noSelect_spec hsel) hs hc hn hkn (fun listed' a' hL => seqB_ready hL.1) l.length listed a inv (Region.free_spec h0 hf) hr' hy
      (wpAnyR_lex hsel hs hc hn l (k + 1) _ _ (fun j hj => by have := hl (j + 1) (by simp; omega); simpa [Nat.add_assoc, Nat.add_comm 1 j] using this) (by simp only [List.length_cons] at hk; omega) (inv.set hr' hkn) hB' hK)
theorem getD_set_keep {listed : Array Bool} {j z : Nat} (h : listed.getD z true = true) : (listed.setIfInBounds j true).getD z true = true := by
  by_cases hj : j = z
  · subst hj
    rcases Nat.lt_or_ge j listed.size with h' | h'
    · simp [h']
    · simp [Array.getElem?_eq_none h']
  · rw [getD_set_ne true hj]; exact h
/-- what the head comes to, with another slot set -/
theorem wpAnyR_put {n z : Nat} {oz : Oper} {vz : Value} {L : Array Bool → Act → Prop} (hsel : ∀ (j : Nat) (o : Oper) cs b, ops[j]? = some o → o.op ≠ .select cs b)
    (hap : ∀ j oj, j < n → j ≠ z → ops[j]? = some oj → oz.apart ops oj = true) :
    ∀ (f : Nat) (listed : Array Bool) (a : Act), listed.getD z true = true → wpAnyR P md ops W0 n L f listed a →
      wpAnyR P md ops W0 n (fun l' a' => ∃ b, L l' b ∧ a' = b.put oz.dst vz) f listed (a.put oz.dst vz)
  | 0, listed, a, _, h => ⟨a, h, rfl⟩
  | f + 1, listed, a, hz, h => ⟨h.1, fun j hj => by
      obtain ⟨hjn, oj, u, hoj, hsj, Hj⟩ := h.2 j hj
      have hjz : j ≠ z := by
        intro e
        subst e
        have := (mem_ready.1 hj).1
        rw [hz] at this
        cases this
      obtain ⟨h1, h2, h3⟩ := Oper.apart_spec (hap j oj hjn hjz hoj)
      refine ⟨hjn, oj, u, hoj, steadyR_same hsj (execOp_put oj (fun cs b => hsel j oj cs b hoj) a oz.dst vz h1) (wanted_put oj a oz.dst vz h1), ?_⟩
      rw [Act.put_comm a vz u h2]
      exact wpAnyR_put hsel hap f _ _ (getD_set_keep hz) Hj⟩
theorem op_gives {o : Oper} {a : Act} {K : Act → World → Prop} {Q : Exit → Act → World → Prop} {W w' : World} {v : Value} {i : Nat} (hi : ops[i]? = some o) (hw : Region.wanted o (yielded ops a.tmps) = true)
    (h1 : (execOp a.eval o).run P W = .ok (.value v) w') (h2 : K (a.put o.dst v) w') : wpOp P ops Q i K a W := by
  unfold wpOp
  simp only [hi, hw, if_true]
  left
  unfold Oper.wp
  rw [h1]
  exact h2
theorem wpAny_alloc {n z g : Nat} {oz : Oper} {obj : Obj} {rest : List Oper} {T : Act → Prop} {Q : Exit → Act → World → Prop} (hsel : ∀ (j : Nat) (o : Oper) cs b, ops[j]? = some o → o.op ≠ .select cs b)
    (hs : Region.sinkB md ops n = true) (hc : Region.chainB md ops n = true) (hn : n < ops.size) (hz : z < n) (hoz : ops[z]? = some oz)
    (hap : ∀ j oj, j < n → j ≠ z → ops[j]? = some oj → oz.apart ops oj = true) (hw : ∀ a : Act, Region.wanted oz (yielded ops a.tmps) = true)
    (hal : ∀ (a : Act) W, (execOp a.eval oz).run P W = .ok (.value (.pointer (some ⟨W.heap.size, 0, none⟩))) (W.alloc obj))
    (hrest : ∀ j, rest[j]? = ops[n + j]?) (hg : rest.length = g)
    (hT : ∀ a', T a' → ∀ W1 W, Below W0.heap.size W0 W1 → Below (W1.alloc obj).heap.size (W1.alloc obj) W → wpList P ops Q rest (a'.put oz.dst (.pointer (some ⟨W1.heap.size, 0, none⟩))) W) :
    ∀ (f : Nat) (listed : Array Bool) (a : Act), HeadInv md ops n listed → z ∈ Region.ready md ops listed →
      wpAnyR P md ops W0 n (fun l' a' => Region.seqB md ops g n l' = true ∧ T a') f (listed.setIfInBounds z true) a →
      ∀ W, Below W0.heap.size W0 W → wpAny P md ops Q (f + 1 + g) listed a W := by
  have doz : ∀ (f : Nat) (listed : Array Bool) (a : Act), z ∈ Region.ready md ops listed →
      wpAnyR P md ops W0 n (fun l' a' => Region.seqB md ops g n l' = true ∧ T a') f (listed.setIfInBounds z true) a →
      ∀ W, Below W0.heap.size W0 W → wpOp P ops Q z (fun a' w' => wpAny P md ops Q (f + g) (listed.setIfInBounds z true) a' w') a W := by
    intro f listed a hr H W hW
    refine op_gives hoz (hw _) (hal _ _) ?_
    have hzl : (listed.setIfInBounds z true).getD z true = true := by
      rcases Nat.lt_or_ge z listed.size with h' | h'
      · simp [h']
      · simp [Array.getElem?_eq_none h']
    have hWA : Below W0.heap.size W0 (W.alloc obj) := Below.alloc hW hW.size obj
    have H2 := wpAnyR_put (vz := .pointer (some ⟨W.heap.size, 0, none⟩)) hsel hap f _ _ hzl H
    have H3 := wpAnyS_of_R (S := fun w => Below (W.alloc obj).heap.size (W.alloc obj) w) (fun w hb => hWA.trans (hb.mono hWA.size)) (fun w w' h1 h2 => h1.trans (h2.mono h1.size)) f _ _ H2
    refine wpAny_of_S (Q := Q) (g := g) (fun l' a' hL W' hW' => ?_) f _ _ H3 (W.alloc obj) (Below.refl _ _)
    obtain ⟨b, ⟨hB, hTb⟩, rfl⟩ := hL
    have := wpAny_of_seq (md := md) (Q' := Q) rest n l' _ W' hrest (by rw [hg]; exact hB) (hT b hTb W W' hW hW')
    rwa [hg] at this
  intro f
  induction f with
  | zero =>
    intro listed a inv hr H W hW
    rw [show 0 + 1 + g = (0 + g) + 1 by omega]
    refine ⟨fun h => (by rw [h] at hr; cases hr), fun j hj => ?_⟩
    by_cases hjz : j = z
    · subst hjz; exact doz 0 listed a hr H W hW
    · have h1 := seqB_ready H.1 j (ready_mono hj hjz)
      exact absurd hj (tail_waits hs hc hn inv _ z rfl hz (mem_ready.1 hr).1 j h1)
  | succ f ih =>
    intro listed a inv hr H W hW
    rw [show f + 1 + 1 + g = (f + 1 + g) + 1 by omega]
    refine ⟨fun h => (by rw [h] at hr; cases hr), fun j hj => ?_⟩
    by_cases hjz : j = z
    · subst hjz; exact doz (f + 1) listed a hr H W hW
    · obtain ⟨hjn, oj, u, hoj, hsj, Hj⟩ := H.2 j (ready_mono hj hjz)
      have hst : Steady P ops (fun w => Below W0.heap.size W0 w) oj u a := steady_of_R hsj (fun w h => h) (fun w w' h1 h2 => h1.trans (h2.mono h1.size))
      refine steady_op hoj hst hW fun w' hS' => ?_
      refine ih (listed.setIfInBounds j true) (a.put oj.dst u) (inv.set hj hjn) (ready_mono hr (Ne.symm hjz)) ?_ w' hS'
      rw [Array.setIfInBounds_comm _ _ hjz]
      exact Hj
def lexAllB (md : Region.Mode) (ops : Array Oper) (z : Nat) : Bool :=
  Region.noSelect ops && decide (z + 1 < ops.size) && Region.sinkB md ops (z + 1) && Region.chainB md ops (z + 1) && (Region.ready md ops (Array.replicate ops.size false)).contains z &&
    ((List.range z).all fun j => match ops[z]?, ops[j]? with | some oz, some oj => oz.apart ops oj | _, _ => false) &&
    lexZ md ops (ops.size - (z + 1)) (z + 1) z 0 ((Array.replicate ops.size false).setIfInBounds z true)
theorem wp_region_AL {id : Nat} {Q : Exit → Act → World → Prop} {a : Act} {w : World} {l : List Oper} (z : Nat) {oz : Oper} {rest : List Oper} {obj : Obj} (W0 : World) (hm : P.follows .mixedOrders = true) (hB : lexAllB .any l.toArray z = true)
    (hS : Below W0.heap.size W0 w.drew) (hlz : l.drop z = oz :: rest) (hw : ∀ a, Region.wanted oz (yielded l.toArray a) = true)
    (hal : ∀ (a : Act) W, (execOp a.eval oz).run P W = .ok (.value (.pointer (some ⟨W.heap.size, 0, none⟩))) (W.alloc obj))
    (h : wpHR P l.toArray W0 (fun a' => ∀ W1 W, Below W0.heap.size W0 W1 → Below (W1.alloc obj).heap.size (W1.alloc obj) W → wpList P l.toArray Q rest (a'.put oz.dst (.pointer (some ⟨W1.heap.size, 0, none⟩))) W) (l.take z) a) :
    (Code.region id l.toArray true).wp P Q a w := by
  simp only [lexAllB, Bool.and_eq_true, decide_eq_true_eq] at hB
  obtain ⟨⟨⟨⟨⟨⟨hsel, hn⟩, hs⟩, hc⟩, hr0⟩, hap⟩, hlex⟩ := hB
  have hn' : z + 1 < l.length := by simpa using hn
  have hoz : l.toArray[z]? = some oz := by
    have h0 : (l.drop z)[0]? = some oz := by rw [hlz]; rfl
    simpa [List.getElem?_drop] using h0
  have hrest : ∀ j, rest[j]? = l.toArray[z + 1 + j]? := fun j => by
    have h0 : (l.drop z)[j + 1]? = rest[j]? := by rw [hlz]; rfl
    rw [← h0]
    simp [List.getElem?_drop]
    congr 1
    omega
  have hrl : rest.length = l.toArray.size - (z + 1) := by
    have := congrArg List.length hlz
    simp at this ⊢
    omega
  have htl : (l.take z).length = z := by simp; omega
  have inv0 : HeadInv .any l.toArray (z + 1) (Array.replicate l.toArray.size false) :=
    ⟨by simp, fun j oj _ hl => (by rw [getD_replicate_false] at hl; cases hl), fun t _ ht => getD_in (by simpa using ht) (getD_replicate_false _ _)⟩
  have hr0' : z ∈ Region.ready .any l.toArray (Array.replicate l.toArray.size false) := by simpa using hr0
  have H := wpAnyR_lex (md := .any) (g := l.toArray.size - (z + 1)) hsel hs hc hn (l.take z) 0 _ a (fun j hj => by
    have hj' : j < z := by rw [htl] at hj; exact hj
    simp [List.getElem?_take, hj']) (by rw [htl]; omega) (inv0.set hr0' (by omega)) (by rw [htl]; exact hlex) h
  refine wp_region_any hm ?_
  have hap' : ∀ j oj, j < z + 1 → j ≠ z → l.toArray[j]? = some oj → oz.apart l.toArray oj = true := fun j oj hj hjz hoj => by
    have h1 := List.all_eq_true.1 hap j (List.mem_range.2 (by omega))
    simpa only [hoz, hoj] using h1
  have := wpAny_alloc (md := .any) (Q := Q) (g := l.toArray.size - (z + 1)) (rest := rest) (Region.noSelect_spec hsel) hs hc hn (by omega) hoz hap' (fun a => hw a.tmps) hal hrest hrl (fun a' hT => hT) (l.take z).length _ a inv0 hr0' H w.drew hS
  rw [htl, show z + 1 + (l.toArray.size - (z + 1)) = l.toArray.size by omega] at this
  exact this
theorem wpR_text {T : Act → Prop} {o : Oper} {rest : List Oper} {a : Act} {v : Value} (hw : Region.wanted o (yielded ops a.tmps) = true) (hy : ∀ w, Below W0.heap.size W0 w → Comes P (fun w' => Below w.heap.size w w') v ((execOp a.eval o).run P w))
    (h : wpHR P ops W0 T rest (a.put o.dst v)) : wpHR P ops W0 T (o :: rest) a := ⟨v, Or.inl ⟨hw, hy⟩, h⟩
theorem wpR_skip {T : Act → Prop} {o : Oper} {rest : List Oper} {a : Act} (hw : Region.wanted o (yielded ops a.tmps) = false)
    (h : wpHR P ops W0 T rest (a.put o.dst undef)) : wpHR P ops W0 T (o :: rest) a := ⟨undef, Or.inr ⟨hw, rfl⟩, h⟩
theorem wpR_nil {T : Act → Prop} {a : Act} (h : T a) : wpHR P ops W0 T [] a := h
end
end Go.Proofs.Ytheddoinnakneaa
/- contract: all told directions of a width that is not too great, the model -/
namespace Go.Proofs.Ytheddoinnakneaa
open Go.ChangeShapes Go.WideShapes Go.ChangeAt Go.RowKit Go.Joins
set_option linter.unusedVariables false
set_option linter.unusedSimpArgs false
set_option maxRecDepth 4000
theorem own_baseM {w : World} {base base' : Nat} {e : TypeId} {size : Nat} {v : Value} {n : Nat} {xs : List Value} (h : w.ownsRow base e size v n xs) (hb : base' ≤ base) : w.ownsRow base' e size v n xs := by
  obtain ⟨h1, h2⟩ := h
  rcases h2 with h2 | ⟨g, cap, cur, hv, hg, r⟩
  · exact ⟨h1, .inl h2⟩
  · exact ⟨h1, .inr ⟨g, cap, cur, hv, by omega, r⟩⟩
theorem prM_base {w : World} {base base' : Nat} {q : List Nat} {m : List (Int × Int)} (h : PrM w base q m) (hb : base' ≤ base) : PrM w base' q m :=
  ⟨h.len, h.nod, fun i b p h1 h2 => ⟨Nat.le_trans hb (h.at_ i b p h1 h2).1, (h.at_ i b p h1 h2).2⟩⟩
set_option maxRecDepth 100000 in
set_option maxHeartbeats 16000000 in
theorem wiAll_any (A : Option Addr) (c : Nat) (l : List (Int × Int)) (most : Nat) (w : World) (hmo : most ≤ 80) (hg : Good l) (hR : Rd w w.heap.size A l) :
    Calls Try.prog 59 #[.slice A l.length c, .int .i64 (most : Int)] w fun e w' => (∃ v, e = .returned v ∧ RowM w' w.heap.size v (dirD (wdL l) (subP (vx l 1) (vx l 0)) (subP (vx l 2) (vx l 0)) most)) ∧ Below w.heap.size w w' := by
  have hf := hg.few
  have HB := base_model hg
  have hW0 := wiWidth_any
  have KW := Lib.hid (fun u v W (h1 : -12800 ≤ u) (h2 : u ≤ 12800) (h3 : -12800 ≤ v) (h4 : v ≤ 12800) (hb : Below w.heap.size w W) => wiWidth_any A c l u v W (by omega) (by omega) (by omega) (by omega) hg (rd_more (rd_below hR hb (Nat.le_refl _)) hb.size))
  obtain ⟨b, off, rfl, hb, HC⟩ := pts_of (by omega) hR
  have pb : ∀ i, i < l.length → (-40 ≤ (vx l i).1 ∧ (vx l i).1 ≤ 40) ∧ (-40 ≤ (vx l i).2 ∧ (vx l i).2 ≤ 40) := fun i hi => by
    have := hg.pegs i hi
    unfold isPg isPegB at this
    simp only [Bool.and_eq_true, decide_eq_true_eq] at this
    omega
  obtain ⟨⟨a1, a2⟩, a3, a4⟩ := pb 0 (by omega)
  obtain ⟨⟨a5, a6⟩, a7, a8⟩ := pb 1 (by omega)
  obtain ⟨⟨a9, a10⟩, a11, a12⟩ := pb 2 (by omega)
  have HX : Hid (∀ W, Below w.heap.size w W → b < W.heap.size ∧ (W.cell? ⟨b, off, none⟩ = some (.int .i64 (vx l 0).1) ∧ W.cell? ⟨b, off + 1, none⟩ = some (.int .i64 (vx l 0).2)) ∧ (W.cell? ⟨b, off + 2, none⟩ = some (.int .i64 (vx l 1).1) ∧ W.cell? ⟨b, off + 2 + 1, none⟩ = some (.int .i64 (vx l 1).2)) ∧ (W.cell? ⟨b, off + 4, none⟩ = some (.int .i64 (vx l 2).1) ∧ W.cell? ⟨b, off + 4 + 1, none⟩ = some (.int .i64 (vx l 2).2))) := Lib.hid (fun W hW => by
    have x := HC.out W hW 0 (by omega)
    have y := HC.out W hW 1 (by omega)
    have z := HC.out W hW 2 (by omega)
    exact ⟨Nat.lt_of_lt_of_le hb hW.size, x, y, z⟩)
  have HP : Hid (subP (vx l 1) (vx l 0) = ((vx l 1).1 - (vx l 0).1, (vx l 1).2 - (vx l 0).2) ∧ subP (vx l 2) (vx l 0) = ((vx l 2).1 - (vx l 0).1, (vx l 2).2 - (vx l 0).2)) := Lib.hid ⟨rfl, rfl⟩
  have hd := HB.d
  rw [HP.out.1, HP.out.2] at hd HB ⊢
  generalize (vx l 0).1 = x0 at *
  generalize (vx l 0).2 = y0 at *
  generalize (vx l 1).1 = x1 at *
  generalize (vx l 1).2 = y1 at *
  generalize (vx l 2).1 = x2 at *
  generalize (vx l 2).2 = y2 at *
  have r1 : IntKind.i64.wrap (x1 - x0) = x1 - x0 := IntWalk.i64_in _ (by omega)
  have r2 : IntKind.i64.wrap (y1 - y0) = y1 - y0 := IntWalk.i64_in _ (by omega)
  have r3 : IntKind.i64.wrap (x2 - x0) = x2 - x0 := IntWalk.i64_in _ (by omega)
  have r4 : IntKind.i64.wrap (y2 - y0) = y2 - y0 := IntWalk.i64_in _ (by omega)
  have bp1 : -80 ≤ x1 - x0 ∧ x1 - x0 ≤ 80 := by omega
  have bp2 : -80 ≤ y1 - y0 ∧ y1 - y0 ≤ 80 := by omega
  have bq1 : -80 ≤ x2 - x0 ∧ x2 - x0 ≤ 80 := by omega
  have bq2 : -80 ≤ y2 - y0 ∧ y2 - y0 ≤ 80 := by omega
  have h1n : (1 : Int) < (l.length : Int) := by omega
  have h2n : (2 : Int) < (l.length : Int) := by omega
  have h0n : (0 : Int) < (l.length : Int) := by omega
  have g0n : 0 < l.length := by omega
  have g1n : 1 < l.length := by omega
  have g2n : 2 < l.length := by omega
  have hw : Hid (wdL l = wdL l) := Lib.hid rfl
  have HWd : Hid (∀ u v, hiW l u v l.length - loW l u v l.length = wdL l u v) := Lib.hid (fun u v => rfl)
  clear hR hg hf pb HC hW0 HP hb a1 a2 a3 a4 a5 a6 a7 a8 a9 a10 a11 a12
  generalize hp1 : x1 - x0 = P1 at *
  generalize hp2 : y1 - y0 = P2 at *
  generalize hq1 : x2 - x0 = Q1 at *
  generalize hq2 : y2 - y0 = Q2 at *
  have HS := Lib.hid (And.intro (And.intro hp1 hp2) (And.intro hq1 hq2))
  generalize hN : l.length = n at *
  clear hN hw
  obtain ⟨bx, X0, X1, X2⟩ := HX.out w (Below.refl _ _)
  obtain ⟨c0, c1⟩ := X0
  obtain ⟨c2, c3⟩ := X1
  clear X2
  go_enter Try.func59, Try.ntmps59
  go_wp2_with fail
  refine wp_region_AL 19 (w) (obj := .cells #[.int .i64 0, .int .i64 0] 56) (by kernel_rfl) (by kernel_rfl) (by repeat (first | exact Below.refl _ _ | apply Below.drew)) rfl (fun _ => by rfl) (fun _ _ => by first | rfl | go_simp) ?_
  simp only [List.take_succ_cons, List.take_zero, List.drop_succ_cons, List.drop_zero]
  first | refine wpR_skip (by rfl) ?_ | (refine wpR_text (v := ?_) (by rfl) (fun W k1 => ?_) ?_; rotate_left; (obtain ⟨hc1, hf1⟩ := bcell k1;  go_simp; refine comes_v ?_; exact Below.refl _ _))
  (try simp only [Act.put, List.setIfInBounds_toArray, List.set_cons_zero, List.set_cons_succ])
  first | refine wpR_skip (by rfl) ?_ | (refine wpR_text (v := ?_) (by rfl) (fun W k1 => ?_) ?_; rotate_left; (obtain ⟨hc1, hf1⟩ := bcell k1;  go_simp; refine comes_v ?_; exact Below.refl _ _))
  (try simp only [Act.put, List.setIfInBounds_toArray, List.set_cons_zero, List.set_cons_succ])
  first | refine wpR_skip (by rfl) ?_ | (refine wpR_text (v := ?_) (by rfl) (fun W k1 => ?_) ?_; rotate_left; (obtain ⟨hc1, hf1⟩ := bcell k1;  go_simp; refine comes_v ?_; exact Below.refl _ _))
  (try simp only [Act.put, List.setIfInBounds_toArray, List.set_cons_zero, List.set_cons_succ])
  first | refine wpR_skip (by rfl) ?_ | (refine wpR_text (v := ?_) (by rfl) (fun W k1 => ?_) ?_; rotate_left; (obtain ⟨hc1, hf1⟩ := bcell k1;  go_simp; refine comes_v ?_; exact Below.refl _ _))
  (try simp only [Act.put, List.setIfInBounds_toArray, List.set_cons_zero, List.set_cons_succ])
  first | refine wpR_skip (by rfl) ?_ | (refine wpR_text (v := ?_) (by rfl) (fun W k1 => ?_) ?_; rotate_left; (obtain ⟨hc1, hf1⟩ := bcell k1;  go_simp; refine comes_v ?_; exact Below.refl _ _))
  (try simp only [Act.put, List.setIfInBounds_toArray, List.set_cons_zero, List.set_cons_succ])
  first | refine wpR_skip (by rfl) ?_ | (refine wpR_text (v := ?_) (by rfl) (fun W k1 => ?_) ?_; rotate_left; (obtain ⟨hc1, hf1⟩ := bcell k1;  go_simp; refine comes_v ?_; exact Below.refl _ _))
  (try simp only [Act.put, List.setIfInBounds_toArray, List.set_cons_zero, List.set_cons_succ])
  first | refine wpR_skip (by rfl) ?_ | (refine wpR_text (v := ?_) (by rfl) (fun W k1 => ?_) ?_; rotate_left; (obtain ⟨hc1, hf1⟩ := bcell k1;  go_simp; refine comes_v ?_; exact Below.refl _ _))
  (try simp only [Act.put, List.setIfInBounds_toArray, List.set_cons_zero, List.set_cons_succ])
  first | refine wpR_skip (by rfl) ?_ | (refine wpR_text (v := ?_) (by rfl) (fun W k1 => ?_) ?_; rotate_left; (obtain ⟨hc1, hf1⟩ := bcell k1;  go_simp; refine comes_v ?_; exact Below.refl _ _))
  (try simp only [Act.put, List.setIfInBounds_toArray, List.set_cons_zero, List.set_cons_succ])
  first | refine wpR_skip (by rfl) ?_ | (refine wpR_text (v := ?_) (by rfl) (fun W k1 => ?_) ?_; rotate_left; (obtain ⟨hc1, hf1⟩ := bcell k1;  go_simp; refine comes_v ?_; exact Below.refl _ _))
  (try simp only [Act.put, List.setIfInBounds_toArray, List.set_cons_zero, List.set_cons_succ])
  first | refine wpR_skip (by rfl) ?_ | (refine wpR_text (v := ?_) (by rfl) (fun W k1 => ?_) ?_; rotate_left; (obtain ⟨hc1, hf1⟩ := bcell k1;  go_simp; refine comes_v ?_; exact Below.refl _ _))
  (try simp only [Act.put, List.setIfInBounds_toArray, List.set_cons_zero, List.set_cons_succ])
  first | refine wpR_skip (by rfl) ?_ | (refine wpR_text (v := ?_) (by rfl) (fun W k1 => ?_) ?_; rotate_left; (obtain ⟨hc1, hf1⟩ := bcell k1;  go_simp; refine comes_v ?_; exact Below.refl _ _))
  (try simp only [Act.put, List.setIfInBounds_toArray, List.set_cons_zero, List.set_cons_succ])
  first | refine wpR_skip (by rfl) ?_ | (refine wpR_text (v := ?_) (by rfl) (fun W k1 => ?_) ?_; rotate_left; (obtain ⟨hc1, hf1⟩ := bcell k1;  go_simp; refine comes_v ?_; exact Below.refl _ _))
  (try simp only [Act.put, List.setIfInBounds_toArray, List.set_cons_zero, List.set_cons_succ])
  first | refine wpR_skip (by rfl) ?_ | (refine wpR_text (v := ?_) (by rfl) (fun W k1 => ?_) ?_; rotate_left; (obtain ⟨hc1, hf1⟩ := bcell k1;  go_simp; refine comes_v ?_; exact Below.refl _ _))
  (try simp only [Act.put, List.setIfInBounds_toArray, List.set_cons_zero, List.set_cons_succ])
  first | refine wpR_skip (by rfl) ?_ | (refine wpR_text (v := ?_) (by rfl) (fun W k1 => ?_) ?_; rotate_left; (obtain ⟨hc1, hf1⟩ := bcell k1;  go_simp; refine comes_v ?_; exact Below.refl _ _))
  (try simp only [Act.put, List.setIfInBounds_toArray, List.set_cons_zero, List.set_cons_succ])
  first | refine wpR_skip (by rfl) ?_ | (refine wpR_text (v := ?_) (by rfl) (fun W k1 => ?_) ?_; rotate_left; (obtain ⟨hc1, hf1⟩ := bcell k1;  go_simp; refine comes_v ?_; exact Below.refl _ _))
  (try simp only [Act.put, List.setIfInBounds_toArray, List.set_cons_zero, List.set_cons_succ])
  first | refine wpR_skip (by rfl) ?_ | (refine wpR_text (v := ?_) (by rfl) (fun W k1 => ?_) ?_; rotate_left; (obtain ⟨hc1, hf1⟩ := bcell k1;  go_simp; refine comes_v ?_; exact Below.refl _ _))
  (try simp only [Act.put, List.setIfInBounds_toArray, List.set_cons_zero, List.set_cons_succ])
  first | refine wpR_skip (by rfl) ?_ | (refine wpR_text (v := ?_) (by rfl) (fun W k1 => ?_) ?_; rotate_left; (obtain ⟨hc1, hf1⟩ := bcell k1;  go_simp; refine comes_v ?_; exact Below.refl _ _))
  (try simp only [Act.put, List.setIfInBounds_toArray, List.set_cons_zero, List.set_cons_succ])
  first | refine wpR_skip (by rfl) ?_ | (refine wpR_text (v := ?_) (by rfl) (fun W k1 => ?_) ?_; rotate_left; (obtain ⟨hc1, hf1⟩ := bcell k1;  go_simp; refine comes_v ?_; exact Below.refl _ _))
  (try simp only [Act.put, List.setIfInBounds_toArray, List.set_cons_zero, List.set_cons_succ])
  first | refine wpR_skip (by rfl) ?_ | (refine wpR_text (v := ?_) (by rfl) (fun W k1 => ?_) ?_; rotate_left; (obtain ⟨hc1, hf1⟩ := bcell k1;  go_simp; refine comes_v ?_; exact Below.refl _ _))
  (try simp only [Act.put, List.setIfInBounds_toArray, List.set_cons_zero, List.set_cons_succ])
  refine wpR_nil ?_
  intro W1 W k1 k2
  (try simp only [Act.put, List.setIfInBounds_toArray, List.set_cons_zero, List.set_cons_succ])
  clear c0 c1 c2 c3 bx
  have NA := bx2_new W1 0 0 56
  have BA0 := Below.alloc k1 k1.size (.cells #[.int .i64 0, .int .i64 0] 56)
  have BA := BA0.trans (k2.mono BA0.size)
  have NB := bx2_below NA k2
  have hlo := k1.size
  obtain ⟨gA, hgA⟩ : ∃ g, g = W1.heap.size := ⟨_, rfl⟩
  rw [← hgA] at NB hlo ⊢
  have NS := Lib.hid (bx2_store NB P1 P2)
  have BS := Lib.hid ((BA.setCell (p := ⟨gA, 0, none⟩) hlo (.int .i64 P1)).setCell (p := ⟨gA, 1, none⟩) hlo (.int .i64 P2))
  have z0 := NB.z
  have z1 := NB.c0
  have z2 := NB.c1
  have z3 := NB.fz 0
  have z4 := NB.fz 1
  clear NA NB BA0 BA k1 k2 hgA
  go_wp2_with fail
  have NA1 := NS.out
  have NA1B := BS.out
  clear NS BS z0 z1 z2 z3 z4
  generalize ((W.setCell ⟨gA, 0, none⟩ (.int .i64 P1)).setCell ⟨gA, 1, none⟩ (.int .i64 P2)) = NA1W at NA1 NA1B ⊢
  have HNA := Lib.hid NA1
  clear NA1 hlo
  obtain ⟨bx, ⟨c0, c1⟩, _, c4, c5⟩ := HX.out NA1W NA1B
  refine wp_region_AL 19 (NA1W) (obj := .cells #[.int .i64 0, .int .i64 0] 56) (by kernel_rfl) (by kernel_rfl) (by repeat (first | exact Below.refl _ _ | apply Below.drew)) rfl (fun _ => by rfl) (fun _ _ => by first | rfl | go_simp) ?_
  simp only [List.take_succ_cons, List.take_zero, List.drop_succ_cons, List.drop_zero]
  first | refine wpR_skip (by rfl) ?_ | (refine wpR_text (v := ?_) (by rfl) (fun W k1 => ?_) ?_; rotate_left; (obtain ⟨hc1, hf1⟩ := bcell k1;  go_simp; refine comes_v ?_; exact Below.refl _ _))
  (try simp only [Act.put, List.setIfInBounds_toArray, List.set_cons_zero, List.set_cons_succ])
  first | refine wpR_skip (by rfl) ?_ | (refine wpR_text (v := ?_) (by rfl) (fun W k1 => ?_) ?_; rotate_left; (obtain ⟨hc1, hf1⟩ := bcell k1;  go_simp; refine comes_v ?_; exact Below.refl _ _))
  (try simp only [Act.put, List.setIfInBounds_toArray, List.set_cons_zero, List.set_cons_succ])
  first | refine wpR_skip (by rfl) ?_ | (refine wpR_text (v := ?_) (by rfl) (fun W k1 => ?_) ?_; rotate_left; (obtain ⟨hc1, hf1⟩ := bcell k1;  go_simp; refine comes_v ?_; exact Below.refl _ _))
  (try simp only [Act.put, List.setIfInBounds_toArray, List.set_cons_zero, List.set_cons_succ])
  first | refine wpR_skip (by rfl) ?_ | (refine wpR_text (v := ?_) (by rfl) (fun W k1 => ?_) ?_; rotate_left; (obtain ⟨hc1, hf1⟩ := bcell k1;  go_simp; refine comes_v ?_; exact Below.refl _ _))
  (try simp only [Act.put, List.setIfInBounds_toArray, List.set_cons_zero, List.set_cons_succ])
  first | refine wpR_skip (by rfl) ?_ | (refine wpR_text (v := ?_) (by rfl) (fun W k1 => ?_) ?_; rotate_left; (obtain ⟨hc1, hf1⟩ := bcell k1;  go_simp; refine comes_v ?_; exact Below.refl _ _))
  (try simp only [Act.put, List.setIfInBounds_toArray, List.set_cons_zero, List.set_cons_succ])
  first | refine wpR_skip (by rfl) ?_ | (refine wpR_text (v := ?_) (by rfl) (fun W k1 => ?_) ?_; rotate_left; (obtain ⟨hc1, hf1⟩ := bcell k1;  go_simp; refine comes_v ?_; exact Below.refl _ _))
  (try simp only [Act.put, List.setIfInBounds_toArray, List.set_cons_zero, List.set_cons_succ])
  first | refine wpR_skip (by rfl) ?_ | (refine wpR_text (v := ?_) (by rfl) (fun W k1 => ?_) ?_; rotate_left; (obtain ⟨hc1, hf1⟩ := bcell k1;  go_simp; refine comes_v ?_; exact Below.refl _ _))
  (try simp only [Act.put, List.setIfInBounds_toArray, List.set_cons_zero, List.set_cons_succ])
  first | refine wpR_skip (by rfl) ?_ | (refine wpR_text (v := ?_) (by rfl) (fun W k1 => ?_) ?_; rotate_left; (obtain ⟨hc1, hf1⟩ := bcell k1;  go_simp; refine comes_v ?_; exact Below.refl _ _))
  (try simp only [Act.put, List.setIfInBounds_toArray, List.set_cons_zero, List.set_cons_succ])
  first | refine wpR_skip (by rfl) ?_ | (refine wpR_text (v := ?_) (by rfl) (fun W k1 => ?_) ?_; rotate_left; (obtain ⟨hc1, hf1⟩ := bcell k1;  go_simp; refine comes_v ?_; exact Below.refl _ _))
  (try simp only [Act.put, List.setIfInBounds_toArray, List.set_cons_zero, List.set_cons_succ])
  first | refine wpR_skip (by rfl) ?_ | (refine wpR_text (v := ?_) (by rfl) (fun W k1 => ?_) ?_; rotate_left; (obtain ⟨hc1, hf1⟩ := bcell k1;  go_simp; refine comes_v ?_; exact Below.refl _ _))
  (try simp only [Act.put, List.setIfInBounds_toArray, List.set_cons_zero, List.set_cons_succ])
  first | refine wpR_skip (by rfl) ?_ | (refine wpR_text (v := ?_) (by rfl) (fun W k1 => ?_) ?_; rotate_left; (obtain ⟨hc1, hf1⟩ := bcell k1;  go_simp; refine comes_v ?_; exact Below.refl _ _))
  (try simp only [Act.put, List.setIfInBounds_toArray, List.set_cons_zero, List.set_cons_succ])
  first | refine wpR_skip (by rfl) ?_ | (refine wpR_text (v := ?_) (by rfl) (fun W k1 => ?_) ?_; rotate_left; (obtain ⟨hc1, hf1⟩ := bcell k1;  go_simp; refine comes_v ?_; exact Below.refl _ _))
  (try simp only [Act.put, List.setIfInBounds_toArray, List.set_cons_zero, List.set_cons_succ])
  first | refine wpR_skip (by rfl) ?_ | (refine wpR_text (v := ?_) (by rfl) (fun W k1 => ?_) ?_; rotate_left; (obtain ⟨hc1, hf1⟩ := bcell k1;  go_simp; refine comes_v ?_; exact Below.refl _ _))
  (try simp only [Act.put, List.setIfInBounds_toArray, List.set_cons_zero, List.set_cons_succ])
  first | refine wpR_skip (by rfl) ?_ | (refine wpR_text (v := ?_) (by rfl) (fun W k1 => ?_) ?_; rotate_left; (obtain ⟨hc1, hf1⟩ := bcell k1;  go_simp; refine comes_v ?_; exact Below.refl _ _))
  (try simp only [Act.put, List.setIfInBounds_toArray, List.set_cons_zero, List.set_cons_succ])
  first | refine wpR_skip (by rfl) ?_ | (refine wpR_text (v := ?_) (by rfl) (fun W k1 => ?_) ?_; rotate_left; (obtain ⟨hc1, hf1⟩ := bcell k1;  go_simp; refine comes_v ?_; exact Below.refl _ _))
  (try simp only [Act.put, List.setIfInBounds_toArray, List.set_cons_zero, List.set_cons_succ])
  first | refine wpR_skip (by rfl) ?_ | (refine wpR_text (v := ?_) (by rfl) (fun W k1 => ?_) ?_; rotate_left; (obtain ⟨hc1, hf1⟩ := bcell k1;  go_simp; refine comes_v ?_; exact Below.refl _ _))
  (try simp only [Act.put, List.setIfInBounds_toArray, List.set_cons_zero, List.set_cons_succ])
  first | refine wpR_skip (by rfl) ?_ | (refine wpR_text (v := ?_) (by rfl) (fun W k1 => ?_) ?_; rotate_left; (obtain ⟨hc1, hf1⟩ := bcell k1;  go_simp; refine comes_v ?_; exact Below.refl _ _))
  (try simp only [Act.put, List.setIfInBounds_toArray, List.set_cons_zero, List.set_cons_succ])
  first | refine wpR_skip (by rfl) ?_ | (refine wpR_text (v := ?_) (by rfl) (fun W k1 => ?_) ?_; rotate_left; (obtain ⟨hc1, hf1⟩ := bcell k1;  go_simp; refine comes_v ?_; exact Below.refl _ _))
  (try simp only [Act.put, List.setIfInBounds_toArray, List.set_cons_zero, List.set_cons_succ])
  first | refine wpR_skip (by rfl) ?_ | (refine wpR_text (v := ?_) (by rfl) (fun W k1 => ?_) ?_; rotate_left; (obtain ⟨hc1, hf1⟩ := bcell k1;  go_simp; refine comes_v ?_; exact Below.refl _ _))
  (try simp only [Act.put, List.setIfInBounds_toArray, List.set_cons_zero, List.set_cons_succ])
  refine wpR_nil ?_
  intro W1 W k1 k2
  (try simp only [Act.put, List.setIfInBounds_toArray, List.set_cons_zero, List.set_cons_succ])
  clear c0 c1 c4 c5 bx
  have NA := bx2_new W1 0 0 56
  have BA0 := Below.alloc k1 k1.size (.cells #[.int .i64 0, .int .i64 0] 56)
  have BA := BA0.trans (k2.mono BA0.size)
  have NB := bx2_below NA k2
  have hlo := k1.size
  have HNAW := bx2_below HNA.out BA
  have hza := HNA.out.z
  obtain ⟨gB, hgB⟩ : ∃ g, g = W1.heap.size := ⟨_, rfl⟩
  rw [← hgB] at NB hlo ⊢
  have NS := Lib.hid (bx2_store NB Q1 Q2)
  have BS := Lib.hid ((BA.setCell (p := ⟨gB, 0, none⟩) hlo (.int .i64 Q1)).setCell (p := ⟨gB, 1, none⟩) hlo (.int .i64 Q2))
  have z0 := NB.z
  have z1 := NB.c0
  have z2 := NB.c1
  have z3 := NB.fz 0
  have z4 := NB.fz 1
  have gAB : gA ≠ gB := by omega
  have gBA : gB ≠ gA := Ne.symm gAB
  have u0 := HNAW.c0
  have u1 := HNAW.c1
  have uz := HNAW.z
  have m1 := mul_bd (x := P1) (y := Q2) (m := 80) (n := 80) bp1.1 bp1.2 bq2.1 bq2.2
  have m2 := mul_bd (x := P2) (y := Q1) (m := 80) (n := 80) bp2.1 bp2.2 bq1.1 bq1.2
  have e1 : IntKind.i64.wrap (P1 * Q2) = P1 * Q2 := IntWalk.i64_in _ (by omega)
  have e2 : IntKind.i64.wrap (P2 * Q1) = P2 * Q1 := IntWalk.i64_in _ (by omega)
  have e3 : IntKind.i64.wrap (P1 * Q2 - P2 * Q1) = P1 * Q2 - P2 * Q1 := IntWalk.i64_in _ (by omega)
  have hdd : P1 * Q2 - P2 * Q1 ≠ 0 := hd
  have mb : -12800 ≤ P1 * Q2 - P2 * Q1 ∧ P1 * Q2 - P2 * Q1 ≤ 12800 := by omega
  have em : IntKind.i64.wrap (-(most : Int)) = -(most : Int) := IntWalk.i64_in _ (by omega)
  clear NA NB BA0 BA k1 k2 hgB m1 m2 HNAW hza
  go_wp2_with fail
  have HNB := NS.out
  have BS1 := BS.out
  clear NS BS z0 z1 z2 z3 z4 u0 u1 uz hlo
  generalize ((W.setCell ⟨gB, 0, none⟩ (.int .i64 Q1)).setCell ⟨gB, 1, none⟩ (.int .i64 Q2)) = w3 at HNB BS1 ⊢
  have HNA2 := Lib.hid (bx2_below HNA.out BS1)
  have HNB := Lib.hid HNB
  have B3 := NA1B.trans (BS1.mono NA1B.size)
  clear HNA BS1 NA1B e1 e2 e3 em
  have hds : detP (P1, P2) (Q1, Q2) ≠ 0 := hd
  have HXY : Hid (∀ m n, soX (P1, P2) (Q1, Q2) m n = m * Q2 - n * P2 ∧ soY (P1, P2) (Q1, Q2) m n = n * P1 - m * Q1) := Lib.hid (fun m n => ⟨rfl, rfl⟩)
  have HBD := Lib.hid (fun m n h1 h2 => so_bd (p := (P1, P2)) (q := (Q1, Q2)) (m := m) (n := n) ⟨bp1, bp2⟩ ⟨bq1, bq2⟩ h1 h2)
  have HNo := Lib.hid (fun m n h => dirO_none (W := wdL l) (most := (most : Int)) (p := (P1, P2)) (q := (Q1, Q2)) (m := m) (n := n) h)
  have HSo := Lib.hid (fun m n u v h1 h2 hu hv => dirO_some (W := wdL l) (most := (most : Int)) (p := (P1, P2)) (q := (Q1, Q2)) (m := m) (n := n) (u := u) (v := v) h1 h2 hu hv)
  have HU := Lib.hid (fun i j => dirU_succ (wdL l) most (P1, P2) (Q1, Q2) i j)
  have HU0 := Lib.hid (fun i => dirU_zero (wdL l) most (P1, P2) (Q1, Q2) i)
  have HUA := Lib.hid (fun i => dirU_all (wdL l) most (P1, P2) (Q1, Q2) i)
  have HUN := Lib.hid (fun i j (hj : j < 2 * most + 1) t ht => dirU_new (W := wdL l) (most := most) (p := (P1, P2)) (q := (Q1, Q2)) hds (i := i) hj (t := t) ht)
  have HUD := Lib.hid (fun i j (hj : j ≤ 2 * most + 1) => srt_sorted (dirU_nodup (W := wdL l) (most := most) (p := (P1, P2)) (q := (Q1, Q2)) hds (i := i) hj))
  have HUL := Lib.hid (fun i j (hi : i ≤ 2 * most + 1) (hj : j ≤ 2 * most + 1) => dirU_len (W := wdL l) (p := (P1, P2)) (q := (Q1, Q2)) hmo hi hj)
  obtain ⟨t0, hi0, hz0, hz1, hz2⟩ := info_parts2 ints_info
  have HI := Lib.hid (And.intro hi0 (And.intro hz0 (And.intro hz1 hz2)))
  clear hi0 hz0 hz1 hz2
  have HA0 : Hid (srt (dirAll (wdL l) most (P1, P2) (Q1, Q2) 0) = []) := Lib.hid rfl
  have HDD : Hid (dirD (wdL l) (P1, P2) (Q1, Q2) most = srt (dirAll (wdL l) most (P1, P2) (Q1, Q2) (2 * most + 1))) := Lib.hid rfl
  rw [show detP (P1, P2) (Q1, Q2) = P1 * Q2 - P2 * Q1 from rfl] at HNo HSo
  generalize dirAll (wdL l) most (P1, P2) (Q1, Q2) = SA at *
  generalize dirU (wdL l) most (P1, P2) (Q1, Q2) = SU at *
  generalize dirO (wdL l) (most : Int) (P1, P2) (Q1, Q2) = SO at *
  generalize soX (P1, P2) (Q1, Q2) = fX at *
  generalize soY (P1, P2) (Q1, Q2) = fY at *
  generalize P1 * Q2 - P2 * Q1 = D at *
  clear hd hds HX HS hp1 hp2 hq1 hq2 r1 r2 r3 r4 h1n h2n h0n g0n g1n g2n
  go_loopg [8, 9] (2 * most + 1) (fun g o mm wr => ∃ (i : Nat) (vv : Value), vv = o ∧ i ≤ 2 * most + 1 ∧ g = 2 * most + 1 - i ∧ mm = .int .i64 ((i : Int) - (most : Int)) ∧ Below w3.heap.size w3 wr ∧ Hid (RowM wr w3.heap.size vv (srt (SA i))))
  case atStart => exact ⟨0, _, rfl, Nat.zero_le _, rfl, by rw [show ((0 : Nat) : Int) - (most : Int) = -(most : Int) by omega], Below.refl _ _, Lib.hid (by rw [HA0.out]; exact rowM_nil _ _)⟩
  case round =>
    obtain ⟨i, vv, rfl, hi, hgi, rfl, hB, hr⟩ := hrel
    rename World => wo
    have HGI := Lib.hid hgi
    clear hgi
    have em : IntKind.i64.wrap (-(most : Int)) = -(most : Int) := IntWalk.i64_in _ (by omega)
    by_cases hlt : i < 2 * most + 1
    · have d1 : (i : Int) - (most : Int) ≤ (most : Int) := by omega
      have hr1 : Hid (RowM wo w3.heap.size vv (srt (SU i 0))) := Lib.hid (by rw [HU0.out]; exact hr.out)
      clear hr
      go_wp2_with fail
      go_loopg [8, 10] (2 * most + 1) (fun g o mm wr => ∃ (j : Nat) (vv : Value), vv = o ∧ j ≤ 2 * most + 1 ∧ g = 2 * most + 1 - j ∧ mm = .int .i64 ((j : Int) - (most : Int)) ∧ Below w3.heap.size w3 wr ∧ Hid (RowM wr w3.heap.size vv (srt (SU i j))))
      case atStart => exact ⟨0, _, rfl, Nat.zero_le _, rfl, by rw [show ((0 : Nat) : Int) - (most : Int) = -(most : Int) by omega], hB, hr1⟩
      case round =>
        clear hr1 hB vv
        obtain ⟨j, vv, rfl, hj, hgj, rfl, hB, hr⟩ := hrel
        rename World => wi
        have HGJ := Lib.hid hgj
        clear hgj
        by_cases hlj : j < 2 * most + 1
        · have d2 : (j : Int) - (most : Int) ≤ (most : Int) := by omega
          have hm : -80 ≤ (i : Int) - (most : Int) ∧ (i : Int) - (most : Int) ≤ 80 := by omega
          have hn : -80 ≤ (j : Int) - (most : Int) ∧ (j : Int) - (most : Int) ≤ 80 := by omega
          obtain ⟨⟨⟨b1, b2⟩, b3, b4⟩, ⟨b5, b6⟩, b7, b8⟩ := HBD.out _ _ hm hn
          try simp only at b1 b2 b3 b4 b5 b6 b7 b8
          obtain ⟨x1, x2⟩ := HXY.out ((i : Int) - (most : Int)) ((j : Int) - (most : Int))
          have HN1 := Lib.hid (HNo.out ((i : Int) - (most : Int)) ((j : Int) - (most : Int)))
          have HS1 := Lib.hid (HSo.out ((i : Int) - (most : Int)) ((j : Int) - (most : Int)))
          have HU1 := Lib.hid (HU.out i j)
          have HW1 := Lib.hid (HUN.out i j hlj)
          have HD1 := Lib.hid (HUD.out i j (by omega))
          have t1 : IntKind.i64.wrap (((i : Int) - (most : Int)) * Q2) = ((i : Int) - (most : Int)) * Q2 := IntWalk.i64_in _ (by omega)
          have t2 : IntKind.i64.wrap (((j : Int) - (most : Int)) * P2) = ((j : Int) - (most : Int)) * P2 := IntWalk.i64_in _ (by omega)
          have t3 : IntKind.i64.wrap (((j : Int) - (most : Int)) * P1) = ((j : Int) - (most : Int)) * P1 := IntWalk.i64_in _ (by omega)
          have t4 : IntKind.i64.wrap (((i : Int) - (most : Int)) * Q1) = ((i : Int) - (most : Int)) * Q1 := IntWalk.i64_in _ (by omega)
          have t5 : IntKind.i64.wrap (((i : Int) - (most : Int)) * Q2 - ((j : Int) - (most : Int)) * P2) = ((i : Int) - (most : Int)) * Q2 - ((j : Int) - (most : Int)) * P2 := IntWalk.i64_in _ (by omega)
          have t6 : IntKind.i64.wrap (((j : Int) - (most : Int)) * P1 - ((i : Int) - (most : Int)) * Q1) = ((j : Int) - (most : Int)) * P1 - ((i : Int) - (most : Int)) * Q1 := IntWalk.i64_in _ (by omega)
          have NA := bx2_below HNA2.out hB
          have NB := bx2_below HNB.out hB
          have u0 := NA.c0
          have u1 := NA.c1
          have uz := NA.z
          have v0 := NB.c0
          have v1 := NB.c1
          have vz := NB.z
          clear NA NB hm hn
          go_wp2_with fail
          refine wp_region_B (fun W => Below wi.heap.size wi W) (by kernel_rfl) (by repeat (first | exact Below.refl _ _ | apply Below.drew)) ?_
          first | refine wpB_skip 0 rfl (by kernel_rfl) (by kernel_rfl) (by kernel_rfl) (by rfl) ?_ | (refine wpB_text 0 (v := ?_) rfl (by kernel_rfl) (by kernel_rfl) (by kernel_rfl) (by rfl) (fun W hW => ?_) ?_; rotate_left; (have k1 := hW; obtain ⟨hc1, hf1⟩ := bcell k1; go_simp; refine comes_v ?_; exact k1))
          (try simp only [Act.put, List.setIfInBounds_toArray, List.set_cons_zero, List.set_cons_succ])
          first | refine wpB_skip 1 rfl (by kernel_rfl) (by kernel_rfl) (by kernel_rfl) (by rfl) ?_ | (refine wpB_text 1 (v := ?_) rfl (by kernel_rfl) (by kernel_rfl) (by kernel_rfl) (by rfl) (fun W hW => ?_) ?_; rotate_left; (have k1 := hW; obtain ⟨hc1, hf1⟩ := bcell k1; go_simp; refine comes_v ?_; exact k1))
          (try simp only [Act.put, List.setIfInBounds_toArray, List.set_cons_zero, List.set_cons_succ])
          first | refine wpB_skip 2 rfl (by kernel_rfl) (by kernel_rfl) (by kernel_rfl) (by rfl) ?_ | (refine wpB_text 2 (v := ?_) rfl (by kernel_rfl) (by kernel_rfl) (by kernel_rfl) (by rfl) (fun W hW => ?_) ?_; rotate_left; (have k1 := hW; obtain ⟨hc1, hf1⟩ := bcell k1; go_simp; refine comes_v ?_; exact k1))
          (try simp only [Act.put, List.setIfInBounds_toArray, List.set_cons_zero, List.set_cons_succ])
          first | refine wpB_skip 3 rfl (by kernel_rfl) (by kernel_rfl) (by kernel_rfl) (by rfl) ?_ | (refine wpB_text 3 (v := ?_) rfl (by kernel_rfl) (by kernel_rfl) (by kernel_rfl) (by rfl) (fun W hW => ?_) ?_; rotate_left; (have k1 := hW; obtain ⟨hc1, hf1⟩ := bcell k1; go_simp; refine comes_v ?_; exact k1))
          (try simp only [Act.put, List.setIfInBounds_toArray, List.set_cons_zero, List.set_cons_succ])
          first | refine wpB_skip 4 rfl (by kernel_rfl) (by kernel_rfl) (by kernel_rfl) (by rfl) ?_ | (refine wpB_text 4 (v := ?_) rfl (by kernel_rfl) (by kernel_rfl) (by kernel_rfl) (by rfl) (fun W hW => ?_) ?_; rotate_left; (have k1 := hW; obtain ⟨hc1, hf1⟩ := bcell k1; go_simp; refine comes_v ?_; exact k1))
          (try simp only [Act.put, List.setIfInBounds_toArray, List.set_cons_zero, List.set_cons_succ])
          first | refine wpB_skip 5 rfl (by kernel_rfl) (by kernel_rfl) (by kernel_rfl) (by rfl) ?_ | (refine wpB_text 5 (v := ?_) rfl (by kernel_rfl) (by kernel_rfl) (by kernel_rfl) (by rfl) (fun W hW => ?_) ?_; rotate_left; (have k1 := hW; obtain ⟨hc1, hf1⟩ := bcell k1; go_simp; refine comes_v ?_; exact k1))
          (try simp only [Act.put, List.setIfInBounds_toArray, List.set_cons_zero, List.set_cons_succ])
          first | refine wpB_skip 6 rfl (by kernel_rfl) (by kernel_rfl) (by kernel_rfl) (by rfl) ?_ | (refine wpB_text 6 (v := ?_) rfl (by kernel_rfl) (by kernel_rfl) (by kernel_rfl) (by rfl) (fun W hW => ?_) ?_; rotate_left; (have k1 := hW; obtain ⟨hc1, hf1⟩ := bcell k1; go_simp; refine comes_v ?_; exact k1))
          (try simp only [Act.put, List.setIfInBounds_toArray, List.set_cons_zero, List.set_cons_succ])
          first | refine wpB_skip 7 rfl (by kernel_rfl) (by kernel_rfl) (by kernel_rfl) (by rfl) ?_ | (refine wpB_text 7 (v := ?_) rfl (by kernel_rfl) (by kernel_rfl) (by kernel_rfl) (by rfl) (fun W hW => ?_) ?_; rotate_left; (have k1 := hW; obtain ⟨hc1, hf1⟩ := bcell k1; go_simp; refine comes_v ?_; exact k1))
          (try simp only [Act.put, List.setIfInBounds_toArray, List.set_cons_zero, List.set_cons_succ])
          first | refine wpB_skip 8 rfl (by kernel_rfl) (by kernel_rfl) (by kernel_rfl) (by rfl) ?_ | (refine wpB_text 8 (v := ?_) rfl (by kernel_rfl) (by kernel_rfl) (by kernel_rfl) (by rfl) (fun W hW => ?_) ?_; rotate_left; (have k1 := hW; obtain ⟨hc1, hf1⟩ := bcell k1; go_simp; refine comes_v ?_; exact k1))
          (try simp only [Act.put, List.setIfInBounds_toArray, List.set_cons_zero, List.set_cons_succ])
          first | refine wpB_skip 9 rfl (by kernel_rfl) (by kernel_rfl) (by kernel_rfl) (by rfl) ?_ | (refine wpB_text 9 (v := ?_) rfl (by kernel_rfl) (by kernel_rfl) (by kernel_rfl) (by rfl) (fun W hW => ?_) ?_; rotate_left; (have k1 := hW; obtain ⟨hc1, hf1⟩ := bcell k1; go_simp; refine comes_v ?_; exact k1))
          (try simp only [Act.put, List.setIfInBounds_toArray, List.set_cons_zero, List.set_cons_succ])
          first | refine wpB_skip 10 rfl (by kernel_rfl) (by kernel_rfl) (by kernel_rfl) (by rfl) ?_ | (refine wpB_text 10 (v := ?_) rfl (by kernel_rfl) (by kernel_rfl) (by kernel_rfl) (by rfl) (fun W hW => ?_) ?_; rotate_left; (have k1 := hW; obtain ⟨hc1, hf1⟩ := bcell k1; go_simp; refine comes_v ?_; exact k1))
          (try simp only [Act.put, List.setIfInBounds_toArray, List.set_cons_zero, List.set_cons_succ])
          first | refine wpB_skip 11 rfl (by kernel_rfl) (by kernel_rfl) (by kernel_rfl) (by rfl) ?_ | (refine wpB_text 11 (v := ?_) rfl (by kernel_rfl) (by kernel_rfl) (by kernel_rfl) (by rfl) (fun W hW => ?_) ?_; rotate_left; (have k1 := hW; obtain ⟨hc1, hf1⟩ := bcell k1; go_simp; refine comes_v ?_; exact k1))
          (try simp only [Act.put, List.setIfInBounds_toArray, List.set_cons_zero, List.set_cons_succ])
          first | refine wpB_skip 12 rfl (by kernel_rfl) (by kernel_rfl) (by kernel_rfl) (by rfl) ?_ | (refine wpB_text 12 (v := ?_) rfl (by kernel_rfl) (by kernel_rfl) (by kernel_rfl) (by rfl) (fun W hW => ?_) ?_; rotate_left; (have k1 := hW; obtain ⟨hc1, hf1⟩ := bcell k1; go_simp; refine comes_v ?_; exact k1))
          (try simp only [Act.put, List.setIfInBounds_toArray, List.set_cons_zero, List.set_cons_succ])
          first | refine wpB_skip 13 rfl (by kernel_rfl) (by kernel_rfl) (by kernel_rfl) (by rfl) ?_ | (refine wpB_text 13 (v := ?_) rfl (by kernel_rfl) (by kernel_rfl) (by kernel_rfl) (by rfl) (fun W hW => ?_) ?_; rotate_left; (have k1 := hW; obtain ⟨hc1, hf1⟩ := bcell k1; go_simp; refine comes_v ?_; exact k1))
          (try simp only [Act.put, List.setIfInBounds_toArray, List.set_cons_zero, List.set_cons_succ])
          first | refine wpB_skip 14 rfl (by kernel_rfl) (by kernel_rfl) (by kernel_rfl) (by rfl) ?_ | (refine wpB_text 14 (v := ?_) rfl (by kernel_rfl) (by kernel_rfl) (by kernel_rfl) (by rfl) (fun W hW => ?_) ?_; rotate_left; (have k1 := hW; obtain ⟨hc1, hf1⟩ := bcell k1; go_simp; refine comes_v ?_; exact k1))
          (try simp only [Act.put, List.setIfInBounds_toArray, List.set_cons_zero, List.set_cons_succ])
          first | refine wpB_skip 15 rfl (by kernel_rfl) (by kernel_rfl) (by kernel_rfl) (by rfl) ?_ | (refine wpB_text 15 (v := ?_) rfl (by kernel_rfl) (by kernel_rfl) (by kernel_rfl) (by rfl) (fun W hW => ?_) ?_; rotate_left; (have k1 := hW; obtain ⟨hc1, hf1⟩ := bcell k1; go_simp; refine comes_v ?_; exact k1))
          (try simp only [Act.put, List.setIfInBounds_toArray, List.set_cons_zero, List.set_cons_succ])
          first | refine wpB_skip 16 rfl (by kernel_rfl) (by kernel_rfl) (by kernel_rfl) (by rfl) ?_ | (refine wpB_text 16 (v := ?_) rfl (by kernel_rfl) (by kernel_rfl) (by kernel_rfl) (by rfl) (fun W hW => ?_) ?_; rotate_left; (have k1 := hW; obtain ⟨hc1, hf1⟩ := bcell k1; go_simp; refine comes_v ?_; exact k1))
          (try simp only [Act.put, List.setIfInBounds_toArray, List.set_cons_zero, List.set_cons_succ])
          first | refine wpB_skip 17 rfl (by kernel_rfl) (by kernel_rfl) (by kernel_rfl) (by rfl) ?_ | (refine wpB_text 17 (v := ?_) rfl (by kernel_rfl) (by kernel_rfl) (by kernel_rfl) (by rfl) (fun W hW => ?_) ?_; rotate_left; (have k1 := hW; obtain ⟨hc1, hf1⟩ := bcell k1; go_simp; refine comes_v ?_; exact k1))
          (try simp only [Act.put, List.setIfInBounds_toArray, List.set_cons_zero, List.set_cons_succ])
          first | refine wpB_skip 18 rfl (by kernel_rfl) (by kernel_rfl) (by kernel_rfl) (by rfl) ?_ | (refine wpB_text 18 (v := ?_) rfl (by kernel_rfl) (by kernel_rfl) (by kernel_rfl) (by rfl) (fun W hW => ?_) ?_; rotate_left; (have k1 := hW; obtain ⟨hc1, hf1⟩ := bcell k1; go_simp; refine comes_v ?_; exact k1))
          (try simp only [Act.put, List.setIfInBounds_toArray, List.set_cons_zero, List.set_cons_succ])
          first | refine wpB_skip 19 rfl (by kernel_rfl) (by kernel_rfl) (by kernel_rfl) (by rfl) ?_ | (refine wpB_text 19 (v := ?_) rfl (by kernel_rfl) (by kernel_rfl) (by kernel_rfl) (by rfl) (fun W hW => ?_) ?_; rotate_left; (have k1 := hW; obtain ⟨hc1, hf1⟩ := bcell k1; go_simp; refine comes_v ?_; exact k1))
          (try simp only [Act.put, List.setIfInBounds_toArray, List.set_cons_zero, List.set_cons_succ])
          refine wpB_done (by kernel_rfl) ?_ _
          intro W hW; have k1 := hW
          rename World => W0
          have B4 := hB.trans (k1.mono hB.size)
          have R4 := Lib.hid (rowM_below hr.out k1 (Nat.le_refl _))
          have hbx : -12800 ≤ ((i : Int) - (most : Int)) * Q2 - ((j : Int) - (most : Int)) * P2 ∧ ((i : Int) - (most : Int)) * Q2 - ((j : Int) - (most : Int)) * P2 ≤ 12800 := by omega
          have hby : -12800 ≤ ((j : Int) - (most : Int)) * P1 - ((i : Int) - (most : Int)) * Q1 ∧ ((j : Int) - (most : Int)) * P1 - ((i : Int) - (most : Int)) * Q1 ≤ 12800 := by omega
          rw [← x1] at hbx ⊢
          rw [← x2] at hby ⊢
          clear k1 u0 u1 uz v0 v1 vz hB hr t1 t2 t3 t4 t5 t6 b1 b2 b3 b4 b5 b6 b7 b8 x1 x2
          generalize fX ((i : Int) - (most : Int)) ((j : Int) - (most : Int)) = x at *
          generalize fY ((i : Int) - (most : Int)) ((j : Int) - (most : Int)) = y at *
          generalize SO ((i : Int) - (most : Int)) ((j : Int) - (most : Int)) = so at *
          have q1 := tdiv_bd (d := D) hbx.1 hbx.2
          have q2 := tdiv_bd (d := D) hby.1 hby.2
          have q3 := tmod_bd x D hdd
          have q4 := tmod_bd y D hdd
          have z1 : IntKind.i64.wrap (x.tmod D) = x.tmod D := IntWalk.i64_in _ (by omega)
          have z2 : IntKind.i64.wrap (y.tmod D) = y.tmod D := IntWalk.i64_in _ (by omega)
          have z3 : IntKind.i64.wrap (x.tdiv D) = x.tdiv D := IntWalk.i64_in _ (by omega)
          have z4 : IntKind.i64.wrap (y.tdiv D) = y.tdiv D := IntWalk.i64_in _ (by omega)
          have hdd3 : ¬ D = 0 := hdd
          clear q3 q4
          by_cases hx : x.tmod D = 0
          rotate_left
          · have HE := Lib.hid (HN1.out (Or.inl hx))
            clear HN1 HS1 HW1 HD1
            go_wp2_with fail
            go_roundg (2 * most + 1 - (j + 1))
            case measure => have := HGJ.out; omega
            case rel => exact ⟨j + 1, _, rfl, by omega, rfl, by first | go_num | (congr 1; omega), B4, Lib.hid (by rw [HU1.out, HE.out, List.append_nil]; exact R4.out)⟩
          by_cases hy : y.tmod D = 0
          rotate_left
          · have HE := Lib.hid (HN1.out (Or.inr hy))
            clear HN1 HS1 HW1 HD1
            go_wp2_with fail
            go_roundg (2 * most + 1 - (j + 1))
            case measure => have := HGJ.out; omega
            case rel => exact ⟨j + 1, _, rfl, by omega, rfl, by first | go_num | (congr 1; omega), B4, Lib.hid (by rw [HU1.out, HE.out, List.append_nil]; exact R4.out)⟩
          have HS2 := Lib.hid (HS1.out (x.tdiv D) (y.tdiv D) hx hy rfl rfl)
          clear HN1 HS1
          go_upto_region 13 with fail
          refine wp_region_B (fun W => Below W0.heap.size W0 W) (by kernel_rfl) (by repeat (first | exact Below.refl _ _ | apply Below.drew)) ?_
          first | refine wpB_skip 0 rfl (by kernel_rfl) (by kernel_rfl) (by kernel_rfl) (by rfl) ?_ | (refine wpB_text 0 (v := ?_) rfl (by kernel_rfl) (by kernel_rfl) (by kernel_rfl) (by rfl) (fun W hW => ?_) ?_; rotate_left; (have k1 := hW; obtain ⟨hc1, hf1⟩ := bcell k1; go_simp; refine comes_v ?_; exact k1))
          (try simp only [Act.put, List.setIfInBounds_toArray, List.set_cons_zero, List.set_cons_succ])
          first | refine wpB_skip 1 rfl (by kernel_rfl) (by kernel_rfl) (by kernel_rfl) (by rfl) ?_ | (refine wpB_text 1 (v := ?_) rfl (by kernel_rfl) (by kernel_rfl) (by kernel_rfl) (by rfl) (fun W hW => ?_) ?_; rotate_left; (have k1 := hW; obtain ⟨hc1, hf1⟩ := bcell k1; go_simp; refine comes_v ?_; exact k1))
          (try simp only [Act.put, List.setIfInBounds_toArray, List.set_cons_zero, List.set_cons_succ])
          first | refine wpB_skip 2 rfl (by kernel_rfl) (by kernel_rfl) (by kernel_rfl) (by rfl) ?_ | (refine wpB_text 2 (v := ?_) rfl (by kernel_rfl) (by kernel_rfl) (by kernel_rfl) (by rfl) (fun W hW => ?_) ?_; rotate_left; (have k1 := hW; obtain ⟨hc1, hf1⟩ := bcell k1; go_simp; refine comes_v ?_; exact k1))
          (try simp only [Act.put, List.setIfInBounds_toArray, List.set_cons_zero, List.set_cons_succ])
          first | refine wpB_skip 3 rfl (by kernel_rfl) (by kernel_rfl) (by kernel_rfl) (by rfl) ?_ | (refine wpB_text 3 (v := ?_) rfl (by kernel_rfl) (by kernel_rfl) (by kernel_rfl) (by rfl) (fun W hW => ?_) ?_; rotate_left; (have k1 := hW; obtain ⟨hc1, hf1⟩ := bcell k1; go_simp; refine comes_v ?_; exact k1))
          (try simp only [Act.put, List.setIfInBounds_toArray, List.set_cons_zero, List.set_cons_succ])
          first | refine wpB_skip 4 rfl (by kernel_rfl) (by kernel_rfl) (by kernel_rfl) (by rfl) ?_ | (refine wpB_text 4 (v := ?_) rfl (by kernel_rfl) (by kernel_rfl) (by kernel_rfl) (by rfl) (fun W hW => ?_) ?_; rotate_left; (have k1 := hW; obtain ⟨hc1, hf1⟩ := bcell k1; go_simp; refine comes_v ?_; exact k1))
          (try simp only [Act.put, List.setIfInBounds_toArray, List.set_cons_zero, List.set_cons_succ])
          first | refine wpB_skip 5 rfl (by kernel_rfl) (by kernel_rfl) (by kernel_rfl) (by rfl) ?_ | (refine wpB_text 5 (v := ?_) rfl (by kernel_rfl) (by kernel_rfl) (by kernel_rfl) (by rfl) (fun W hW => ?_) ?_; rotate_left; (have k1 := hW; obtain ⟨hc1, hf1⟩ := bcell k1; go_simp; refine comes_v ?_; exact k1))
          (try simp only [Act.put, List.setIfInBounds_toArray, List.set_cons_zero, List.set_cons_succ])
          first | refine wpB_skip 6 rfl (by kernel_rfl) (by kernel_rfl) (by kernel_rfl) (by rfl) ?_ | (refine wpB_text 6 (v := ?_) rfl (by kernel_rfl) (by kernel_rfl) (by kernel_rfl) (by rfl) (fun W hW => ?_) ?_; rotate_left; (have k1 := hW; obtain ⟨hc1, hf1⟩ := bcell k1; go_simp; refine comes_v ?_; exact k1))
          (try simp only [Act.put, List.setIfInBounds_toArray, List.set_cons_zero, List.set_cons_succ])
          first | refine wpB_skip 7 rfl (by kernel_rfl) (by kernel_rfl) (by kernel_rfl) (by rfl) ?_ | (refine wpB_text 7 (v := ?_) rfl (by kernel_rfl) (by kernel_rfl) (by kernel_rfl) (by rfl) (fun W hW => ?_) ?_; rotate_left; (have k1 := hW; obtain ⟨hc1, hf1⟩ := bcell k1; go_simp; refine comes_v ?_; exact k1))
          (try simp only [Act.put, List.setIfInBounds_toArray, List.set_cons_zero, List.set_cons_succ])
          refine wpB_done (by kernel_rfl) ?_ _
          intro W hW; have k1 := hW
          rename World => W5
          have B5 := B4.trans (k1.mono B4.size)
          have R5 := Lib.hid (rowM_below R4.out k1 (Nat.le_refl _))
          clear k1 R4 B4 z1 z2 z3 z4 hbx hby hx hy
          generalize x.tdiv D = u at *
          generalize y.tdiv D = v at *
          by_cases hu : u < 0
          · have HE := Lib.hid (show so = [] by rw [HS2.out, told_less hu]; rfl)
            clear HS2 HW1 HD1
            go_wp2_with fail
            go_roundg (2 * most + 1 - (j + 1))
            case measure => have := HGJ.out; omega
            case rel => exact ⟨j + 1, _, rfl, by omega, rfl, by first | go_num | (congr 1; omega), B5, Lib.hid (by rw [HU1.out, HE.out, List.append_nil]; exact R5.out)⟩
          by_cases hv : u = 0 ∧ v < 1
          · obtain ⟨rfl, hv⟩ := hv
            have HE := Lib.hid (show so = [] by rw [HS2.out, told_zero hv]; rfl)
            clear HS2 HW1 HD1
            go_wp2_with fail
            go_roundg (2 * most + 1 - (j + 1))
            case measure => have := HGJ.out; omega
            case rel => exact ⟨j + 1, _, rfl, by omega, rfl, by first | go_num | (congr 1; omega), B5, Lib.hid (by rw [HU1.out, HE.out, List.append_nil]; exact R5.out)⟩
          have KG := Lib.hid (fun W => pgCommon_any u v W (by omega) (by omega) (by omega) (by omega))
          have KW1 := Lib.hid (fun W hb => KW.out u v W q1.1 q1.2 q2.1 q2.2 hb)
          rw [HWd.out] at KW1
          obtain ⟨gg, hgg⟩ : ∃ gg, gg = Nat.gcd u.natAbs v.natAbs := ⟨_, rfl⟩
          have HT : Hid (toldB u v = decide (gg = 1)) := Lib.hid (by rw [told_gcd hu hv, decide_eq_decide, hgg])
          rw [← hgg] at KG
          clear hgg
          have BW5 := B3.trans (B5.mono B3.size)
          have hcs : (u = 0 ∧ ¬ v < 1) ∨ ¬ u = 0 := by omega
          by_cases hg1 : gg = 1
          rotate_left
          · have HE := Lib.hid (show so = [] by rw [HS2.out, HT.out, decide_eq_false hg1]; rfl)
            have hgi : ¬ (gg : Int) = 1 := by omega
            clear HS2 HW1 HD1 KW1 HT hv
            rcases hcs with ⟨rfl, hv⟩ | hu0
            all_goals
              go_wp2_with fail
              refine (KG.out _).mono ?_; rintro e w6 ⟨rfl, hb6⟩
              have B6 := B5.trans (hb6.mono B5.size)
              have R6 := Lib.hid (rowM_below R5.out hb6 (Nat.le_refl _))
              clear hb6 R5 B5 KG
              go_wp2_with fail
              go_roundg (2 * most + 1 - (j + 1))
              case measure => have := HGJ.out; omega
              case rel => exact ⟨j + 1, _, rfl, by omega, rfl, by first | go_num | (congr 1; omega), B6, Lib.hid (by rw [HU1.out, HE.out, List.append_nil]; exact R6.out)⟩
          by_cases hwd : wdL l u v ≤ (most : Int)
          rotate_left
          · have HE := Lib.hid (show so = [] by rw [HS2.out, decide_eq_false hwd, Bool.and_false]; rfl)
            have hwi : (most : Int) < wdL l u v := by omega
            subst hg1
            clear HS2 HW1 HD1 HT hv hwd
            rcases hcs with ⟨rfl, hv⟩ | hu0
            all_goals
              generalize wdL l _ v = wd at *
              go_wp2_with fail
              refine (KG.out _).mono ?_; rintro e w6 ⟨rfl, hb6⟩
              have B6 := B5.trans (hb6.mono B5.size)
              have R6 := Lib.hid (rowM_below R5.out hb6 (Nat.le_refl _))
              have BW6 := BW5.trans (hb6.mono BW5.size)
              clear hb6 R5 B5 KG BW5
              go_wp2_with fail
              refine (KW1.out _ BW6).mono ?_; rintro e w7 ⟨rfl, hb7⟩
              have B7 := B6.trans (hb7.mono B6.size)
              have R7 := Lib.hid (rowM_below R6.out hb7 (Nat.le_refl _))
              clear hb7 R6 B6 KW1 BW6
              go_wp2_with fail
              go_roundg (2 * most + 1 - (j + 1))
              case measure => have := HGJ.out; omega
              case rel => exact ⟨j + 1, _, rfl, by omega, rfl, by first | go_num | (congr 1; omega), B7, Lib.hid (by rw [HU1.out, HE.out, List.append_nil]; exact R7.out)⟩
          have HE := Lib.hid (show so = [(u, v)] by rw [HS2.out, HT.out, decide_eq_true hg1, decide_eq_true hwd]; rfl)
          have HNW := Lib.hid (HW1.out (u, v) HE.out)
          have HSN : Hid (srt (SU i (j + 1)) = ins (srt (SU i j)) (u, v)) := Lib.hid (by rw [HU1.out, HE.out, srt_snoc])
          have hsl := HUL.out i j (by omega) (by omega)
          rw [← srt_len] at hsl
          subst hg1
          obtain ⟨s, hs⟩ : ∃ s, s = srt (SU i j) := ⟨_, rfl⟩
          rw [← hs] at R5 HNW HSN HD1 hsl
          clear hs HS2 HW1 HT HE
          have hwi : ¬ (most : Int) < wdL l u v := by omega
          have h5 := B5.size
          go_upto_region 14 with fail
          go_cut [137] from 114 to 136 (fun q wx => q = .bool false ∧ Below W5.heap.size W5 wx)
          case first =>
            clear hv hwd
            rcases hcs with ⟨rfl, hv⟩ | hu0
            all_goals
              generalize wdL l _ v = wd at *
              go_wp2_with fail
              refine (KG.out _).mono ?_; rintro e w6 ⟨rfl, hb6⟩
              have BW6 := BW5.trans (hb6.mono BW5.size)
              go_wp2_with fail
              refine (KW1.out _ BW6).mono ?_; rintro e w7 ⟨rfl, hb7⟩
              have B7 := hb6.trans (hb7.mono hb6.size)
              go_wp2_with fail
              go_meet
              case rel =>
                exact ⟨by rw [decide_eq_false (by first | assumption | omega)], B7⟩
          case rest =>
          obtain ⟨rfl, BC⟩ := hcut
          rename World => W6
          have B6 := B5.trans (BC.mono B5.size)
          have R6 := rowM_below R5.out BC (Nat.le_refl _)
          clear R5 B5 BC KG KW1 BW5 hcs hwd hwi hu hv h5
          obtain ⟨q, own, pr⟩ := R6
          have HPR := Lib.hid pr
          obtain ⟨r, hr0⟩ : ∃ r, r = s.length := ⟨_, rfl⟩
          have HLR := Lib.hid hr0.symm
          have hql : q.length = r := by rw [pr.len, hr0]
          rw [← hr0] at own hsl
          have HO := Lib.hid own
          have h6 := B6.size
          clear pr hr0
          rcases own_val own with ⟨hvv, h0⟩ | ⟨g, cap, hvv, hrc, hcm, hgl, hgw⟩
          · subst hvv
            subst h0
            clear own HO HPR HD1 HNW hql
            have hs0 : s = [] := List.eq_nil_of_length_eq_zero HLR.out
            have HSN1 : Hid (srt (SU i (j + 1)) = [(u, v)]) := Lib.hid (by rw [HSN.out, hs0, ins_nil])
            clear HSN hs0 HLR
            go_upto_block 4 with fail
            go_cut [15] (fun qq wx => qq = .int .i64 0 ∧ Below W6.heap.size W6 wx)
            case first =>
              go_wp2_with fail
              go_loopg [15] 0 (fun g2 qq wr => g2 = 0 ∧ qq = .int .i64 0 ∧ Below W6.heap.size W6 wr)
              case atStart => exact ⟨rfl, by first | rfl | go_num, Below.refl _ _⟩
              case round =>
                obtain ⟨_, rfl, hBt⟩ := hrel
                rename World => wt
                go_wp2_with fail
                go_meet
                case rel => exact ⟨rfl, hBt⟩
            case rest =>
            obtain ⟨rfl, BC⟩ := hcut
            rename World => W7
            have B7 := B6.trans (BC.mono B6.size)
            have h73 := B7.size
            clear BC B6 h6
            have own1 : (W7.alloc (.cells #[] 47)).ownsRow W7.heap.size 47 1 (.slice (some ⟨W7.heap.size, 0, none⟩) 0 0) 0 [] := World.ownsRow_lit W7 #[] 0 (Nat.le_refl _) (by decide) rfl
            have B8 := Below.alloc (Below.refl W7.heap.size W7) (Nat.le_refl _) (.cells #[] 47)
            have e8 : (W7.alloc (.cells #[] 47)).heap.size = W7.heap.size + 1 := by simp
            have own9 := (own1.alloc (.cells #[.int .i64 u, .int .i64 v] 3)).alloc (.cells #[.slice (some ⟨W7.heap.size + 1, 0, none⟩) 2 2] 47)
            have h78 := B8.size
            have BW9 : Below W7.heap.size W7 (((W7.alloc (.cells #[] 47)).alloc (.cells #[.int .i64 u, .int .i64 v] 3)).alloc (.cells #[.slice (some ⟨W7.heap.size + 1, 0, none⟩) 2 2] 47)) := Below.alloc (Below.alloc B8 h78 _) (by simp; omega) _
            go_wp2_with (at_builtin; go_loud (refine wpList_append_own _ rfl (.tmp 181) (.tmp 185) 30 rfl W7.heap.size 47 t0 (.slice none 0 0) 1 24 Try.underlying30 HI.out.1 HI.out.2.1 HI.out.2.2.1 HI.out.2.2.2 rfl (by decide) (.slice (some ⟨W7.heap.size, 0, none⟩) 0 0) 0 [] rfl own9 ⟨W7.heap.size + 1 + 1, 0, none⟩ 1 1 [.slice (some ⟨W7.heap.size + 1, 0, none⟩) 2 2] rfl rfl (wm_cells (by go_simp)) (wm_one _ _ _) (by unfold maxLen; omega) (by omega) BW9.size ?_))
            intro v10 w10 own10 hg10 _
            obtain ⟨hp, hl⟩ := pair_new (w := W7.alloc (.cells #[] 47)) (by rw [e8]; exact own9) (by rw [e8]; exact hg10)
            rw [e8] at hp hl
            have B10 := BW9.grown hg10 BW9.size (fun g' hg' => (World.ownsRow.lt own9 g' hg').1)
            have own10' := own_baseM own10 h73
            have HR11 : Hid (RowM w10 w3.heap.size v10 (srt (SU i (j + 1)))) := Lib.hid (by
              rw [HSN1.out]
              exact rowM_one (n := 1) rfl (Nat.le_succ_of_le h73) hp hl (by simpa using own10'))
            have B11 := B7.trans (B10.mono h73)
            clear own9 own1 B8 BW9 hg10 hp hl B10 own10 HSN1 e8
            go_wp2_with (at_builtin; refine wpList_append_own_none rfl (.tmp 187) (.tmp 190) 30 rfl w3.heap.size 47 t0 1 Try.underlying30 HI.out.1 v10 _ _ rfl own10' rfl ?_)
            clear own10'
            go_wp2_with fail
            go_roundg (2 * most + 1 - (j + 1))
            case measure => have := HGJ.out; omega
            case rel => exact ⟨j + 1, v10, rfl, by omega, rfl, by first | go_num | (congr 1; omega), B11, HR11⟩
          · subst hvv
            clear own
            have hcm2 : cap ≤ 9223372036854775807 := by unfold maxLen at hcm; omega
            go_upto_block 4 with fail
            go_cut [15] (fun qq wx => ∃ t : Nat, qq = .int .i64 (t : Int) ∧ t ≤ r ∧ Hid (t = insAt s (u, v)) ∧ Below W6.heap.size W6 wx)
            case first =>
              go_wp2_with fail
              go_loopg [15] r (fun g2 qq wr => ∃ t : Nat, t ≤ r ∧ g2 = t ∧ qq = .int .i64 (t : Int) ∧ Below W6.heap.size W6 wr ∧ Hid (∀ i', t ≤ i' → i' < r → lxB (u, v) (pt s i') = true))
              case atStart => exact ⟨r, Nat.le_refl _, rfl, rfl, Below.refl _ _, Lib.hid (fun i' h1 h2 => absurd h1 (by omega))⟩
              case round =>
                obtain ⟨t, htr, hg2, rfl, hBt, hF⟩ := hrel
                rename World => wt
                have HGT := Lib.hid hg2
                clear hg2
                rcases t with _ | t
                · have hJ : Hid (0 = insAt s (u, v)) := Lib.hid (insAt_back HD1.out HNW.out (Nat.zero_le _) (fun i' h1 h2 => hF.out i' h1 (by rw [← HLR.out]; exact h2)) (Or.inl rfl)).symm
                  go_wp2_with fail
                  go_meet
                  case rel => exact ⟨0, rfl, Nat.zero_le _, hJ, hBt⟩
                · obtain ⟨bq, hq0, hq1, hq2, hq3⟩ := prM_read HPR.out (j := t) (by rw [HLR.out]; omega)
                  have s0 := ((bcell hBt).1 g t hgw).trans ((World.ownsRow.cellAt HO.out t (by omega)).trans (slM_get hq0))
                  have s1 := ((bcell hBt).1 bq 0 hq1).trans hq2
                  have s2 := ((bcell hBt).1 bq 1 hq1).trans hq3
                  have zg := Nat.lt_of_lt_of_le hgw hBt.size
                  have zq := Nat.lt_of_lt_of_le hq1 hBt.size
                  obtain ⟨c1, c2, hce⟩ : ∃ c1 c2, pt s t = (c1, c2) := ⟨_, _, rfl⟩
                  have HCE := Lib.hid hce
                  rw [hce] at s1 s2
                  simp only at s1 s2
                  have hjj : ((t + 1 : Nat) : Int) - 1 = (t : Int) := by omega
                  have hjp : (0 : Int) < ((t + 1 : Nat) : Int) := by omega
                  have hjw : IntKind.i64.wrap (((t + 1 : Nat) : Int) - 1) = (t : Int) := by rw [IntWalk.i64_in _ (by omega)]; omega
                  have hjw2 : IntKind.i64.wrap (t : Int) = (t : Int) := IntWalk.i64_in _ (by omega)
                  have htr2 : (t : Int) < (r : Int) := by omega
                  have htr3 : t < r := by omega
                  clear hq0 hq1 hq2 hq3 hce
                  have HL : Hid (lxB (u, v) (c1, c2) = (decide (u < c1) || (decide (u = c1) && decide (v < c2)))) := Lib.hid rfl
                  have HY : Hid (lxB (u, v) (c1, c2) = true → ∀ i', t ≤ i' → i' < r → lxB (u, v) (pt s i') = true) := Lib.hid (fun h i' h1 h2 => by
                    by_cases hij : i' = t
                    · subst hij; rw [HCE.out]; exact h
                    · exact hF.out i' (by omega) h2)
                  have HNN : Hid (lxB (u, v) (c1, c2) = false → t + 1 = insAt s (u, v)) := Lib.hid (fun h => (insAt_back HD1.out HNW.out (by rw [HLR.out]; exact htr) (fun i' h1 h2 => hF.out i' h1 (by rw [← HLR.out]; exact h2)) (Or.inr (by rw [Nat.add_sub_cancel, HCE.out]; exact h))).symm)
                  by_cases k1 : u < c1
                  · have HY2 := Lib.hid (HY.out (by rw [HL.out, decide_eq_true k1]; rfl))
                    clear HY HNN HL
                    go_wp2_with fail
                    go_roundg t
                    case measure => have := HGT.out; omega
                    case rel => exact ⟨t, by omega, rfl, by first | rfl | go_num, hBt, HY2⟩
                  by_cases k2 : u = c1
                  · by_cases k3 : v < c2
                    · have HY2 := Lib.hid (HY.out (by rw [HL.out, decide_eq_true k2, decide_eq_true k3]; simp))
                      clear HY HNN HL
                      subst k2
                      go_wp2_with fail
                      go_roundg t
                      case measure => have := HGT.out; omega
                      case rel => exact ⟨t, by omega, rfl, by first | rfl | go_num, hBt, HY2⟩
                    · have HY2 := Lib.hid (HNN.out (by rw [HL.out, decide_eq_false k1, decide_eq_false k3]; simp))
                      clear HY HNN HL
                      subst k2
                      go_wp2_with fail
                      go_meet
                      case rel => exact ⟨t + 1, by first | rfl | go_num, htr, HY2, hBt⟩
                  · have HY2 := Lib.hid (HNN.out (by rw [HL.out, decide_eq_false k1, decide_eq_false k2]; rfl))
                    clear HY HNN HL
                    go_wp2_with fail
                    go_meet
                    case rel => exact ⟨t + 1, by first | rfl | go_num, htr, HY2, hBt⟩
            case rest =>
            obtain ⟨t, rfl, htr, hJ, BC⟩ := hcut
            rename World => W7
            have B7 := B6.trans (BC.mono B6.size)
            have O7 := Lib.hid (ownM_below HO.out BC (Nat.le_refl _))
            have P7 := Lib.hid (prM_below HPR.out BC (Nat.le_refl _))
            have h73 := B7.size
            clear HPR HO B6 BC h6 HD1 HNW
            have HFIN : Hid (∀ (W8 W10 W11 : World) (V10 V11 : Value) (n10 : Nat) (xs : List Value), W7.heap.size ≤ W8.heap.size → Below W7.heap.size W7 W10 → W10.heap[W8.heap.size]? = some (.cells #[.int .i64 u, .int .i64 v] 3 (0, 0)) → W8.heap.size < W10.heap.size → W10.ownsRow w3.heap.size 47 1 V10 n10 xs → W10.grownBy W11 V10.ownBlock → W11.ownsRow w3.heap.size 47 1 V11 (t + 1 + (r - t)) ((slM (q.take t) ++ [.slice (some ⟨W8.heap.size, 0, none⟩) 2 2]) ++ slM (q.drop t)) → RowM W11 w3.heap.size V11 (srt (SU i (j + 1)))) := Lib.hid (fun W8 W10 W11 V10 V11 n10 xs h1 h2 h3 h4 h5 h6 h7 => by
              rw [HSN.out]
              unfold ins
              rw [← hJ.out]
              refine rowM_put h73 P7.out (by rw [HLR.out]; exact htr) h1 h2 h3 h4 h5 h6 ?_
              rw [HLR.out, show r + 1 = t + 1 + (r - t) by omega]
              exact h7)
            have HD : Hid (∀ W, Below W7.heap.size W7 W → ∀ j' u', (slM (q.take t))[j']? = some u' → W.cell? ((⟨g, 0, none⟩ : Addr).add j') = some u') := Lib.hid (fun W hW => slM_cells O7.out hW (Nat.le_refl _) hql 0 (fun j' b' hj' => by
              rw [Nat.zero_add]
              rw [List.getElem?_take] at hj'
              split at hj'
              · exact hj'
              · cases hj'))
            have HD2 : Hid (∀ W, Below W7.heap.size W7 W → ∀ j' u', (slM (q.drop t))[j']? = some u' → W.cell? ((⟨g, t, none⟩ : Addr).add j') = some u') := Lib.hid (fun W hW => slM_cells O7.out hW (Nat.le_refl _) hql t (fun j' b' hj' => by
              rw [List.getElem?_drop] at hj'
              exact hj'))
            have hl1 : (slM (q.take t)).length = t * 1 := by rw [slM_len, List.length_take]; omega
            have hl2 : (slM (q.drop t)).length = (r - t) * 1 := by rw [slM_len, List.length_drop]; omega
            have hy1 := slM_one (q.take t)
            have hy2 := slM_one (q.drop t)
            have hy0 : t = r → slM (q.drop t) = [] := fun e => by rw [List.drop_of_length_le (by omega)]; rfl
            clear hJ HSN HLR P7 O7
            generalize slM (q.take t) = ys at *
            generalize slM (q.drop t) = zs at *
            clear hql
            have own1 : (W7.alloc (.cells #[] 47)).ownsRow W7.heap.size 47 1 (.slice (some ⟨W7.heap.size, 0, none⟩) 0 0) 0 [] := World.ownsRow_lit W7 #[] 0 (Nat.le_refl _) (by decide) rfl
            have B8 := Below.alloc (Below.refl W7.heap.size W7) (Nat.le_refl _) (.cells #[] 47)
            have htc : (t : Int) ≤ (cap : Int) := by omega
            have htr3 : (t : Int) ≤ (r : Int) := by omega
            go_wp2_with (at_builtin; go_loud (refine wpList_append_own _ rfl (.tmp 177) (.tmp 180) 30 rfl W7.heap.size 47 t0 (.slice none 0 0) 1 24 Try.underlying30 HI.out.1 HI.out.2.1 HI.out.2.2.1 HI.out.2.2.2 rfl (by decide) _ 0 [] rfl own1 ⟨g, 0, none⟩ t cap ys rfl hl1 (HD.out _ B8) hy1 (by unfold maxLen; omega) (by omega) B8.size ?_))
            intro v8 w8 own8 hg8 _
            have B9 := B8.grown hg8 B8.size (fun g' hg' => (World.ownsRow.lt own1 g' hg').1)
            have h78 := B9.size
            have own8' : w8.ownsRow W7.heap.size 47 1 v8 t ys := by simpa using own8
            have own9 := (own8'.alloc (.cells #[.int .i64 u, .int .i64 v] 3)).alloc (.cells #[.slice (some ⟨w8.heap.size, 0, none⟩) 2 2] 47)
            have BW9 : Below W7.heap.size W7 ((w8.alloc (.cells #[.int .i64 u, .int .i64 v] 3)).alloc (.cells #[.slice (some ⟨w8.heap.size, 0, none⟩) 2 2] 47)) := Below.alloc (Below.alloc B9 h78 _) (by simp; omega) _
            clear own1 B8 hg8 own8 own8' B9 HD hl1 hy1
            go_wp2_with (at_builtin; go_loud (refine wpList_append_own _ rfl (.tmp 181) (.tmp 185) 30 rfl W7.heap.size 47 t0 (.slice none 0 0) 1 24 Try.underlying30 HI.out.1 HI.out.2.1 HI.out.2.2.1 HI.out.2.2.2 rfl (by decide) v8 t ys rfl own9 ⟨w8.heap.size + 1, 0, none⟩ 1 1 [.slice (some ⟨w8.heap.size, 0, none⟩) 2 2] rfl rfl (wm_cells (by go_simp)) (wm_one _ _ _) (by unfold maxLen; omega) (by omega) BW9.size ?_))
            intro v10 w10 own10 hg10 _
            obtain ⟨hp, hl⟩ := pair_new own9 hg10
            have B10 := BW9.grown hg10 BW9.size (fun g' hg' => (World.ownsRow.lt own9 g' hg').1)
            have own10' := own_baseM own10 h73
            have HF := Lib.hid (fun W11 V11 h6 h7 => HFIN.out w8 w10 W11 v10 V11 _ _ h78 B10 hp hl own10' h6 h7)
            have B103 := B7.trans (B10.mono h73)
            have hz10 := B103.size
            have HDZ := Lib.hid (HD2.out w10 B10)
            have hn10 : t + 1 ≤ r + 1 := by omega
            clear own9 BW9 hg10 hp hl HFIN own10 B10 HD2 B7
            generalize ys ++ [Value.slice (some ⟨w8.heap.size, 0, none⟩) 2 2] = xs at *
            generalize t + 1 = n10 at *
            rcases Nat.lt_or_ge t r with hj' | hj'
            · have e1 : ¬ (cap : Int) = (t : Int) := by omega
              have e2 : ¬ cap = t := by omega
              go_wp2_with (at_builtin; refine wpList_append_own _ rfl (.tmp 187) (.tmp 190) 30 rfl w3.heap.size 47 t0 (.slice none 0 0) 1 24 Try.underlying30 HI.out.1 HI.out.2.1 HI.out.2.2.1 HI.out.2.2.2 rfl (by decide) v10 n10 xs rfl own10' ⟨g, t, none⟩ (r - t) (cap - t) zs rfl hl2 HDZ.out hy2 (by unfold maxLen; omega) (by omega) hz10 ?_)
              intro v11 w11 own11 hg11 _
              have HR11 := Lib.hid (HF.out w11 v11 hg11 (own11))
              have B11 := B103.grown hg11 hz10 (fun g' hg' => (World.ownsRow.lt own10' g' hg').1)
              clear own11 hg11 own10'
              go_wp2_with fail
              go_roundg (2 * most + 1 - (j + 1))
              case measure => have := HGJ.out; omega
              case rel => exact ⟨j + 1, v11, rfl, by omega, rfl, by first | go_num | (congr 1; omega), B11, HR11⟩
            · have hjr : t = r := by omega
              subst hjr
              have hdn := hy0 rfl
              subst hdn
              rw [Nat.sub_self] at HF
              by_cases hcj : cap = t
              · have e1 : (cap : Int) = (t : Int) := by omega
                go_wp2_with (at_builtin; refine wpList_append_own _ rfl (.tmp 187) (.tmp 190) 30 rfl w3.heap.size 47 t0 (.slice none 0 0) 1 24 Try.underlying30 HI.out.1 HI.out.2.1 HI.out.2.2.1 HI.out.2.2.2 rfl (by decide) v10 n10 xs rfl own10' ⟨g, 0, none⟩ 0 _ [] rfl (by simp) (by intro i u hi; simp at hi) (by intro u hu; simp at hu) (by unfold maxLen; omega) (by omega) hz10 ?_)
                intro v11 w11 own11 hg11 _
                have HR11 := Lib.hid (HF.out w11 v11 hg11 (by first | exact own11 | simpa using own11))
                have B11 := B103.grown hg11 hz10 (fun g' hg' => (World.ownsRow.lt own10' g' hg').1)
                clear own11 hg11 own10'
                go_wp2_with fail
                go_roundg (2 * most + 1 - (j + 1))
                case measure => have := HGJ.out; omega
                case rel => exact ⟨j + 1, v11, rfl, by omega, rfl, by first | go_num | (congr 1; omega), B11, HR11⟩
              · have e1 : ¬ (cap : Int) = (t : Int) := by omega
                go_wp2_with (at_builtin; refine wpList_append_own _ rfl (.tmp 187) (.tmp 190) 30 rfl w3.heap.size 47 t0 (.slice none 0 0) 1 24 Try.underlying30 HI.out.1 HI.out.2.1 HI.out.2.2.1 HI.out.2.2.2 rfl (by decide) v10 n10 xs rfl own10' ⟨g, t, none⟩ 0 _ [] rfl (by simp) (by intro i u hi; simp at hi) (by intro u hu; simp at hu) (by unfold maxLen; omega) (by omega) hz10 ?_)
                intro v11 w11 own11 hg11 _
                have HR11 := Lib.hid (HF.out w11 v11 hg11 (by first | exact own11 | simpa using own11))
                have B11 := B103.grown hg11 hz10 (fun g' hg' => (World.ownsRow.lt own10' g' hg').1)
                clear own11 hg11 own10'
                go_wp2_with fail
                go_roundg (2 * most + 1 - (j + 1))
                case measure => have := HGJ.out; omega
                case rel => exact ⟨j + 1, v11, rfl, by omega, rfl, by first | go_num | (congr 1; omega), B11, HR11⟩
        · obtain rfl : j = 2 * most + 1 := by omega
          have d3 : ¬ (((2 * most + 1 : Nat) : Int) - (most : Int) ≤ (most : Int)) := by omega
          go_wp2_with fail
          go_roundg (2 * most + 1 - (i + 1))
          case measure => have := HGI.out; omega
          case rel => exact ⟨i + 1, _, rfl, by omega, rfl, by first | go_num | (congr 1; omega), hB, Lib.hid (by rw [← HUA.out]; exact hr.out)⟩
    · obtain rfl : i = 2 * most + 1 := by omega
      have d3 : ¬ (((2 * most + 1 : Nat) : Int) - (most : Int) ≤ (most : Int)) := by omega
      have B5 := B3.trans (hB.mono B3.size)
      go_wp2_with fail
      go_ret
      exact ⟨⟨_, rfl, by rw [HDD.out]; obtain ⟨q, h1, h2⟩ := hr.out; exact ⟨q, own_baseM h1 B3.size, prM_base h2 B3.size⟩⟩, B5⟩
end Go.Proofs.Ytheddoinnakneaa
/- contracts: CountDirections, the model -/
namespace Go.Proofs.Ytheddoinnakneaa
open Go.ChangeShapes Go.WideShapes Go.ChangeAt Go.RowKit Go.Joins
set_option linter.unusedVariables false
set_option linter.unusedSimpArgs false
set_option maxRecDepth 4000
/-- the told directions of a width of at most so many -/
def dirG (l : List (Int × Int)) (most : Nat) : List (Int × Int) := dirD (wdL l) (subP (vx l 1) (vx l 0)) (subP (vx l 2) (vx l 0)) most
theorem rowM_val {w : World} {base : Nat} {v : Value} {m : List (Int × Int)} (h : RowM w base v m) : ∃ A c, v = .slice A m.length c ∧ RowM w base (.slice A m.length c) m := by
  have h0 := h
  obtain ⟨q, ho, _⟩ := h
  rcases own_val ho with ⟨hv, hn⟩ | ⟨g, cap, hv, _⟩
  · exact ⟨none, 0, by rw [hv, hn], by rw [hv] at h0; rw [hn]; exact h0⟩
  · exact ⟨_, cap, hv, by rw [hv] at h0; exact h0⟩
noncomputable def okC (l : List (Int × Int)) (most : Int) : Bool := goodB l && (decide (0 ≤ most) && decide (most ≤ 60))
noncomputable def cdS (l : List (Int × Int)) (most : Int) : Int := if okC l most = true then ((dirG l most.toNat).length : Int) else 0
theorem specCountDirections_any (A : Option Addr) (c : Nat) (l : List (Int × Int)) (most : Int) (w : World) (hn : l.length ≤ 1048576) (hcap : l.length ≤ c) (hc2 : c ≤ 9223372036854775807) (hR : Rd w w.heap.size A l) :
    Calls Try.prog 26 #[.slice A l.length c, .int .i64 most] w fun e w' => e = .returned (.tuple #[.int .i64 (cdS l most), .bool (okC l most)]) ∧ Below w.heap.size w w' := by
  have K := Lib.hid (pgGood_any A c l w hn hcap hc2 hR)
  have KI := Lib.hid (fun W => l1In_any most 0 60 W)
  by_cases hg : goodB l = true
  · by_cases hm : 0 ≤ most ∧ most ≤ 60
    · obtain ⟨m, rfl⟩ : ∃ m : Nat, most = (m : Int) := ⟨most.toNat, by omega⟩
      have hgg : Good l := by unfold goodB at hg; simpa using hg
      have K2 := Lib.hid (fun W (hb : Below w.heap.size w W) => wiAll_any A c l m W (by omega) hgg (rd_more (rd_below hR hb (Nat.le_refl _)) hb.size))
      have hok : okC l (m : Int) = true := by unfold okC; rw [hg, decide_eq_true hm.1, decide_eq_true hm.2]; rfl
      have hcd : cdS l (m : Int) = ((dirG l m).length : Int) := by unfold cdS; rw [if_pos hok]; rfl
      rw [hcd, hok]
      rw [hg] at K
      rw [decide_eq_true hm.1, decide_eq_true hm.2] at KI
      change Hid (∀ W, Below w.heap.size w W → Calls Try.prog 59 #[.slice A l.length c, .int .i64 (m : Int)] W fun e w' => (∃ v, e = .returned v ∧ RowM w' W.heap.size v (dirG l m)) ∧ Below W.heap.size W w') at K2
      generalize dirG l m = dm at *
      clear hcd hok hgg hm hg hR
      go_enter Try.func26, Try.ntmps26
      go_wp2_with fail
      refine K.out.mono ?_; rintro e w1 ⟨rfl, hb1⟩
      go_wp2_with fail
      refine (KI.out _).mono ?_; rintro e _ ⟨rfl, rfl⟩
      go_wp2_with fail
      refine (K2.out _ hb1).mono ?_; rintro e w2 ⟨⟨v, rfl, hrv⟩, hb2⟩
      obtain ⟨A2, c2, rfl, _⟩ := rowM_val hrv
      clear hrv
      go_wp2_with fail
      go_ret2
      exact ⟨rfl, hb1.trans (hb2.mono hb1.size)⟩
    · have hok : okC l most = false := by
        unfold okC; rw [hg]
        by_cases h0 : 0 ≤ most
        · rw [decide_eq_false (show ¬ most ≤ 60 by omega), Bool.and_false]; rfl
        · rw [decide_eq_false h0]; rfl
      have hcd : cdS l most = 0 := by unfold cdS; rw [hok]; rfl
      have hii : (decide (0 ≤ most) && decide (most ≤ 60)) = false := by
        by_cases h0 : 0 ≤ most
        · rw [decide_eq_false (show ¬ most ≤ 60 by omega), Bool.and_false]
        · rw [decide_eq_false h0]; rfl
      rw [hcd, hok]
      rw [hg] at K
      rw [hii] at KI
      clear hcd hok hm hg hR hii
      go_enter Try.func26, Try.ntmps26
      go_wp2_with fail
      refine K.out.mono ?_; rintro e w1 ⟨rfl, hb1⟩
      go_wp2_with fail
      refine (KI.out _).mono ?_; rintro e _ ⟨rfl, rfl⟩
      go_wp2_with fail
      go_ret2
      exact ⟨rfl, hb1⟩
  · have hgf : goodB l = false := by simpa using hg
    have hok : okC l most = false := by unfold okC; rw [hgf]; rfl
    have hcd : cdS l most = 0 := by unfold cdS; rw [hok]; rfl
    rw [hcd, hok]
    rw [hgf] at K
    clear hcd hok hg hgf hR
    go_enter Try.func26, Try.ntmps26
    go_wp2_with fail
    refine K.out.mono ?_; rintro e w1 ⟨rfl, hb1⟩
    go_wp2_with fail
    go_ret2
    exact ⟨rfl, hb1⟩
end Go.Proofs.Ytheddoinnakneaa
/- contracts: wiLeast, the model -/
namespace Go.Proofs.Ytheddoinnakneaa
open Go.ChangeShapes Go.WideShapes Go.ChangeAt Go.RowKit Go.Joins
set_option linter.unusedVariables false
set_option linter.unusedSimpArgs false
set_option maxRecDepth 4000
theorem rowM_base {w : World} {base base' : Nat} {v : Value} {m : List (Int × Int)} (h : RowM w base v m) (hb : base' ≤ base) : RowM w base' v m := by
  obtain ⟨q, h1, h2⟩ := h
  exact ⟨q, own_baseM h1 hb, prM_base h2 hb⟩
theorem wiLeast_any (A : Option Addr) (c : Nat) (l : List (Int × Int)) (m : Nat) (w : World) (h1 : 1 ≤ m) (h2 : m ≤ 80) (hm : 0 < (dirG l m).length) (hl : ∀ i, 1 ≤ i → i < m → (dirG l i).length = 0) (hg : Good l) (hR : Rd w w.heap.size A l) :
    Calls Try.prog 53 #[.slice A l.length c] w fun e w' => (∃ v, e = .returned (.tuple #[.int .i64 (m : Int), v]) ∧ RowM w' w.heap.size v (dirG l m)) ∧ Below w.heap.size w w' := by
  have K2 := Lib.hid (fun W i (hi : i ≤ 80) (hb : Below w.heap.size w W) => wiAll_any A c l i W hi hg (rd_more (rd_below hR hb (Nat.le_refl _)) hb.size))
  change Hid (∀ W (i : Nat), i ≤ 80 → Below w.heap.size w W → Calls Try.prog 59 #[.slice A l.length c, .int .i64 (i : Int)] W fun e w' => (∃ v, e = .returned v ∧ RowM w' W.heap.size v (dirG l i)) ∧ Below W.heap.size W w') at K2
  have HL := Lib.hid hl
  generalize dirG l = dg at *
  clear hl hg hR
  go_enter Try.func53, Try.ntmps53
  go_wp2_with fail
  go_loopg [4] (m - 1) (fun g q wr => ∃ i : Nat, 1 ≤ i ∧ i ≤ m ∧ g = m - i ∧ q = .int .i64 (i : Int) ∧ Below w.heap.size w wr)
  case atStart => exact ⟨1, Nat.le_refl _, h1, rfl, rfl, Below.refl _ _⟩
  case round =>
    obtain ⟨i, hi1, him, hgi, rfl, hB⟩ := hrel
    rename World => wr
    have HGI := Lib.hid hgi
    clear hgi
    have K3 := Lib.hid (K2.out wr i (by omega) hB)
    by_cases hlt : i < m
    · have h0 := HL.out i hi1 hlt
      go_wp2_with fail
      refine K3.out.mono ?_; rintro e w2 ⟨⟨v, rfl, hrv⟩, hb2⟩
      obtain ⟨A2, c2, rfl, _⟩ := rowM_val hrv
      have B2 := hB.trans (hb2.mono hB.size)
      rw [h0]
      clear hrv hb2 hB K3 h0
      go_wp2_with fail
      go_roundg (m - (i + 1))
      case measure => have := HGI.out; omega
      case rel => exact ⟨i + 1, by omega, by omega, rfl, by first | go_num | (congr 1; omega), B2⟩
    · obtain rfl : i = m := by omega
      have h0 : (0 : Int) < ((dg i).length : Int) := by omega
      go_wp2_with fail
      refine K3.out.mono ?_; rintro e w2 ⟨⟨v, rfl, hrv⟩, hb2⟩
      obtain ⟨A2, c2, rfl, hr⟩ := rowM_val hrv
      have B2 := hB.trans (hb2.mono hB.size)
      have HR := Lib.hid (rowM_base hr hB.size)
      clear hrv hr hb2 K3
      go_wp2_with fail
      go_ret2
      exact ⟨⟨_, rfl, HR.out⟩, B2⟩
end Go.Proofs.Ytheddoinnakneaa
/- contracts: LeastWidth, DirectionsOfWidth, the model -/
namespace Go.Proofs.Ytheddoinnakneaa
open Go.ChangeShapes Go.WideShapes Go.ChangeAt Go.RowKit Go.Joins
set_option linter.unusedVariables false
set_option linter.unusedSimpArgs false
set_option maxRecDepth 4000
theorem lohi_in {l : List (Int × Int)} (hp : ∀ i, i < l.length → isPg (vx l i) = true) (h0 : 0 < l.length) : ∀ k, k ≤ l.length → -40 ≤ loW l 1 0 k ∧ hiW l 1 0 k ≤ 40 := by
  have hb : ∀ i, i < l.length → -40 ≤ vlu 1 0 (vx l i) ∧ vlu 1 0 (vx l i) ≤ 40 := fun i hi => by
    have := hp i hi
    unfold isPg isPegB at this
    simp only [Bool.and_eq_true, decide_eq_true_eq] at this
    unfold vlu
    omega
  intro k
  induction k with
  | zero =>
    intro _
    have := hb 0 h0
    simp only [loW, hiW]
    omega
  | succ k ih =>
    intro hk
    have := hb k (by omega)
    have := ih (by omega)
    simp only [loW, hiW]
    omega
theorem wd_box {l : List (Int × Int)} (hg : Good l) : wdL l 1 0 ≤ 80 := by
  have := lohi_in hg.pegs (by have := hg.few; omega) l.length (Nat.le_refl _)
  unfold wdL
  omega
/-- the least width of a polygon -/
noncomputable def wlG (l : List (Int × Int)) : Nat := (wlI (wdL l) (subP (vx l 1) (vx l 0)) (subP (vx l 2) (vx l 0)) 80).toNat
theorem wlG_facts {l : List (Int × Int)} (hg : Good l) : 1 ≤ wlG l ∧ wlG l ≤ 80 ∧ 0 < (dirG l (wlG l)).length ∧ ∀ i, 1 ≤ i → i < wlG l → (dirG l i).length = 0 := by
  obtain ⟨f1, f2, f3, f4, f5⟩ := wl_facts (base_model hg) (M := 80) (box_told (Or.inl (wd_box hg)))
  have e : (wlG l : Int) = wlI (wdL l) (subP (vx l 1) (vx l 0)) (subP (vx l 2) (vx l 0)) 80 := by unfold wlG; omega
  refine ⟨by omega, by omega, (f4 _).2 (by omega), fun i h1 h2 => ?_⟩
  rcases Nat.eq_zero_or_pos (dirG l i).length with h | h
  · exact h
  · have := (f4 i).1 h
    omega
noncomputable def lwS (l : List (Int × Int)) : Int := if goodB l = true then (wlG l : Int) else 0
noncomputable def dwS (l : List (Int × Int)) : List (Int × Int) := if goodB l = true then dirG l (wlG l) else []
theorem specLeastWidth_any (A : Option Addr) (c : Nat) (l : List (Int × Int)) (w : World) (hn : l.length ≤ 1048576) (hcap : l.length ≤ c) (hc2 : c ≤ 9223372036854775807) (hR : Rd w w.heap.size A l) :
    Calls Try.prog 16 #[.slice A l.length c] w fun e w' => e = .returned (.tuple #[.int .i64 (lwS l), .bool (goodB l)]) ∧ Below w.heap.size w w' := by
  have K := Lib.hid (pgGood_any A c l w hn hcap hc2 hR)
  by_cases hg : goodB l = true
  · have hgg : Good l := by unfold goodB at hg; simpa using hg
    obtain ⟨f1, f2, f3, f4⟩ := wlG_facts hgg
    have K2 := Lib.hid (fun W (hb : Below w.heap.size w W) => wiLeast_any A c l (wlG l) W f1 f2 f3 f4 hgg (rd_more (rd_below hR hb (Nat.le_refl _)) hb.size))
    have hlw : lwS l = (wlG l : Int) := by unfold lwS; rw [if_pos hg]
    rw [hlw, hg]
    rw [hg] at K
    generalize dirG l (wlG l) = dg at *
    generalize wlG l = m at *
    clear hlw hg hgg f1 f2 f3 f4 hR
    go_enter Try.func16, Try.ntmps16
    go_wp2_with fail
    refine K.out.mono ?_; rintro e w1 ⟨rfl, hb1⟩
    go_wp2_with fail
    refine (K2.out _ hb1).mono ?_; rintro e w2 ⟨⟨v, rfl, hrv⟩, hb2⟩
    clear hrv
    go_wp2_with fail
    go_ret2
    exact ⟨rfl, hb1.trans (hb2.mono hb1.size)⟩
  · have hgf : goodB l = false := by simpa using hg
    have hlw : lwS l = 0 := by unfold lwS; rw [hgf]; rfl
    rw [hlw, hgf]
    rw [hgf] at K
    clear hlw hg hgf hR
    go_enter Try.func16, Try.ntmps16
    go_wp2_with fail
    refine K.out.mono ?_; rintro e w1 ⟨rfl, hb1⟩
    go_wp2_with fail
    go_ret2
    exact ⟨rfl, hb1⟩
theorem specDirectionsOfWidth_any (A : Option Addr) (c : Nat) (l : List (Int × Int)) (w : World) (hn : l.length ≤ 1048576) (hcap : l.length ≤ c) (hc2 : c ≤ 9223372036854775807) (hR : Rd w w.heap.size A l) :
    Calls Try.prog 20 #[.slice A l.length c] w fun e w' => (∃ v, e = .returned (.tuple #[v, .bool (goodB l)]) ∧ RowM w' w.heap.size v (dwS l)) ∧ Below w.heap.size w w' := by
  have K := Lib.hid (pgGood_any A c l w hn hcap hc2 hR)
  by_cases hg : goodB l = true
  · have hgg : Good l := by unfold goodB at hg; simpa using hg
    obtain ⟨f1, f2, f3, f4⟩ := wlG_facts hgg
    have K2 := Lib.hid (fun W (hb : Below w.heap.size w W) => wiLeast_any A c l (wlG l) W f1 f2 f3 f4 hgg (rd_more (rd_below hR hb (Nat.le_refl _)) hb.size))
    have hlw : dwS l = dirG l (wlG l) := by unfold dwS; rw [if_pos hg]
    rw [hlw, hg]
    rw [hg] at K
    generalize dirG l (wlG l) = dg at *
    generalize wlG l = m at *
    clear hlw hg hgg f1 f2 f3 f4 hR
    go_enter Try.func20, Try.ntmps20
    go_wp2_with fail
    refine K.out.mono ?_; rintro e w1 ⟨rfl, hb1⟩
    go_wp2_with fail
    refine (K2.out _ hb1).mono ?_; rintro e w2 ⟨⟨v, rfl, hrv⟩, hb2⟩
    have HR := Lib.hid (rowM_base hrv hb1.size)
    clear hrv
    go_wp2_with fail
    go_ret2
    exact ⟨⟨_, rfl, HR.out⟩, hb1.trans (hb2.mono hb1.size)⟩
  · have hgf : goodB l = false := by simpa using hg
    have hlw : dwS l = [] := by unfold dwS; rw [hgf]; rfl
    rw [hlw, hgf]
    rw [hgf] at K
    clear hlw hg hgf hR
    go_enter Try.func20, Try.ntmps20
    go_wp2_with fail
    refine K.out.mono ?_; rintro e w1 ⟨rfl, hb1⟩
    go_wp2_with fail
    go_ret2
    exact ⟨⟨_, rfl, rowM_nil _ _⟩, hb1⟩
end Go.Proofs.Ytheddoinnakneaa
/- contracts: spans, the program -/
namespace Go.Proofs.Ytheddoinnakneaa
open Go.ChangeShapes Go.WideShapes Go.ChangeAt Go.RowKit Go.Joins
set_option linter.unusedVariables false
set_option linter.unusedSimpArgs false
set_option maxRecDepth 4000
theorem value_any (u v : Int) (p : Int × Int) (w : World) (h1 : -20000 ≤ u) (h2 : u ≤ 20000) (h3 : -20000 ≤ v) (h4 : v ≤ 20000) (hp : isPg p = true) :
    Calls Try.prog 76 #[.agg #[.int .i64 u, .int .i64 v], .agg #[.int .i64 p.1, .int .i64 p.2]] w fun e w' => e = .returned (.int .i64 (vlu u v p)) ∧ Below w.heap.size w w' := by
  obtain ⟨⟨p1, p2⟩, p3, p4⟩ := vlu_parts h1 h2 h3 h4 hp
  have i0 : IntKind.i64.wrap (u * p.1) = u * p.1 := IntWalk.i64_in _ (by omega)
  have i1 : IntKind.i64.wrap (v * p.2) = v * p.2 := IntWalk.i64_in _ (by omega)
  have i2 : IntKind.i64.wrap (u * p.1 + v * p.2) = u * p.1 + v * p.2 := IntWalk.i64_in _ (by omega)
  clear h1 h2 h3 h4 hp p1 p2 p3 p4
  go_enter Try.func76, Try.ntmps76
  go_wp2_with fail
  go_ret
  exact ⟨rfl, (by repeat (first | exact Below.refl _ _ | assumption | apply Below.drew | refine Below.alloc ?_ (by simp <;> omega) _))⟩
/-- a span's box, one of our own -/
structure Spn (w wr : World) (g : Nat) (u v a b : Int) : Prop where
  below : Below w.heap.size w wr
  lo : w.heap.size ≤ g
  up : g < wr.heap.size
  c0 : wr.cell? ⟨g, 0, none⟩ = some (.int .i64 u)
  c1 : wr.cell? ⟨g, 1, none⟩ = some (.int .i64 v)
  c2 : wr.cell? ⟨g, 2, none⟩ = some (.int .i64 a)
  c3 : wr.cell? ⟨g, 3, none⟩ = some (.int .i64 b)
  fz : ∀ o, wr.frozen? ⟨g, o, none⟩ = false
theorem spn_below {w wr W : World} {g : Nat} {u v a b : Int} (t : Spn w wr g u v a b) (hb : Below wr.heap.size wr W) : Spn w W g u v a b := by
  obtain ⟨t1, t2, t3, t4, t5, t6, t7, t8⟩ := t
  have hc := (bcell hb).1
  have hf := (bcell hb).2
  have hz := hb.size
  exact ⟨t1.trans (hb.mono t1.size), t2, by omega, (hc _ _ t3).trans t4, (hc _ _ t3).trans t5, (hc _ _ t3).trans t6, (hc _ _ t3).trans t7, fun o => (hf _ _ t3).trans (t8 o)⟩
theorem spn_a {w wr : World} {g : Nat} {u v a b : Int} (t : Spn w wr g u v a b) (x : Int) : Spn w (wr.setCell ⟨g, 2, none⟩ (.int .i64 x)) g u v x b := by
  obtain ⟨t1, t2, t3, t4, t5, t6, t7, t8⟩ := t
  have o : ∀ k, k ≠ 2 → (wr.setCell ⟨g, 2, none⟩ (.int .i64 x)).cell? ⟨g, k, none⟩ = wr.cell? ⟨g, k, none⟩ := fun k hk => World.cell?_setCell_other _ _ _ _ (fun e => hk (by injection e with e1 e2; exact e2.symm))
  exact ⟨t1.setCell t2 _, t2, by simpa [World.setCell] using t3, (o 0 (by omega)).trans t4, (o 1 (by omega)).trans t5, World.cell?_setCell_same _ _ _ t6, (o 3 (by omega)).trans t7, fun k => by rw [World.frozen?_setCell]; exact t8 k⟩
theorem spn_b {w wr : World} {g : Nat} {u v a b : Int} (t : Spn w wr g u v a b) (x : Int) : Spn w (wr.setCell ⟨g, 3, none⟩ (.int .i64 x)) g u v a x := by
  obtain ⟨t1, t2, t3, t4, t5, t6, t7, t8⟩ := t
  have o : ∀ k, k ≠ 3 → (wr.setCell ⟨g, 3, none⟩ (.int .i64 x)).cell? ⟨g, k, none⟩ = wr.cell? ⟨g, k, none⟩ := fun k hk => World.cell?_setCell_other _ _ _ _ (fun e => hk (by injection e with e1 e2; exact e2.symm))
  exact ⟨t1.setCell t2 _, t2, by simpa [World.setCell] using t3, (o 0 (by omega)).trans t4, (o 1 (by omega)).trans t5, (o 2 (by omega)).trans t6, World.cell?_setCell_same _ _ _ t7, fun k => by rw [World.frozen?_setCell]; exact t8 k⟩
theorem spn_new (w w1 : World) (t : TypeId) (h : Below w.heap.size w w1) : Spn w (w1.alloc (.cells #[.int .i64 0, .int .i64 0, .int .i64 0, .int .i64 0] t)) w1.heap.size 0 0 0 0 :=
  ⟨Below.alloc h h.size _, h.size, by simp, by go_simp, by go_simp, by go_simp, by go_simp, fun o => by rw [frozen?_alloc_cells]; simp [World.frozen?]⟩
theorem spn_u {w wr : World} {g : Nat} {u v a b : Int} (t : Spn w wr g u v a b) (x : Int) : Spn w (wr.setCell ⟨g, 0, none⟩ (.int .i64 x)) g x v a b := by
  obtain ⟨t1, t2, t3, t4, t5, t6, t7, t8⟩ := t
  have o : ∀ k, k ≠ 0 → (wr.setCell ⟨g, 0, none⟩ (.int .i64 x)).cell? ⟨g, k, none⟩ = wr.cell? ⟨g, k, none⟩ := fun k hk => World.cell?_setCell_other _ _ _ _ (fun e => hk (by injection e with e1 e2; exact e2.symm))
  exact ⟨t1.setCell t2 _, t2, by simpa [World.setCell] using t3, World.cell?_setCell_same _ _ _ t4, (o 1 (by omega)).trans t5, (o 2 (by omega)).trans t6, (o 3 (by omega)).trans t7, fun k => by rw [World.frozen?_setCell]; exact t8 k⟩
theorem spn_v {w wr : World} {g : Nat} {u v a b : Int} (t : Spn w wr g u v a b) (x : Int) : Spn w (wr.setCell ⟨g, 1, none⟩ (.int .i64 x)) g u x a b := by
  obtain ⟨t1, t2, t3, t4, t5, t6, t7, t8⟩ := t
  have o : ∀ k, k ≠ 1 → (wr.setCell ⟨g, 1, none⟩ (.int .i64 x)).cell? ⟨g, k, none⟩ = wr.cell? ⟨g, k, none⟩ := fun k hk => World.cell?_setCell_other _ _ _ _ (fun e => hk (by injection e with e1 e2; exact e2.symm))
  exact ⟨t1.setCell t2 _, t2, by simpa [World.setCell] using t3, (o 0 (by omega)).trans t4, World.cell?_setCell_same _ _ _ t5, (o 2 (by omega)).trans t6, (o 3 (by omega)).trans t7, fun k => by rw [World.frozen?_setCell]; exact t8 k⟩
theorem spn_sets {w wr : World} {g : Nat} {u v a b : Int} (t : Spn w wr g u v a b) (x0 x1 x2 x3 : Int) : Spn w ((((wr.setCell ⟨g, 0, none⟩ (.int .i64 x0)).setCell ⟨g, 1, none⟩ (.int .i64 x1)).setCell ⟨g, 2, none⟩ (.int .i64 x2)).setCell ⟨g, 3, none⟩ (.int .i64 x3)) g x0 x1 x2 x3 :=
  spn_b (spn_a (spn_v (spn_u t x0) x1) x2) x3
theorem min_if' (x y : Int) : (if y < x then y else x) = min x y := by omega
theorem max_if' (x y : Int) : (if x < y then y else x) = max x y := by omega
set_option maxRecDepth 100000 in
set_option maxHeartbeats 4000000 in
theorem spanOf_any (A : Option Addr) (c : Nat) (l : List (Int × Int)) (u v : Int) (w : World) (h1 : -20000 ≤ u) (h2 : u ≤ 20000) (h3 : -20000 ≤ v) (h4 : v ≤ 20000) (hg : Good l) (hR : Rd w w.heap.size A l) :
    Calls Try.prog 63 #[.slice A l.length c, .agg #[.int .i64 u, .int .i64 v]] w fun e w' => e = .returned (.agg #[.int .i64 u, .int .i64 v, .int .i64 (loW l u v l.length), .int .i64 (hiW l u v l.length)]) ∧ Below w.heap.size w w' := by
  have hf := hg.few
  obtain ⟨b, off, rfl, hb, HC⟩ := pts_of (by omega) hR
  have KV := Lib.hid (fun i (hi : i < l.length) W => value_any u v (vx l i) W h1 h2 h3 h4 (hg.pegs i hi))
  have HBD := Lib.hid (lohi_bd h1 h2 h3 h4 hg.pegs (by omega))
  have HS : Hid (∀ k, loW l u v (k + 1) = min (loW l u v k) (vlu u v (vx l k)) ∧ hiW l u v (k + 1) = max (hiW l u v k) (vlu u v (vx l k))) := Lib.hid (fun k => ⟨rfl, rfl⟩)
  have H0 : Hid (loW l u v 0 = vlu u v (vx l 0) ∧ hiW l u v 0 = vlu u v (vx l 0)) := Lib.hid ⟨rfl, rfl⟩
  have h3l := hf.1
  have h10 := hf.2
  clear hR hf hg h1 h2 h3 h4
  generalize hN : l.length = n at *
  clear hN
  have hn0 : 0 < n := by omega
  go_enter Try.func63, Try.ntmps63
  go_wp2_with fail
  obtain ⟨W0, hW0⟩ : ∃ W0, W0 = ((w.alloc (.cells #[.int .i64 u, .int .i64 v] 66)).alloc (.cells #[.int .i64 0, .int .i64 0, .int .i64 0, .int .i64 0] 68)) := ⟨_, rfl⟩
  rw [← hW0]
  have yW00_0 : W0.cell? ⟨w.heap.size, 0, none⟩ = some (.int .i64 u) := by rw [hW0]; go_simp
  have yW00_1 : W0.cell? ⟨w.heap.size, 1, none⟩ = some (.int .i64 v) := by rw [hW0]; go_simp
  have fW00 : ∀ o, W0.frozen? ⟨w.heap.size, o, none⟩ = false := by intro o; rw [hW0]; (repeat rw [frozen?_alloc_cells]); simp [World.frozen?]
  have zW00 : w.heap.size < W0.heap.size := by rw [hW0]; simp <;> omega
  have yW01_0 : W0.cell? ⟨w.heap.size + 1, 0, none⟩ = some (.int .i64 0) := by rw [hW0]; go_simp
  have yW01_1 : W0.cell? ⟨w.heap.size + 1, 1, none⟩ = some (.int .i64 0) := by rw [hW0]; go_simp
  have yW01_2 : W0.cell? ⟨w.heap.size + 1, 2, none⟩ = some (.int .i64 0) := by rw [hW0]; go_simp
  have yW01_3 : W0.cell? ⟨w.heap.size + 1, 3, none⟩ = some (.int .i64 0) := by rw [hW0]; go_simp
  have fW01 : ∀ o, W0.frozen? ⟨w.heap.size + 1, o, none⟩ = false := by intro o; rw [hW0]; (repeat rw [frozen?_alloc_cells]); simp [World.frozen?]
  have zW01 : w.heap.size + 1 < W0.heap.size := by rw [hW0]; simp <;> omega
  have BW0 : Below w.heap.size w W0 := by rw [hW0]; exact (Below.alloc (Below.alloc (Below.refl _ _) (by simp <;> omega) _) (by simp <;> omega) _)
  have eW0 : Hid (W0.heap.size = w.heap.size + 2) := Lib.hid (by rw [hW0]; simp)
  clear hW0
  obtain ⟨x0, x1⟩ := HC.out W0 BW0 0 (by omega)
  simp only [Nat.zero_mul, Nat.add_zero] at x0 x1
  have K0 := Lib.hid (fun W => KV.out 0 (by omega) W)
  generalize hv0 : vlu u v (vx l 0) = v0 at *
  have HV0 := Lib.hid hv0
  clear hv0
  have D0 := yW00_0
  have D1 := yW00_1
  have hb0 : b < W0.heap.size := by have := BW0.size; omega
  refine wp_region_AL 12 (W0) (obj := .cells #[.int .i64 0, .int .i64 0, .int .i64 0, .int .i64 0] 68) (by kernel_rfl) (by kernel_rfl) (by repeat (first | exact Below.refl _ _ | apply Below.drew)) rfl (fun _ => by rfl) (fun _ _ => by first | rfl | go_simp) ?_
  simp only [List.take_succ_cons, List.take_zero, List.drop_succ_cons, List.drop_zero]
  first | refine wpR_skip (by rfl) ?_ | (refine wpR_text (v := ?_) (by rfl) (fun W k1 => ?_) ?_; rotate_left; (obtain ⟨hc1, hf1⟩ := bcell k1;  go_simp; refine comes_v ?_; exact Below.refl _ _))
  (try simp only [Act.put, List.setIfInBounds_toArray, List.set_cons_zero, List.set_cons_succ])
  first | refine wpR_skip (by rfl) ?_ | (refine wpR_text (v := ?_) (by rfl) (fun W k1 => ?_) ?_; rotate_left; (obtain ⟨hc1, hf1⟩ := bcell k1;  go_simp; refine comes_v ?_; exact Below.refl _ _))
  (try simp only [Act.put, List.setIfInBounds_toArray, List.set_cons_zero, List.set_cons_succ])
  first | refine wpR_skip (by rfl) ?_ | (refine wpR_text (v := ?_) (by rfl) (fun W k1 => ?_) ?_; rotate_left; (obtain ⟨hc1, hf1⟩ := bcell k1;  go_simp; refine comes_v ?_; exact Below.refl _ _))
  (try simp only [Act.put, List.setIfInBounds_toArray, List.set_cons_zero, List.set_cons_succ])
  first | refine wpR_skip (by rfl) ?_ | (refine wpR_text (v := ?_) (by rfl) (fun W k1 => ?_) ?_; rotate_left; (obtain ⟨hc1, hf1⟩ := bcell k1;  go_simp; refine comes_v ?_; exact Below.refl _ _))
  (try simp only [Act.put, List.setIfInBounds_toArray, List.set_cons_zero, List.set_cons_succ])
  first | refine wpR_skip (by rfl) ?_ | (refine wpR_text (v := ?_) (by rfl) (fun W k1 => ?_) ?_; rotate_left; (obtain ⟨hc1, hf1⟩ := bcell k1;  go_simp; refine comes_v ?_; exact Below.refl _ _))
  (try simp only [Act.put, List.setIfInBounds_toArray, List.set_cons_zero, List.set_cons_succ])
  first | refine wpR_skip (by rfl) ?_ | (refine wpR_text (v := .int .i64 v0) (by rfl) (fun W k1 => ?_) ?_; (obtain ⟨hc1, hf1⟩ := bcell k1;  go_simp; exact comes_c ( K0.out _) (fun wn hbn => hbn)))
  (try simp only [Act.put, List.setIfInBounds_toArray, List.set_cons_zero, List.set_cons_succ])
  first | refine wpR_skip (by rfl) ?_ | (refine wpR_text (v := ?_) (by rfl) (fun W k1 => ?_) ?_; rotate_left; (obtain ⟨hc1, hf1⟩ := bcell k1;  go_simp; refine comes_v ?_; exact Below.refl _ _))
  (try simp only [Act.put, List.setIfInBounds_toArray, List.set_cons_zero, List.set_cons_succ])
  first | refine wpR_skip (by rfl) ?_ | (refine wpR_text (v := ?_) (by rfl) (fun W k1 => ?_) ?_; rotate_left; (obtain ⟨hc1, hf1⟩ := bcell k1;  go_simp; refine comes_v ?_; exact Below.refl _ _))
  (try simp only [Act.put, List.setIfInBounds_toArray, List.set_cons_zero, List.set_cons_succ])
  first | refine wpR_skip (by rfl) ?_ | (refine wpR_text (v := ?_) (by rfl) (fun W k1 => ?_) ?_; rotate_left; (obtain ⟨hc1, hf1⟩ := bcell k1;  go_simp; refine comes_v ?_; exact Below.refl _ _))
  (try simp only [Act.put, List.setIfInBounds_toArray, List.set_cons_zero, List.set_cons_succ])
  first | refine wpR_skip (by rfl) ?_ | (refine wpR_text (v := ?_) (by rfl) (fun W k1 => ?_) ?_; rotate_left; (obtain ⟨hc1, hf1⟩ := bcell k1;  go_simp; refine comes_v ?_; exact Below.refl _ _))
  (try simp only [Act.put, List.setIfInBounds_toArray, List.set_cons_zero, List.set_cons_succ])
  first | refine wpR_skip (by rfl) ?_ | (refine wpR_text (v := .int .i64 v0) (by rfl) (fun W k1 => ?_) ?_; (obtain ⟨hc1, hf1⟩ := bcell k1;  go_simp; exact comes_c ( K0.out _) (fun wn hbn => hbn)))
  (try simp only [Act.put, List.setIfInBounds_toArray, List.set_cons_zero, List.set_cons_succ])
  first | refine wpR_skip (by rfl) ?_ | (refine wpR_text (v := ?_) (by rfl) (fun W k1 => ?_) ?_; rotate_left; (obtain ⟨hc1, hf1⟩ := bcell k1;  go_simp; refine comes_v ?_; exact Below.refl _ _))
  (try simp only [Act.put, List.setIfInBounds_toArray, List.set_cons_zero, List.set_cons_succ])
  refine wpR_nil ?_
  intro W1 W k1 k2
  (try simp only [Act.put, List.setIfInBounds_toArray, List.set_cons_zero, List.set_cons_succ])
  have T0 := Lib.hid (spn_below (spn_new W0 W1 68 k1) k2)
  have T1 := Lib.hid (spn_sets T0.out u v v0 v0)
  obtain ⟨t1, t2, t3, t4, t5, t6, t7, t8⟩ := T0.out
  clear k1 k2 x0 x1 t1 T0 K0
  go_wp2_with fail
  have T2 := T1.out
  clear T1 t3 t4 t5 t6 t7 t8
  obtain ⟨g, hg⟩ : ∃ x, x = W1.heap.size := ⟨_, rfl⟩
  rw [← hg] at T2 t2 ⊢
  clear hg
  generalize ((((W.setCell ⟨g, 0, none⟩ (.int .i64 u)).setCell ⟨g, 1, none⟩ (.int .i64 v)).setCell ⟨g, 2, none⟩ (.int .i64 v0)).setCell ⟨g, 3, none⟩ (.int .i64 v0)) = W2 at T2 ⊢
  have T3 : Hid (Spn W0 W2 g u v (loW l u v 0) (hiW l u v 0)) := Lib.hid (by rw [H0.out.1, H0.out.2]; exact T2)
  clear T2
  go_wp2_with fail
  go_loopg [22] n (fun gg i wr => ∃ k : Nat, k ≤ n ∧ gg = n - k ∧ i = .int .i64 k ∧ Hid (Spn W0 wr g u v (loW l u v k) (hiW l u v k)))
  case atStart => exact ⟨0, Nat.zero_le _, rfl, rfl, T3⟩
  case round =>
    clear T3
    obtain ⟨k, hk, hgg, rfl, hT⟩ := hrel
    rename World => wo
    have HGK := Lib.hid hgg
    clear hgg
    by_cases hlt : k < n
    · obtain ⟨x0, x1⟩ := HC.out wo (BW0.trans (hT.out.below.mono BW0.size)) k hlt
      have hbo : b < wo.heap.size := by have := hT.out.below.size; omega
      obtain ⟨s1, s2⟩ := HS.out k
      have K1 := Lib.hid (fun W => KV.out k hlt W)
      generalize vlu u v (vx l k) = z at *
      have hup := hT.out.up
      go_wp2_with fail
      obtain ⟨Wb, hWb⟩ : ∃ Wb, Wb = (wo.alloc (.cells #[.int .i64 ((vx l k).1), .int .i64 ((vx l k).2)] 56)) := ⟨_, rfl⟩
      rw [← hWb]
      have yWb0_0 : Wb.cell? ⟨wo.heap.size, 0, none⟩ = some (.int .i64 ((vx l k).1)) := by rw [hWb]; go_simp
      have yWb0_1 : Wb.cell? ⟨wo.heap.size, 1, none⟩ = some (.int .i64 ((vx l k).2)) := by rw [hWb]; go_simp
      have fWb0 : ∀ o, Wb.frozen? ⟨wo.heap.size, o, none⟩ = false := by intro o; rw [hWb]; (repeat rw [frozen?_alloc_cells]); simp [World.frozen?]
      have zWb0 : wo.heap.size < Wb.heap.size := by rw [hWb]; simp <;> omega
      have BWb : Below wo.heap.size wo Wb := by rw [hWb]; exact (Below.alloc (Below.refl _ _) (by simp <;> omega) _)
      have eWb : Hid (Wb.heap.size = wo.heap.size + 1) := Lib.hid (by rw [hWb]; simp)
      clear hWb
      have T1 := Lib.hid (spn_below hT.out BWb)
      have c2 := T1.out.c2
      have zg := T1.out.up
      have E0 := (T1.out.below.cell (p := ⟨w.heap.size, 0, none⟩) zW00).trans D0
      have E1 := (T1.out.below.cell (p := ⟨w.heap.size, 1, none⟩) zW00).trans D1
      have ze : w.heap.size < Wb.heap.size := by have := T1.out.below.size; omega
      have gne : g ≠ wo.heap.size := by omega
      clear hT x0 x1 BWb fWb0 eWb
      generalize loW l u v k = lo at *
      generalize hiW l u v k = hi at *
      have mn := min_if' lo z
      have mx := max_if' hi z
      refine wp_region_BT 7 (fun W => Below (Wb).heap.size (Wb) W) (by kernel_rfl) (by kernel_rfl) (by repeat (first | exact Below.refl _ _ | apply Below.drew)) ?_
      simp only [List.take_succ_cons, List.take_zero, List.drop_succ_cons, List.drop_zero]
      first | refine wpH_skip (by rfl) ?_ | (refine wpH_text (v := ?_) (by rfl) (fun W k1 => ?_) ?_; rotate_left; (obtain ⟨hc1, hf1⟩ := bcell k1;  go_simp; refine comes_v ?_; exact k1))
      (try simp only [Act.put, List.setIfInBounds_toArray, List.set_cons_zero, List.set_cons_succ])
      first | refine wpH_skip (by rfl) ?_ | (refine wpH_text (v := ?_) (by rfl) (fun W k1 => ?_) ?_; rotate_left; (obtain ⟨hc1, hf1⟩ := bcell k1;  go_simp; refine comes_v ?_; exact k1))
      (try simp only [Act.put, List.setIfInBounds_toArray, List.set_cons_zero, List.set_cons_succ])
      first | refine wpH_skip (by rfl) ?_ | (refine wpH_text (v := ?_) (by rfl) (fun W k1 => ?_) ?_; rotate_left; (obtain ⟨hc1, hf1⟩ := bcell k1;  go_simp; refine comes_v ?_; exact k1))
      (try simp only [Act.put, List.setIfInBounds_toArray, List.set_cons_zero, List.set_cons_succ])
      first | refine wpH_skip (by rfl) ?_ | (refine wpH_text (v := ?_) (by rfl) (fun W k1 => ?_) ?_; rotate_left; (obtain ⟨hc1, hf1⟩ := bcell k1;  go_simp; refine comes_v ?_; exact k1))
      (try simp only [Act.put, List.setIfInBounds_toArray, List.set_cons_zero, List.set_cons_succ])
      first | refine wpH_skip (by rfl) ?_ | (refine wpH_text (v := .int .i64 z) (by rfl) (fun W k1 => ?_) ?_; (obtain ⟨hc1, hf1⟩ := bcell k1;  go_simp; exact comes_c ( K1.out _) (fun wn hbn => k1.trans (hbn.mono k1.size))))
      (try simp only [Act.put, List.setIfInBounds_toArray, List.set_cons_zero, List.set_cons_succ])
      first | refine wpH_skip (by rfl) ?_ | (refine wpH_text (v := ?_) (by rfl) (fun W k1 => ?_) ?_; rotate_left; (obtain ⟨hc1, hf1⟩ := bcell k1;  go_simp; refine comes_v ?_; exact k1))
      (try simp only [Act.put, List.setIfInBounds_toArray, List.set_cons_zero, List.set_cons_succ])
      first | refine wpH_skip (by rfl) ?_ | (refine wpH_text (v := ?_) (by rfl) (fun W k1 => ?_) ?_; rotate_left; (obtain ⟨hc1, hf1⟩ := bcell k1;  go_simp; refine comes_v ?_; exact k1))
      (try simp only [Act.put, List.setIfInBounds_toArray, List.set_cons_zero, List.set_cons_succ])
      refine wpH_nil ?_
      intro W k1; obtain ⟨hc1, hf1⟩ := bcell k1
      have T2 := Lib.hid (spn_a (spn_below T1.out k1) (min lo z))
      have d2 := (spn_below T1.out k1).c2
      have d3 := (spn_below T1.out k1).fz 2
      have d4 := (spn_below T1.out k1).up
      have p0 := (hc1 _ 0 zWb0).trans yWb0_0
      have p1 := (hc1 _ 1 zWb0).trans yWb0_1
      have zp := Nat.lt_of_lt_of_le zWb0 k1.size
      clear hc1 hf1 k1 c2 zg E0 E1 ze yWb0_0 yWb0_1 zWb0 T1
      go_wp2_with fail
      try simp only [mn]
      obtain ⟨W3, hW3⟩ : ∃ W3, W3 = W.setCell ⟨g, 2, none⟩ (.int .i64 (min lo z)) := ⟨_, rfl⟩
      rw [← hW3]
      rw [← hW3] at T2
      have p0' : W3.cell? ⟨wo.heap.size, 0, none⟩ = some (.int .i64 (vx l k).1) := by
        rw [hW3, World.cell?_setCell_other _ _ _ _ (fun e => gne (by injection e))]; exact p0
      have p1' : W3.cell? ⟨wo.heap.size, 1, none⟩ = some (.int .i64 (vx l k).2) := by
        rw [hW3, World.cell?_setCell_other _ _ _ _ (fun e => gne (by injection e))]; exact p1
      have zp3 : wo.heap.size < W3.heap.size := by rw [hW3]; simpa [World.setCell] using zp
      clear hW3 d2 d3 d4 p0 p1 zp
      have c3 := T2.out.c3
      have zg := T2.out.up
      have E0 := (T2.out.below.cell (p := ⟨w.heap.size, 0, none⟩) zW00).trans D0
      have E1 := (T2.out.below.cell (p := ⟨w.heap.size, 1, none⟩) zW00).trans D1
      have ze : w.heap.size < W3.heap.size := by have := T2.out.below.size; omega
      go_wp2_with fail
      refine wp_region_BT 7 (fun W => Below (W3).heap.size (W3) W) (by kernel_rfl) (by kernel_rfl) (by repeat (first | exact Below.refl _ _ | apply Below.drew)) ?_
      simp only [List.take_succ_cons, List.take_zero, List.drop_succ_cons, List.drop_zero]
      first | refine wpH_skip (by rfl) ?_ | (refine wpH_text (v := ?_) (by rfl) (fun W k1 => ?_) ?_; rotate_left; (obtain ⟨hc1, hf1⟩ := bcell k1;  go_simp; refine comes_v ?_; exact k1))
      (try simp only [Act.put, List.setIfInBounds_toArray, List.set_cons_zero, List.set_cons_succ])
      first | refine wpH_skip (by rfl) ?_ | (refine wpH_text (v := ?_) (by rfl) (fun W k1 => ?_) ?_; rotate_left; (obtain ⟨hc1, hf1⟩ := bcell k1;  go_simp; refine comes_v ?_; exact k1))
      (try simp only [Act.put, List.setIfInBounds_toArray, List.set_cons_zero, List.set_cons_succ])
      first | refine wpH_skip (by rfl) ?_ | (refine wpH_text (v := ?_) (by rfl) (fun W k1 => ?_) ?_; rotate_left; (obtain ⟨hc1, hf1⟩ := bcell k1;  go_simp; refine comes_v ?_; exact k1))
      (try simp only [Act.put, List.setIfInBounds_toArray, List.set_cons_zero, List.set_cons_succ])
      first | refine wpH_skip (by rfl) ?_ | (refine wpH_text (v := ?_) (by rfl) (fun W k1 => ?_) ?_; rotate_left; (obtain ⟨hc1, hf1⟩ := bcell k1;  go_simp; refine comes_v ?_; exact k1))
      (try simp only [Act.put, List.setIfInBounds_toArray, List.set_cons_zero, List.set_cons_succ])
      first | refine wpH_skip (by rfl) ?_ | (refine wpH_text (v := .int .i64 z) (by rfl) (fun W k1 => ?_) ?_; (obtain ⟨hc1, hf1⟩ := bcell k1;  go_simp; exact comes_c ( K1.out _) (fun wn hbn => k1.trans (hbn.mono k1.size))))
      (try simp only [Act.put, List.setIfInBounds_toArray, List.set_cons_zero, List.set_cons_succ])
      first | refine wpH_skip (by rfl) ?_ | (refine wpH_text (v := ?_) (by rfl) (fun W k1 => ?_) ?_; rotate_left; (obtain ⟨hc1, hf1⟩ := bcell k1;  go_simp; refine comes_v ?_; exact k1))
      (try simp only [Act.put, List.setIfInBounds_toArray, List.set_cons_zero, List.set_cons_succ])
      first | refine wpH_skip (by rfl) ?_ | (refine wpH_text (v := ?_) (by rfl) (fun W k1 => ?_) ?_; rotate_left; (obtain ⟨hc1, hf1⟩ := bcell k1;  go_simp; refine comes_v ?_; exact k1))
      (try simp only [Act.put, List.setIfInBounds_toArray, List.set_cons_zero, List.set_cons_succ])
      refine wpH_nil ?_
      intro W k1; obtain ⟨hc1, hf1⟩ := bcell k1
      have T4 := Lib.hid (spn_b (spn_below T2.out k1) (max hi z))
      have d2 := (spn_below T2.out k1).c3
      have d3 := (spn_below T2.out k1).fz 3
      have d4 := (spn_below T2.out k1).up
      clear hc1 hf1 k1 c3 zg E0 E1 ze p0' p1' zp3 T2
      go_wp2_with fail
      try simp only [mx]
      go_roundg (n - (k + 1))
      case measure => have := HGK.out; omega
      case rel => exact ⟨k + 1, by omega, rfl, by go_num, Lib.hid (by rw [s1, s2]; exact T4.out)⟩
    · obtain rfl : k = n := by omega
      obtain ⟨t1, t2, t3, t4, t5, t6, t7, t8⟩ := hT.out
      have r0 := (t1.cell (p := ⟨w.heap.size + 1, 0, none⟩) zW01).trans yW01_0
      have r1 := (t1.cell (p := ⟨w.heap.size + 1, 1, none⟩) zW01).trans yW01_1
      have r2 := (t1.cell (p := ⟨w.heap.size + 1, 2, none⟩) zW01).trans yW01_2
      have r3 := (t1.cell (p := ⟨w.heap.size + 1, 3, none⟩) zW01).trans yW01_3
      have q0 := (t1.frozen (p := ⟨w.heap.size + 1, 0, none⟩) zW01).trans (fW01 0)
      have q1 := (t1.frozen (p := ⟨w.heap.size + 1, 1, none⟩) zW01).trans (fW01 1)
      have q2 := (t1.frozen (p := ⟨w.heap.size + 1, 2, none⟩) zW01).trans (fW01 2)
      have q3 := (t1.frozen (p := ⟨w.heap.size + 1, 3, none⟩) zW01).trans (fW01 3)
      have zr : w.heap.size + 1 < wo.heap.size := by have := t1.size; omega
      have BB : Below w.heap.size w wo := BW0.trans (t1.mono BW0.size)
      have zz := BB.size
      clear hT D0 D1 yW00_0 yW00_1 yW01_0 yW01_1 yW01_2 yW01_3 fW00 fW01
      go_wp2_with fail
      refine bodyPost_ret (v := .agg #[.int .i64 u, .int .i64 v, .int .i64 (loW l u v k), .int .i64 (hiW l u v k)]) (by simp [results, Try.results63, go_sem, r0, r1, r2, r3, zr]) rfl ⟨rfl, ?_⟩
      repeat (first | with_reducible assumption | with_reducible exact Below.refl _ _ | with_reducible apply Below.drew | ((with_reducible refine Below.setCell ?_ ?_ _); rotate_left; (first | exact Nat.le_refl _ | omega | (simp <;> omega))) | ((with_reducible refine Below.alloc ?_ ?_ _); rotate_left; (first | omega | (simp <;> omega))))
end Go.Proofs.Ytheddoinnakneaa

