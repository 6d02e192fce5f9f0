/- joined: Bf0 Wm0 Ml M U Sc Hm V W X Sd Twz U0 Bh Bi -/
import Derived.Test.YtheddoinnakneaaZDirectionsOfWidth1
import Derived.Laws.AppendOwnNone
import Derived.Laws.OwnMore
import Derived.OwnWalk
import Derived.LoopTactic
import Derived.Deep.QuietTactic
import Derived.BigQuiet
import Derived.StillTailTactics
/- rows that are read while others grow -/
namespace Go.Proofs.Ytheddoinnakneaa
open Go.ChangeShapes Go.WideShapes Go.ChangeAt Go.RowKit Go.Joins
set_option linter.unusedVariables false
set_option linter.unusedSimpArgs false
set_option maxRecDepth 4000
theorem ownB {w w' : World} {base B : Nat} {e : TypeId} {size : Nat} {v : Value} {n : Nat} {xs : List Value} (h : w.ownsRow base e size v n xs) (hb : Below B w w') (hB : w.heap.size ≤ B) : w'.ownsRow base e size v n xs := by
  have hlt := World.ownsRow.lt h
  obtain ⟨h1, h2⟩ := h
  rcases h2 with h2 | ⟨g, cap, cur, hv, hg, hh, r⟩
  · exact ⟨h1, .inl h2⟩
  · have hl := hlt g (by rw [hv]; rfl)
    exact ⟨h1, .inr ⟨g, cap, cur, hv, hg, (hb.block g (by omega)).trans hh, r⟩⟩
theorem own_base {w : World} {base base' : Nat} {e : TypeId} {size : Nat} {v : Value} {n : Nat} {xs : List Value} (h : w.ownsRow base e size v n xs) (hB : base' ≤ base) : w.ownsRow base' e size v n xs := by
  obtain ⟨h1, h2⟩ := h
  rcases h2 with h2 | ⟨g, cap, cur, hv, hg, r⟩
  · exact ⟨h1, .inl h2⟩
  · exact ⟨h1, .inr ⟨g, cap, cur, hv, Nat.le_trans hB hg, r⟩⟩
/-- a row without its last point -/
theorem own_pop {w : World} {base g n cap : Nat} {L : List (Int × Int)} {b : Int × Int} (h : w.ownsRow base 56 2 (.slice (some ⟨g, 0, none⟩) (n + 1) cap) (n + 1) (flat (L ++ [b]))) (hl : L.length = n) :
    w.ownsRow base 56 2 (.slice (some ⟨g, 0, none⟩) n cap) n (flat L) := by
  refine ⟨by rw [flat_len, hl], .inr ?_⟩
  rcases h.2 with ⟨hv, _⟩ | ⟨g', cap', cur, hv, hg, hh, hc, hm, hs, ht⟩
  · simp at hv
  · simp only [Value.slice.injEq, Option.some.injEq, Addr.mk.injEq, and_true, true_and] at hv
    obtain ⟨rfl, rfl⟩ := hv
    refine ⟨g, cap, cur, rfl, hg, hh, by omega, hm, hs, ?_⟩
    have e : (cur.toList.take ((n + 1) * 2)).take (n * 2) = flat L := by
      rw [ht, flat_app, List.take_append_of_le_length (by rw [flat_len]; omega), List.take_of_length_le (by rw [flat_len]; omega)]
    rw [← e, List.take_take, Nat.min_eq_left (by omega)]
/-- the value of a row -/
theorem own_val {w : World} {base : Nat} {e : TypeId} {size : Nat} {v : Value} {n : Nat} {xs : List Value} (h : w.ownsRow base e size v n xs) :
    (v = .slice none 0 0 ∧ n = 0) ∨ ∃ g cap, v = .slice (some ⟨g, 0, none⟩) n cap ∧ n ≤ cap ∧ cap ≤ maxLen ∧ base ≤ g ∧ g < w.heap.size := by
  have hlt := World.ownsRow.lt h
  rcases h.2 with h2 | ⟨g, cap, cur, hv, hg, hh, hc, hm, _⟩
  · exact .inl h2
  · exact .inr ⟨g, cap, hv, hc, hm, hg, (hlt g (by rw [hv]; rfl)).2⟩
theorem own_pt {w : World} {base g n cap : Nat} {s : List (Int × Int)} (h : w.ownsRow base 56 2 (.slice (some ⟨g, 0, none⟩) n cap) n (flat s)) (hs : s.length = n) (i : Nat) (hi : i < n) :
    w.cell? ⟨g, i * 2, none⟩ = some (.int .i64 (pt s i).1) ∧ w.cell? ⟨g, i * 2 + 1, none⟩ = some (.int .i64 (pt s i).2) := by
  have hf := flat_get s i (by omega)
  exact ⟨(World.ownsRow.cellAt h (i * 2) (by omega)).trans hf.1, (World.ownsRow.cellAt h (i * 2 + 1) (by omega)).trans hf.2⟩
theorem take_own {w : World} {base g n cap : Nat} {s : List (Int × Int)} (h : w.ownsRow base 56 2 (.slice (some ⟨g, 0, none⟩) n cap) n (flat s)) (j : Nat) :
    ∀ i u, (flat (s.take j))[i]? = some u → w.cell? ((⟨g, 0, none⟩ : Addr).add i) = some u := by
  intro i u hi
  refine World.ownsRow.cells h (g := g) rfl i u ?_
  rw [← List.take_append_drop j s, flat_app, List.getElem?_append_left ((List.getElem?_eq_some_iff.1 hi).1)]
  exact hi
theorem drop_own {w : World} {base g n cap : Nat} {s : List (Int × Int)} (h : w.ownsRow base 56 2 (.slice (some ⟨g, 0, none⟩) n cap) n (flat s)) (j : Nat) (hj : j ≤ s.length) :
    ∀ i u, (flat (s.drop j))[i]? = some u → w.cell? ((⟨g, j * 2, none⟩ : Addr).add i) = some u := by
  intro i u hi
  have := World.ownsRow.cells h (g := g) rfl (j * 2 + i) u (by
    rw [← List.take_append_drop j s, flat_app, List.getElem?_append_right (by rw [flat_len, List.length_take]; omega), flat_len, List.length_take, Nat.min_eq_left hj, Nat.add_sub_cancel_left]
    exact hi)
  rw [add_plain] at this ⊢
  rw [Nat.zero_add] at this
  exact this
theorem append_none_run {P : Program} {w : World} {base : Nat} {t ty e : TypeId} {i : TypeInfo} {size : Nat} {v : Value} {n : Nat} {xs : List Value} (ht : P.underlying t = some (.slice e)) (hi : P.info? e = some i) (hown : w.ownsRow base e size v n xs) :
    (Builtin.append_ #[t, t] ty #[v, .slice none 0 0]).run P w = .ok v w := run_append_owned_none (P := P) (w := w) base t ty e i size ht hi v n xs hown
theorem wp_append_none {P : Program} {w : World} {o : Oper} {a : Act} {K : Act → World → Prop} {Q : Exit → Act → World → Prop} (s x : Operand) (t : TypeId)
    (ho : o.op = .call { callee := .builtin .append, args := #[s, x], argTypes := #[t, t] })
    (base : Nat) (e : TypeId) (i : TypeInfo) (size : Nat) (ht : P.underlying t = some (.slice e)) (hi : P.info? e = some i)
    (v : Value) (n : Nat) (xs : List Value) (hs : a.eval s = v) (hown : w.ownsRow base e size v n xs) (hx : a.eval x = .slice none 0 0)
    (h : K (a.put o.dst v) w) : o.wp P a w K Q := by
  have hrun := run_append_owned_none (P := P) (w := w) base t o.type e i size ht hi v n xs hown
  unfold Oper.wp
  simp [execOp, ho, resolve, invoke, builtin, hs, hx, hrun, Result.andThen]
  exact h
theorem ins_flat {s : List (Int × Int)} {p1 p2 : Int} {j : Nat} (h : j = insAt s (p1, p2)) : flat (ins s (p1, p2)) = ([] ++ flat (s.take j) ++ [.int .i64 p1, .int .i64 p2]) ++ flat (s.drop j) := by
  unfold ins
  rw [← h, flat_app, flat_app, List.nil_append]
  rfl
end Go.Proofs.Ytheddoinnakneaa
/- rows of pairs of numbers of one's own, each pair in a block of its own; a pair is put in -/
namespace Go.Proofs.Ytheddoinnakneaa
open Go.ChangeShapes Go.WideShapes Go.ChangeAt Go.RowKit Go.Joins
set_option linter.unusedVariables false
set_option linter.unusedSimpArgs false
set_option maxRecDepth 4000
def slM (q : List Nat) : List Value := q.map fun b => Value.slice (some ⟨b, 0, none⟩) 2 2
/-- the pairs lie in the blocks q -/
structure PrM (w : World) (base : Nat) (q : List Nat) (m : List (Int × Int)) : Prop where
  len : q.length = m.length
  nod : q.Nodup
  at_ : ∀ (i b : Nat) (p : Int × Int), q[i]? = some b → m[i]? = some p → base ≤ b ∧ b < w.heap.size ∧ w.heap[b]? = some (.cells #[.int .i64 p.1, .int .i64 p.2] 3 (0, 0))
def RowM (w : World) (base : Nat) (v : Value) (m : List (Int × Int)) : Prop := ∃ q, w.ownsRow base 47 1 v m.length (slM q) ∧ PrM w base q m
theorem slM_len (q : List Nat) : (slM q).length = q.length := by unfold slM; simp
theorem slM_one (q : List Nat) : ∀ u ∈ slM q, u.oneCell' = true := by
  intro u hu
  unfold slM at hu
  rw [List.mem_map] at hu
  obtain ⟨b, _, rfl⟩ := hu
  rfl
theorem slM_get {q : List Nat} {i b : Nat} (h : q[i]? = some b) : (slM q)[i]? = some (.slice (some ⟨b, 0, none⟩) 2 2) := by
  unfold slM
  rw [List.getElem?_map, h]; rfl
theorem rowM_nil (w : World) (base : Nat) : RowM w base (.slice none 0 0) [] := ⟨[], World.ownsRow_nil w base _ _, rfl, List.nodup_nil, fun i b p h => by simp at h⟩
theorem prM_blocks {w w' : World} {base : Nat} {q : List Nat} {m : List (Int × Int)} (h : PrM w base q m) (hs : w.heap.size ≤ w'.heap.size) (hk : ∀ b ∈ q, w'.heap[b]? = w.heap[b]?) : PrM w' base q m :=
  ⟨h.len, h.nod, fun i b p h1 h2 => by
    obtain ⟨a1, a2, a3⟩ := h.at_ i b p h1 h2
    exact ⟨a1, Nat.lt_of_lt_of_le a2 hs, (hk b (List.mem_of_getElem? h1)).trans a3⟩⟩
theorem prM_lt {w : World} {base : Nat} {q : List Nat} {m : List (Int × Int)} (h : PrM w base q m) {b : Nat} (hb : b ∈ q) : base ≤ b ∧ b < w.heap.size := by
  obtain ⟨i, hi⟩ := List.mem_iff_getElem?.1 hb
  have hl : i < q.length := by
    rcases Nat.lt_or_ge i q.length with g | g
    · exact g
    · rw [List.getElem?_eq_none g] at hi; cases hi
  have := h.at_ i b _ hi (pt_get (l := m) (i := i) (by rw [← h.len]; exact hl))
  exact ⟨this.1, this.2.1⟩
theorem prM_below {w w' : World} {base B : Nat} {q : List Nat} {m : List (Int × Int)} (h : PrM w base q m) (hb : Below B w w') (hB : w.heap.size ≤ B) : PrM w' base q m :=
  prM_blocks h hb.size (fun b hbq => hb.block b (by have := (prM_lt h hbq).2; omega))
theorem ownM_below {w w' : World} {base B : Nat} {v : Value} {n : Nat} {xs : List Value} (h : w.ownsRow base 47 1 v n xs) (hb : Below B w w') (hB : w.heap.size ≤ B) : w'.ownsRow base 47 1 v n xs := by
  have h0 := h
  obtain ⟨h1, h2⟩ := h
  rcases h2 with h2 | ⟨g, cap, cur, hv, hg, hh, r⟩
  · exact ⟨h1, .inl h2⟩
  · have hl := World.ownsRow.lt h0 g (by rw [hv]; rfl)
    exact ⟨h1, .inr ⟨g, cap, cur, hv, hg, (hb.block g (by omega)).trans hh, r⟩⟩
theorem rowM_below {w w' : World} {base B : Nat} {v : Value} {m : List (Int × Int)} (h : RowM w base v m) (hb : Below B w w') (hB : w.heap.size ≤ B) : RowM w' base v m := by
  obtain ⟨q, h1, h2⟩ := h
  exact ⟨q, ownM_below h1 hb hB, prM_below h2 hb hB⟩
/-- pair number j is read -/
theorem prM_read {w : World} {base : Nat} {q : List Nat} {m : List (Int × Int)} (h : PrM w base q m) {j : Nat} (hj : j < m.length) :
    ∃ b, q[j]? = some b ∧ b < w.heap.size ∧ w.cell? ⟨b, 0, none⟩ = some (.int .i64 (pt m j).1) ∧ w.cell? ⟨b, 1, none⟩ = some (.int .i64 (pt m j).2) := by
  have hq : j < q.length := by rw [h.len]; exact hj
  obtain ⟨a1, a2, a3⟩ := h.at_ j _ _ (List.getElem?_eq_getElem hq) (pt_get hj)
  exact ⟨_, List.getElem?_eq_getElem hq, a2, by rw [cell_of_row w _ 0 _ 3 (0, 0) a3]; rfl, by rw [cell_of_row w _ 1 _ 3 (0, 0) a3]; rfl⟩
/-- a list with one put in at place j, at place i -/
theorem put_get {α : Type} (l : List α) (x : α) {j : Nat} (hj : j ≤ l.length) (i : Nat) : (l.take j ++ [x] ++ l.drop j)[i]? = if i < j then l[i]? else if i = j then some x else l[i - 1]? := by
  have hl : (l.take j ++ [x]).length = j + 1 := by rw [List.length_append, List.length_take]; simp; omega
  rcases Nat.lt_or_ge i (j + 1) with h | h
  · rw [List.getElem?_append_left (by omega)]
    rcases Nat.lt_or_ge i j with g | g
    · rw [List.getElem?_append_left (by rw [List.length_take]; omega), List.getElem?_take, if_pos g, if_pos g]
    · obtain rfl : i = j := by omega
      rw [List.getElem?_append_right (by rw [List.length_take]; omega), List.length_take, if_neg (Nat.lt_irrefl _), if_pos rfl, show i - min i l.length = 0 by omega]
      rfl
  · rw [List.getElem?_append_right (by omega), hl, List.getElem?_drop, if_neg (by omega), if_neg (by omega)]
    congr 1
    omega
theorem prM_put {w : World} {base : Nat} {q : List Nat} {m : List (Int × Int)} (h : PrM w base q m) {j b : Nat} {p : Int × Int} (hj : j ≤ m.length) (h1 : base ≤ b) (h2 : b < w.heap.size) (h3 : w.heap[b]? = some (.cells #[.int .i64 p.1, .int .i64 p.2] 3 (0, 0))) (hn : b ∉ q) :
    PrM w base (q.take j ++ [b] ++ q.drop j) (m.take j ++ [p] ++ m.drop j) := by
  have hq : j ≤ q.length := by rw [h.len]; exact hj
  refine ⟨by simp [h.len], ?_, fun i b' p' hb hp => ?_⟩
  · have e := List.take_append_drop j q
    have hnd := h.nod
    rw [← e, List.nodup_append] at hnd
    rw [List.append_assoc, List.nodup_append]
    refine ⟨hnd.1, ?_, ?_⟩
    · rw [List.singleton_append, List.nodup_cons]
      exact ⟨fun hm => hn (List.mem_of_mem_drop hm), hnd.2.1⟩
    · intro x hx y hy
      rw [List.singleton_append, List.mem_cons] at hy
      rcases hy with rfl | hy
      · exact fun e => hn (by rw [← e]; exact List.mem_of_mem_take hx)
      · exact hnd.2.2 x hx y hy
  · rw [put_get q b hq] at hb
    rw [put_get m p hj] at hp
    split at hb
    · rename_i hi
      rw [if_pos hi] at hp
      exact h.at_ i b' p' hb hp
    · rename_i hi
      rw [if_neg hi] at hp
      split at hb
      · rename_i hi2
        rw [if_pos hi2] at hp
        injection hb with hb
        injection hp with hp
        subst hb hp
        exact ⟨h1, h2, h3⟩
      · rename_i hi2
        rw [if_neg hi2] at hp
        exact h.at_ (i - 1) b' p' hb hp
theorem slM_put (q : List Nat) (b j : Nat) : slM (q.take j ++ [b] ++ q.drop j) = slM (q.take j) ++ [.slice (some ⟨b, 0, none⟩) 2 2] ++ slM (q.drop j) := by unfold slM; rw [List.map_append, List.map_append]; rfl
/-- the row as a law sees it -/
theorem rowM_rws {w : World} {base : Nat} {v : Value} {m : List (Int × Int)} (h : RowM w base v m) : ∃ A c, v = .slice A m.length c ∧ RwS w base w.heap.size A m.length (fun _ => 2) (fun i t => if t = 0 then (pt m i).1 else (pt m i).2) := by
  obtain ⟨q, ho, hq⟩ := h
  have h0 := ho
  obtain ⟨h1, h2⟩ := ho
  rcases h2 with ⟨hv, hn⟩ | ⟨g, cap, cur, hv, hg, hh, hc, hm, hs, ht⟩
  · exact ⟨none, 0, by rw [hv, hn], fun hp => absurd hp (by omega)⟩
  · subst hv
    have hgl := (World.ownsRow.lt h0 g rfl).2
    refine ⟨some ⟨g, 0, none⟩, cap, rfl, fun hp => ⟨g, 0, fun i => (q[i]?).getD 0, rfl, hg, hgl, fun i hi => ?_⟩⟩
    have hql : i < q.length := by rw [hq.len]; exact hi
    have hqi : q[i]? = some q[i] := List.getElem?_eq_getElem hql
    obtain ⟨a1, a2, a3⟩ := hq.at_ i _ _ hqi (pt_get hi)
    simp only [hqi, Option.getD_some, Nat.zero_add]
    refine ⟨⟨a1, a2, ?_, ?_⟩, some ⟨q[i], 0, none⟩, 2, ?_, ?_⟩
    · intro e
      rw [e, hh] at a3
      injection a3 with a3
      injection a3 with _ e2
      exact absurd e2 (by decide)
    · intro j hj e
      have hjl : j < q.length := by omega
      rw [List.getElem?_eq_getElem hjl, Option.getD_some] at e
      have := (List.nodup_iff_pairwise_ne.1 hq.nod)
      rw [List.pairwise_iff_getElem] at this
      exact this j i hjl hql hj e
    · refine (World.ownsRow.cellAt h0 i (by omega)).trans ?_
      exact slM_get hqi
    · intro _
      refine ⟨q[i], 0, rfl, Nat.le_refl _, Nat.lt_succ_self _, fun t ht2 => ?_⟩
      have hfz : w.frozen? ⟨q[i], 0 + t, none⟩ = false := frozen_of_row w _ _ _ 3 a3
      refine ⟨?_, hfz⟩
      rw [cell_of_row w _ _ _ 3 (0, 0) a3]
      match t, ht2 with
      | 0, _ => rfl
      | 1, _ => rfl
end Go.Proofs.Ytheddoinnakneaa
/- contracts: greatest of two, size of a number -/
namespace Go.Proofs.Ytheddoinnakneaa
open Go.ChangeShapes Go.WideShapes Go.ChangeAt Go.RowKit Go.Joins
set_option linter.unusedVariables false
set_option linter.unusedSimpArgs false
set_option maxRecDepth 4000
theorem below_dr {B : Nat} {a w : World} (h : Below B a w) (n : Nat) : Below B a (w.drewN n) := ⟨h.os, h.tape, h.output, h.size, h.block⟩
theorem l1Most_any (a b : Int) (w : World) : Calls Try.prog 72 #[.int .i64 a, .int .i64 b] w fun e w' => e = .returned (.int .i64 (max a b)) ∧ w = w' := by
  by_cases h : b < a
  all_goals
    go_enter Try.func72, Try.ntmps72
    go_wp2
    go_ret
    exact ⟨ret_int (by omega), rfl⟩
theorem l1Abs_any (a : Int) (w : World) (h1 : -100000000000000 ≤ a) (h2 : a ≤ 100000000000000) : Calls Try.prog 101 #[.int .i64 a] w fun e w' => e = .returned (.int .i64 (a.natAbs : Int)) ∧ w = w' := by
  go_enter Try.func101, Try.ntmps101
  go_wp2_with fail
  refine (l1Most_any _ _ _).mono ?_; rintro e _ ⟨rfl, rfl⟩
  go_wp2_with fail
  go_ret
  exact ⟨ret_int (by omega), rfl⟩
end Go.Proofs.Ytheddoinnakneaa
/- contracts: the greatest common divisor, on both sides; how many points a line has -/
namespace Go.Proofs.Ytheddoinnakneaa
open Go.ChangeShapes Go.WideShapes Go.ChangeAt Go.RowKit Go.Joins
set_option linter.unusedVariables false
set_option linter.unusedSimpArgs false
set_option maxRecDepth 4000
theorem gcd_step (m n : Nat) : Nat.gcd n (m % n) = Nat.gcd m n := by rw [Nat.gcd_comm n, ← Nat.gcd_rec, Nat.gcd_comm]
theorem pgCommon_any (a b : Int) (w : World) (h1 : -1000000 ≤ a) (h2 : a ≤ 1000000) (h3 : -1000000 ≤ b) (h4 : b ≤ 1000000) :
    Calls Try.prog 93 #[.int .i64 a, .int .i64 b] w fun e w' => e = .returned (.int .i64 ((Nat.gcd a.natAbs b.natAbs : Nat) : Int)) ∧ Below w.heap.size w w' := by
  have m1 : (a.natAbs : Int) ≤ 1000000 := by omega
  have m2 : (b.natAbs : Int) ≤ 1000000 := by omega
  have A1 := Lib.hid (fun W => l1Abs_any a W (by omega) (by omega))
  have A2 := Lib.hid (fun W => l1Abs_any b W (by omega) (by omega))
  generalize a.natAbs = p at *
  generalize b.natAbs = q at *
  go_enter Try.func93, Try.ntmps93
  go_wp2_with fail
  refine (A1.out _).mono ?_; rintro e _ ⟨rfl, rfl⟩
  go_wp2_with fail
  refine (A2.out _).mono ?_; rintro e _ ⟨rfl, rfl⟩
  go_wp2_with fail
  clear A1 A2
  go_loopw [0, 1] (fun u v wr => ∃ m n : Nat, u = .int .i64 m ∧ v = .int .i64 n ∧ Nat.gcd m n = Nat.gcd p q ∧ (m : Int) ≤ 1000000 ∧ (n : Int) ≤ 1000000 ∧ Below w.heap.size w wr) (fun _ v _ => (intOf v).toNat)
  case atStart => exact ⟨p, q, rfl, rfl, rfl, m1, m2, Below.refl _ _⟩
  case round =>
    obtain ⟨m, n, rfl, rfl, hg, hm, hn, hB⟩ := hrel
    by_cases hz : 0 < n
    · have hG := Lib.hid hg
      clear hg
      go_wp2_with fail
      go_quiet (fail)
      have hmod : m % n < n := Nat.mod_lt _ hz
      go_roundw
      case rel => ((repeat apply Exists.intro); exact ⟨⟨n, m % n, by go_num, by go_num, by rw [gcd_step]; exact hG.out, hn, by omega, by repeat (first | exact hB | apply Below.drew | apply below_dr)⟩, rfl⟩)
      case measure => simp [intOf]; omega
    · have hn0 : n = 0 := by omega
      subst hn0
      rw [Nat.gcd_zero_right] at hg
      subst hg
      go_wp2_with fail
      go_ret
      exact ⟨rfl, hB⟩
theorem tmod_step (x y : Int) : Nat.gcd y.natAbs (x.tmod y).natAbs = Nat.gcd x.natAbs y.natAbs := by
  rw [Int.natAbs_tmod]; exact gcd_step _ _
theorem tmod_bd (x y : Int) (h : y ≠ 0) : (x.tmod y).natAbs < y.natAbs := by
  rw [Int.natAbs_tmod]; exact Nat.mod_lt _ (by omega)
theorem greatestDivisor_any (a b : Int) (w : World) (h1 : -1000000 ≤ a) (h2 : a ≤ 1000000) (h3 : -1000000 ≤ b) (h4 : b ≤ 1000000) :
    Calls Try.prog 137 #[.int .i64 a, .int .i64 b] w fun e w' => e = .returned (.int .i64 ((Nat.gcd a.natAbs b.natAbs : Nat) : Int)) ∧ Below w.heap.size w w' := by
  have R : ∃ r, r = Nat.gcd a.natAbs b.natAbs := ⟨_, rfl⟩
  obtain ⟨r, hr⟩ := R
  rw [← hr]
  have HR := Lib.hid hr
  clear hr
  go_enter Try.func137, Try.ntmps137
  go_wp2_with fail
  go_loopw [0, 1] (fun u v wr => ∃ x y : Int, u = .int .i64 x ∧ v = .int .i64 y ∧ Hid (r = Nat.gcd x.natAbs y.natAbs) ∧ -1000000 ≤ x ∧ x ≤ 1000000 ∧ -1000000 ≤ y ∧ y ≤ 1000000 ∧ Below w.heap.size w wr) (fun _ v _ => (intOf v).natAbs)
  case atStart => exact ⟨a, b, rfl, rfl, HR, h1, h2, h3, h4, Below.refl _ _⟩
  case round =>
    obtain ⟨x, y, rfl, rfl, hg, hx1, hx2, hy1, hy2, hB⟩ := hrel
    by_cases hz : y = 0
    · subst hz
      go_wp2_with fail
      all_goals
        go_ret
        exact ⟨ret_int (by have := hg.out; simp at this; omega), hB⟩
    · go_wp2_with fail
      go_quiet (fail)
      have hmod := tmod_bd x y hz
      go_roundw
      case rel => ((repeat apply Exists.intro); exact ⟨⟨y, x.tmod y, by go_num, by go_num, by rw [tmod_step]; exact hg, hy1, hy2, by omega, by omega, by repeat (first | exact hB | apply Below.drew | apply below_dr)⟩, rfl⟩)
      case measure => simpa [intOf] using hmod
end Go.Proofs.Ytheddoinnakneaa
/- contract: the corners of a polygon, each with both beside it -/
namespace Go.Proofs.Ytheddoinnakneaa
open Go.ChangeShapes Go.WideShapes Go.ChangeAt Go.RowKit Go.Joins
set_option linter.unusedVariables false
set_option linter.unusedSimpArgs false
set_option maxRecDepth 4000
theorem corner_info : (Try.prog.info? 107).map (fun i => (i.zero, i.size, i.bytes)) = some (some (.agg #[.int .i64 0, .int .i64 0, .int .i64 0, .int .i64 0, .int .i64 0, .int .i64 0]), 6, 48) := by kernel_rfl
/-- a new block of n corners: the first k of them set -/
def SetC (w : World) (g n k : Nat) (l : List (Int × Int)) : Prop :=
  g < w.heap.size ∧ (∀ j, j < n * 6 → (∃ u, w.cell? ⟨g, j, none⟩ = some u) ∧ w.frozen? ⟨g, j, none⟩ = false) ∧
    ∀ i, i < k → w.cell? ⟨g, i * 6, none⟩ = some (.int .i64 (vx l i).1) ∧ w.cell? ⟨g, i * 6 + 1, none⟩ = some (.int .i64 (vx l i).2) ∧
      w.cell? ⟨g, i * 6 + 2, none⟩ = some (.int .i64 (vx l (i + n - 1)).1) ∧ w.cell? ⟨g, i * 6 + 3, none⟩ = some (.int .i64 (vx l (i + n - 1)).2) ∧
      w.cell? ⟨g, i * 6 + 4, none⟩ = some (.int .i64 (vx l (i + 1)).1) ∧ w.cell? ⟨g, i * 6 + 5, none⟩ = some (.int .i64 (vx l (i + 1)).2)
theorem setC_new (w : World) (t : TypeId) (n : Nat) (l : List (Int × Int)) : SetC (w.alloc (.cells (madeCells #[.int .i64 0, .int .i64 0, .int .i64 0, .int .i64 0, .int .i64 0, .int .i64 0] (n * 6)) t)) w.heap.size n 0 l := by
  have hs := size_madeCells #[.int .i64 0, .int .i64 0, .int .i64 0, .int .i64 0, .int .i64 0, .int .i64 0] (n * 6)
  refine ⟨by simp, fun j hj => ⟨⟨_, by rw [cell_of_row (w.alloc _) w.heap.size j _ t (0, 0) (heap_alloc_new w _)]; exact Array.getElem?_eq_getElem (by omega)⟩, ?_⟩, fun i h => absurd h (Nat.not_lt_zero _)⟩
  · rw [frozen?_alloc_cells]; simp [World.frozen?]
theorem setC_store {w : World} {g n k : Nat} {l : List (Int × Int)} (h : SetC w g n k l) (hk : k < n) (hl : l.length = n) :
    SetC ((((((w.setCell ⟨g, k * 6, none⟩ (.int .i64 (vx l k).1)).setCell ⟨g, k * 6 + 1, none⟩ (.int .i64 (vx l k).2)).setCell ⟨g, k * 6 + 2, none⟩ (.int .i64 (vx l ((k + n - 1) % n)).1)).setCell ⟨g, k * 6 + 3, none⟩ (.int .i64 (vx l ((k + n - 1) % n)).2)).setCell ⟨g, k * 6 + 4, none⟩ (.int .i64 (vx l ((k + 1) % n)).1)).setCell ⟨g, k * 6 + 5, none⟩ (.int .i64 (vx l ((k + 1) % n)).2)) g n (k + 1) l := by
  obtain ⟨h1, h2, h3⟩ := h
  have ne : ∀ (W : World) (o o' : Nat) (v : Value), o' ≠ o → (W.setCell ⟨g, o', none⟩ v).cell? ⟨g, o, none⟩ = W.cell? ⟨g, o, none⟩ := fun W o o' v h =>
    World.cell?_setCell_other W _ _ _ (fun e => h (by injection e))
  have sm : ∀ (W : World) (o : Nat) (v : Value), (∃ u, W.cell? ⟨g, o, none⟩ = some u) → (W.setCell ⟨g, o, none⟩ v).cell? ⟨g, o, none⟩ = some v := fun W o v ⟨u, h⟩ => World.cell?_setCell_same W _ _ h
  have ex : ∀ (W : World) (o : Nat) (v : Value), (∀ j, j < n * 6 → ∃ u, W.cell? ⟨g, j, none⟩ = some u) → ∀ j, j < n * 6 → ∃ u, (W.setCell ⟨g, o, none⟩ v).cell? ⟨g, j, none⟩ = some u := fun W o v h j hj => by
    obtain ⟨u, hu⟩ := h j hj
    exact cell?_setCell_some hu
  have x0 : ∀ j, j < n * 6 → ∃ u, w.cell? ⟨g, j, none⟩ = some u := fun j hj => (h2 j hj).1
  have x1 := ex _ (k * 6) (.int .i64 (vx l k).1) x0
  have x2 := ex _ (k * 6 + 1) (.int .i64 (vx l k).2) x1
  have x3 := ex _ (k * 6 + 2) (.int .i64 (vx l ((k + n - 1) % n)).1) x2
  have x4 := ex _ (k * 6 + 3) (.int .i64 (vx l ((k + n - 1) % n)).2) x3
  have x5 := ex _ (k * 6 + 4) (.int .i64 (vx l ((k + 1) % n)).1) x4
  have x6 := ex _ (k * 6 + 5) (.int .i64 (vx l ((k + 1) % n)).2) x5
  refine ⟨by simpa [World.setCell] using h1, fun j hj => ⟨x6 j hj, ?_⟩, fun i hi => ?_⟩
  · simp only [World.frozen?_setCell]; exact (h2 j hj).2
  · by_cases hik : i = k
    · subst hik
      have p1 : vx l ((i + n - 1) % n) = vx l (i + n - 1) := by rw [← hl, vx_per]
      have p2 : vx l ((i + 1) % n) = vx l (i + 1) := by rw [← hl, vx_per]
      refine ⟨?_, ?_, ?_, ?_, ?_, ?_⟩
      · rw [ne _ _ _ _ (by omega), ne _ _ _ _ (by omega), ne _ _ _ _ (by omega), ne _ _ _ _ (by omega), ne _ _ _ _ (by omega)]; exact sm _ _ _ (x0 _ (by omega))
      · rw [ne _ _ _ _ (by omega), ne _ _ _ _ (by omega), ne _ _ _ _ (by omega), ne _ _ _ _ (by omega)]; exact sm _ _ _ (x1 _ (by omega))
      · rw [ne _ _ _ _ (by omega), ne _ _ _ _ (by omega), ne _ _ _ _ (by omega), ← p1]; exact sm _ _ _ (x2 _ (by omega))
      · rw [ne _ _ _ _ (by omega), ne _ _ _ _ (by omega), ← p1]; exact sm _ _ _ (x3 _ (by omega))
      · rw [ne _ _ _ _ (by omega), ← p2]; exact sm _ _ _ (x4 _ (by omega))
      · rw [← p2]; exact sm _ _ _ (x5 _ (by omega))
    · have hlt : i < k := by omega
      have all : ∀ r, r < 6 → ((((((w.setCell ⟨g, k * 6, none⟩ (.int .i64 (vx l k).1)).setCell ⟨g, k * 6 + 1, none⟩ (.int .i64 (vx l k).2)).setCell ⟨g, k * 6 + 2, none⟩ (.int .i64 (vx l ((k + n - 1) % n)).1)).setCell ⟨g, k * 6 + 3, none⟩ (.int .i64 (vx l ((k + n - 1) % n)).2)).setCell ⟨g, k * 6 + 4, none⟩ (.int .i64 (vx l ((k + 1) % n)).1)).setCell ⟨g, k * 6 + 5, none⟩ (.int .i64 (vx l ((k + 1) % n)).2)).cell? ⟨g, i * 6 + r, none⟩ = w.cell? ⟨g, i * 6 + r, none⟩ := fun r hr => by
        rw [ne _ _ _ _ (by omega), ne _ _ _ _ (by omega), ne _ _ _ _ (by omega), ne _ _ _ _ (by omega), ne _ _ _ _ (by omega), ne _ _ _ _ (by omega)]
      obtain ⟨c0, c1, c2, c3, c4, c5⟩ := h3 i hlt
      exact ⟨(all 0 (by omega)).trans c0, (all 1 (by omega)).trans c1, (all 2 (by omega)).trans c2, (all 3 (by omega)).trans c3, (all 4 (by omega)).trans c4, (all 5 (by omega)).trans c5⟩
theorem setC_below {w w' : World} {g n k : Nat} {l : List (Int × Int)} (h : SetC w g n k l) (hb : Below w.heap.size w w') : SetC w' g n k l := by
  obtain ⟨h1, h2, h3⟩ := h
  have hc := (bcell hb).1
  have hf := (bcell hb).2
  have hz := hb.size
  exact ⟨by omega, fun j hj => by rw [hc _ _ h1, hf _ _ h1]; exact h2 j hj, fun i hi => by
    rw [hc _ _ h1, hc _ _ h1, hc _ _ h1, hc _ _ h1, hc _ _ h1, hc _ _ h1]; exact h3 i hi⟩
theorem setC_drew {w : World} {g n k : Nat} {l : List (Int × Int)} (h : SetC w g n k l) : SetC w.drew g n k l := h
set_option maxHeartbeats 2000000 in
theorem cornersAroundW_any (A : Option Addr) (c : Nat) (l : List (Int × Int)) (w : World) (h1 : 1 ≤ l.length) (hn : l.length ≤ 60) (hR : Rd w w.heap.size A l) :
    Calls Try.prog 87 #[.slice A l.length c] w fun e w' => e = .returned (.slice (some ⟨w.heap.size, 0, none⟩) l.length l.length) ∧ Below w.heap.size w w' ∧ SetC w' w.heap.size l.length l.length l := by
  obtain ⟨i0, hi0, hz0, hz1, hz2⟩ := info_parts corner_info
  have hmk := fun W => run_make (P := Try.prog) W 104 107 i0 _ Try.underlying104 hi0 hz0 .i64 .i64 (l.length : Int) (l.length : Int) (by omega) (by omega) (by rw [hz2]; omega) (by omega)
  obtain ⟨b, off, rfl, hb, hcell⟩ := hR (by omega)
  have hC : ∀ i, i < l.length → w.cell? ⟨b, off + i * 2, none⟩ = some (.int .i64 (vx l i).1) ∧ w.cell? ⟨b, off + i * 2 + 1, none⟩ = some (.int .i64 (vx l i).2) := fun i hi => hcell i _ (vx_get hi)
  have HC := Lib.hid hC
  clear hR hC hcell
  generalize hN : l.length = n at *
  have HN := Lib.hid hN
  clear hN
  go_enter Try.func87, Try.ntmps87
  go_wp2_with fail
  have hS0 := setC_new w 107 n l
  have hB0 : Below w.heap.size w (w.alloc (.cells (madeCells #[.int .i64 0, .int .i64 0, .int .i64 0, .int .i64 0, .int .i64 0, .int .i64 0] (n * 6)) 107)) := (Below.refl _ _).alloc (Nat.le_refl _) _
  go_loopg [13] n (fun g i wr => ∃ k : Nat, k ≤ n ∧ g = n - k ∧ i = .int .i64 k ∧ Below w.heap.size w wr ∧ Hid (SetC wr w.heap.size n k l))
  case atStart => exact ⟨0, Nat.zero_le _, rfl, rfl, hB0, Lib.hid hS0⟩
  case round =>
    obtain ⟨k, hk, hg, rfl, hB, hS⟩ := hrel
    rename World => wo
    have HGK := Lib.hid hg
    clear hg hS0 hB0 hmk
    by_cases hlt : k < n
    · have hq1 : wo.cell? ⟨b, off + k * 2, none⟩ = some (.int .i64 (vx l k).1) := (hB.cell (p := ⟨b, off + k * 2, none⟩) hb).trans (HC.out k hlt).1
      have hq2 : wo.cell? ⟨b, off + k * 2 + 1, none⟩ = some (.int .i64 (vx l k).2) := (hB.cell (p := ⟨b, off + k * 2 + 1, none⟩) hb).trans (HC.out k hlt).2
      have hzB := hB.size
      have hbo : b < wo.heap.size := by omega
      have hgo := hS.out.1
      have m1 : (k + n - 1) % n < n := Nat.mod_lt _ (by omega)
      have m2 : (k + 1) % n < n := Nat.mod_lt _ (by omega)
      have q3 := (hB.cell (p := ⟨b, off + (k + n - 1) % n * 2, none⟩) hb).trans (HC.out _ m1).1
      have q4 := (hB.cell (p := ⟨b, off + (k + n - 1) % n * 2 + 1, none⟩) hb).trans (HC.out _ m1).2
      have q5 := (hB.cell (p := ⟨b, off + (k + 1) % n * 2, none⟩) hb).trans (HC.out _ m2).1
      have q6 := (hB.cell (p := ⟨b, off + (k + 1) % n * 2 + 1, none⟩) hb).trans (HC.out _ m2).2
      have st : ∀ j, j < 6 → (∃ u, wo.cell? ⟨w.heap.size, k * 6 + j, none⟩ = some u) ∧ wo.frozen? ⟨w.heap.size, k * 6 + j, none⟩ = false := fun j hj => hS.out.2.1 _ (by omega)
      obtain ⟨⟨u0, a0⟩, f0⟩ := st 0 (by omega)
      obtain ⟨⟨u1, a1⟩, f1⟩ := st 1 (by omega)
      obtain ⟨⟨u2, a2⟩, f2⟩ := st 2 (by omega)
      obtain ⟨⟨u3, a3⟩, f3⟩ := st 3 (by omega)
      obtain ⟨⟨u4, a4⟩, f4⟩ := st 4 (by omega)
      obtain ⟨⟨u5, a5⟩, f5⟩ := st 5 (by omega)
      clear st
      simp only [Nat.add_zero] at a0 f0
      go_wp2_with fail
      have e1 : IntKind.i64.wrap ((k : Int) + (n : Int)) = (k : Int) + (n : Int) := IntWalk.i64_in _ (by omega)
      have e2 : IntKind.i64.wrap ((k : Int) + (n : Int) - 1) = (k : Int) + (n : Int) - 1 := IntWalk.i64_in _ (by omega)
      have e3 : IntKind.i64.wrap ((k : Int) + 1) = (k : Int) + 1 := IntWalk.i64_in _ (by omega)
      have e4 : ¬ n = 0 := by omega
      have e5 : (0 : Int) ≤ ((k : Int) + 1) % (n : Int) := Int.emod_nonneg _ (by omega)
      have e6 : ((k : Int) + 1) % (n : Int) < (n : Int) := Int.emod_lt_of_pos _ (by omega)
      have e7 : ((k : Int) + 1).tmod (n : Int) = ((k : Int) + 1) % (n : Int) := Int.tmod_eq_emod_of_nonneg (by omega)
      have e8 : (((k : Int) + 1) % (n : Int)).toNat = (k + 1) % n := by rw [show ((k : Int) + 1) % (n : Int) = (((k + 1) % n : Nat) : Int) by simp]; exact Int.toNat_natCast _
      have e9 : (0 : Int) ≤ ((k : Int) + (n : Int) - 1) % (n : Int) := Int.emod_nonneg _ (by omega)
      have e10 : ((k : Int) + (n : Int) - 1) % (n : Int) < (n : Int) := Int.emod_lt_of_pos _ (by omega)
      have e11 : ((k : Int) + (n : Int) - 1).tmod (n : Int) = ((k : Int) + (n : Int) - 1) % (n : Int) := Int.tmod_eq_emod_of_nonneg (by omega)
      have e12 : (((k : Int) + (n : Int) - 1) % (n : Int)).toNat = (k + n - 1) % n := by rw [show ((k : Int) + (n : Int) - 1) % (n : Int) = (((k + n - 1) % n : Nat) : Int) by rw [Int.natCast_emod]; congr 1; omega]; exact Int.toNat_natCast _
      obtain ⟨W2, hW2⟩ : ∃ W2, W2 = wo.alloc (.cells #[.int .i64 (vx l k).1, .int .i64 (vx l k).2] 56) := ⟨_, rfl⟩
      have al : ∀ b' o, b' < wo.heap.size → W2.cell? ⟨b', o, none⟩ = wo.cell? ⟨b', o, none⟩ := fun b' o h => by rw [hW2]; exact World.cell?_alloc_lt wo _ _ h
      have r1 : W2.cell? ⟨wo.heap.size, 0, none⟩ = some (.int .i64 (vx l k).1) := by rw [hW2]; go_simp
      have r2 : W2.cell? ⟨wo.heap.size, 1, none⟩ = some (.int .i64 (vx l k).2) := by rw [hW2]; go_simp
      have r3 := (al _ _ hbo).trans q3
      have r4 := (al _ _ hbo).trans q4
      have r5 := (al _ _ hbo).trans q5
      have r6 := (al _ _ hbo).trans q6
      have b0 := (al _ _ hgo).trans a0
      have b1 := (al _ _ hgo).trans a1
      have b2 := (al _ _ hgo).trans a2
      have b3 := (al _ _ hgo).trans a3
      have b4 := (al _ _ hgo).trans a4
      have b5 := (al _ _ hgo).trans a5
      have fz : ∀ o, W2.frozen? ⟨w.heap.size, o, none⟩ = wo.frozen? ⟨w.heap.size, o, none⟩ := fun o => by rw [hW2]; exact frozen?_alloc_cells _ _ _ _
      have g0 := (fz _).trans f0
      have g1 := (fz _).trans f1
      have g2 := (fz _).trans f2
      have g3 := (fz _).trans f3
      have g4 := (fz _).trans f4
      have g5 := (fz _).trans f5
      rw [← hW2]
      have HW2 := Lib.hid hW2
      clear hW2 al fz q3 q4 q5 q6 a0 a1 a2 a3 a4 a5 f0 f1 f2 f3 f4 f5 hq1 hq2
      refine wp_region_still_tail 21 (by kernel_rfl) (by kernel_rfl) ?_
      change wpStill _ _ W2.drew (fun a' => wpList _ _ _ _ a' W2.drew) _ _
      simp only [List.take_succ_cons, List.take_zero, List.drop_succ_cons, List.drop_zero]
      repeat still_step
      try refine wpStill_nil ?_
      clear e1 e2 e3 e4 e5 e6 e7 e8 e9 e10 e11 e12
      have B2 : Below w.heap.size w W2 := by rw [HW2.out]; exact Below.alloc hB hzB _
      have S2 : SetC W2 w.heap.size n k l := by rw [HW2.out]; exact setC_below hS.out (Below.alloc (Below.refl _ _) (Nat.le_refl _) _)
      have S3 := Lib.hid (setC_drew (setC_store S2 hlt HN.out))
      have B3 := Lib.hid (Below.drew (Below.setCell (Below.setCell (Below.setCell (Below.setCell (Below.setCell (Below.setCell B2 (p := ⟨w.heap.size, k * 6, none⟩) (Nat.le_refl _) (.int .i64 (vx l k).1)) (p := ⟨w.heap.size, k * 6 + 1, none⟩) (Nat.le_refl _) (.int .i64 (vx l k).2)) (p := ⟨w.heap.size, k * 6 + 2, none⟩) (Nat.le_refl _) (.int .i64 (vx l ((k + n - 1) % n)).1)) (p := ⟨w.heap.size, k * 6 + 3, none⟩) (Nat.le_refl _) (.int .i64 (vx l ((k + n - 1) % n)).2)) (p := ⟨w.heap.size, k * 6 + 4, none⟩) (Nat.le_refl _) (.int .i64 (vx l ((k + 1) % n)).1)) (p := ⟨w.heap.size, k * 6 + 5, none⟩) (Nat.le_refl _) (.int .i64 (vx l ((k + 1) % n)).2)))
      clear S2 hS
      go_wp2_with fail
      go_roundg (n - (k + 1))
      case measure => have := HGK.out; omega
      case rel => exact ⟨k + 1, by omega, rfl, by go_num, B3.out, S3⟩
    · have hkn : n = k := by omega
      subst hkn
      go_wp2_with fail
      go_ret
      exact ⟨rfl, hB, hS.out⟩
theorem cornersAround_any (A : Option Addr) (c : Nat) (l : List (Int × Int)) (w : World) (h1 : 1 ≤ l.length) (hn : l.length ≤ 10) (hR : Rd w w.heap.size A l) :
    Calls Try.prog 87 #[.slice A l.length c] w fun e w' => e = .returned (.slice (some ⟨w.heap.size, 0, none⟩) l.length l.length) ∧ Below w.heap.size w w' ∧ SetC w' w.heap.size l.length l.length l := cornersAroundW_any A c l w h1 (by omega) hR
end Go.Proofs.Ytheddoinnakneaa
/- contracts: the program's sums around a polygon -/
namespace Go.Proofs.Ytheddoinnakneaa
open Go.ChangeShapes Go.WideShapes Go.ChangeAt Go.RowKit Go.Joins
set_option linter.unusedVariables false
set_option linter.unusedSimpArgs false
set_option maxRecDepth 4000
end Go.Proofs.Ytheddoinnakneaa
/- contracts: do two lines cross, do two lines meet, the program -/
namespace Go.Proofs.Ytheddoinnakneaa
open Go.ChangeShapes Go.WideShapes Go.ChangeAt Go.RowKit Go.Joins
set_option linter.unusedVariables false
set_option linter.unusedSimpArgs false
set_option maxRecDepth 4000
theorem linesCross_any (a1 a2 b1 b2 c1 c2 d1 d2 : Int) (w : World) (pa : isPegB a1 a2 = true) (pb : isPegB b1 b2 = true) (pc : isPegB c1 c2 = true) (pd : isPegB d1 d2 = true) :
    Calls Try.prog 142 #[.agg #[.int .i64 a1, .int .i64 a2], .agg #[.int .i64 b1, .int .i64 b2], .agg #[.int .i64 c1, .int .i64 c2], .agg #[.int .i64 d1, .int .i64 d2]] w fun e w' => e = .returned (.bool (decide (twI a1 a2 b1 b2 c1 c2 * twI a1 a2 b1 b2 d1 d2 < 0) && decide (twI c1 c2 d1 d2 a1 a2 * twI c1 c2 d1 d2 b1 b2 < 0))) ∧ Below w.heap.size w w' := by
  have ha := sz_of pa
  have hb := sz_of pb
  have hc := sz_of pc
  have hd := sz_of pd
  have T1 := Lib.hid (fun W => twiceThree_any a1 a2 b1 b2 c1 c2 W ha hb hc)
  have T2 := Lib.hid (fun W => twiceThree_any a1 a2 b1 b2 d1 d2 W ha hb hd)
  have T3 := Lib.hid (fun W => twiceThree_any c1 c2 d1 d2 a1 a2 W hc hd ha)
  have T4 := Lib.hid (fun W => twiceThree_any c1 c2 d1 d2 b1 b2 W hc hd hb)
  have q1 := tw_bd40 pa pb pc
  have q2 := tw_bd40 pa pb pd
  have q3 := tw_bd40 pc pd pa
  have q4 := tw_bd40 pc pd pb
  clear ha hb hc hd pa pb pc pd
  generalize twI a1 a2 b1 b2 c1 c2 = t1 at *
  generalize twI a1 a2 b1 b2 d1 d2 = t2 at *
  generalize twI c1 c2 d1 d2 a1 a2 = t3 at *
  generalize twI c1 c2 d1 d2 b1 b2 = t4 at *
  have r1 := mul_bd (m := 12800) (n := 12800) q1.1 q1.2 q2.1 q2.2
  have r2 := mul_bd (m := 12800) (n := 12800) q3.1 q3.2 q4.1 q4.2
  obtain ⟨p1, p2⟩ := r1
  obtain ⟨p3, p4⟩ := r2
  have e1 : IntKind.i64.wrap (t1 * t2) = t1 * t2 := IntWalk.i64_in _ (by omega)
  have e2 : IntKind.i64.wrap (t3 * t4) = t3 * t4 := IntWalk.i64_in _ (by omega)
  go_enter Try.func142, Try.ntmps142
  go_wp2_with fail
  by_cases hm : t1 * t2 < 0
  · have hd := decide_eq_true hm
    refine wp_region_B (fun W => Below w.heap.size w W ∧ w.heap.size + 3 < W.heap.size ∧ W.cell? ⟨w.heap.size, 0, none⟩ = some (.int .i64 a1) ∧ W.cell? ⟨w.heap.size, 1, none⟩ = some (.int .i64 a2) ∧ W.cell? ⟨w.heap.size + 1, 0, none⟩ = some (.int .i64 b1) ∧ W.cell? ⟨w.heap.size + 1, 1, none⟩ = some (.int .i64 b2) ∧ W.cell? ⟨w.heap.size + 2, 0, none⟩ = some (.int .i64 c1) ∧ W.cell? ⟨w.heap.size + 2, 1, none⟩ = some (.int .i64 c2) ∧ W.cell? ⟨w.heap.size + 3, 0, none⟩ = some (.int .i64 d1) ∧ W.cell? ⟨w.heap.size + 3, 1, none⟩ = some (.int .i64 d2)) (by kernel_rfl) (held4 (box4 w _ a1 a2 b1 b2 c1 c2 d1 d2) ((Below.refl _ _).drew)) ?_
    first | refine wpB_skip 0 rfl (by kernel_rfl) (by kernel_rfl) (by kernel_rfl) (by rfl) ?_ | (refine wpB_text 0 (v := ?_) rfl (by kernel_rfl) (by kernel_rfl) (by kernel_rfl) (by rfl) (fun W hW => ?_) ?_; rotate_left; (obtain ⟨k1, k2, k3, k4, k5, k6, k7, k8, k9, k10⟩ := hW;  go_simp; refine comes_v ?_; exact ⟨k1, k2, k3, k4, k5, k6, k7, k8, k9, k10⟩))
    (try simp only [Act.put, List.setIfInBounds_toArray, List.set_cons_zero, List.set_cons_succ])
    first | refine wpB_skip 1 rfl (by kernel_rfl) (by kernel_rfl) (by kernel_rfl) (by rfl) ?_ | (refine wpB_text 1 (v := ?_) rfl (by kernel_rfl) (by kernel_rfl) (by kernel_rfl) (by rfl) (fun W hW => ?_) ?_; rotate_left; (obtain ⟨k1, k2, k3, k4, k5, k6, k7, k8, k9, k10⟩ := hW;  go_simp; refine comes_v ?_; exact ⟨k1, k2, k3, k4, k5, k6, k7, k8, k9, k10⟩))
    (try simp only [Act.put, List.setIfInBounds_toArray, List.set_cons_zero, List.set_cons_succ])
    first | refine wpB_skip 2 rfl (by kernel_rfl) (by kernel_rfl) (by kernel_rfl) (by rfl) ?_ | (refine wpB_text 2 (v := ?_) rfl (by kernel_rfl) (by kernel_rfl) (by kernel_rfl) (by rfl) (fun W hW => ?_) ?_; rotate_left; (obtain ⟨k1, k2, k3, k4, k5, k6, k7, k8, k9, k10⟩ := hW;  go_simp; refine comes_v ?_; exact ⟨k1, k2, k3, k4, k5, k6, k7, k8, k9, k10⟩))
    (try simp only [Act.put, List.setIfInBounds_toArray, List.set_cons_zero, List.set_cons_succ])
    first | refine wpB_skip 3 rfl (by kernel_rfl) (by kernel_rfl) (by kernel_rfl) (by rfl) ?_ | (refine wpB_text 3 (v := .int .i64 t1) rfl (by kernel_rfl) (by kernel_rfl) (by kernel_rfl) (by rfl) (fun W hW => ?_) ?_; (obtain ⟨k1, k2, k3, k4, k5, k6, k7, k8, k9, k10⟩ := hW;  go_simp; exact comes_c ( T1.out _) (fun wn hbn => held4 ⟨k1, k2, k3, k4, k5, k6, k7, k8, k9, k10⟩ hbn)))
    (try simp only [Act.put, List.setIfInBounds_toArray, List.set_cons_zero, List.set_cons_succ])
    first | refine wpB_skip 4 rfl (by kernel_rfl) (by kernel_rfl) (by kernel_rfl) (by rfl) ?_ | (refine wpB_text 4 (v := ?_) rfl (by kernel_rfl) (by kernel_rfl) (by kernel_rfl) (by rfl) (fun W hW => ?_) ?_; rotate_left; (obtain ⟨k1, k2, k3, k4, k5, k6, k7, k8, k9, k10⟩ := hW;  go_simp; refine comes_v ?_; exact ⟨k1, k2, k3, k4, k5, k6, k7, k8, k9, k10⟩))
    (try simp only [Act.put, List.setIfInBounds_toArray, List.set_cons_zero, List.set_cons_succ])
    first | refine wpB_skip 5 rfl (by kernel_rfl) (by kernel_rfl) (by kernel_rfl) (by rfl) ?_ | (refine wpB_text 5 (v := ?_) rfl (by kernel_rfl) (by kernel_rfl) (by kernel_rfl) (by rfl) (fun W hW => ?_) ?_; rotate_left; (obtain ⟨k1, k2, k3, k4, k5, k6, k7, k8, k9, k10⟩ := hW;  go_simp; refine comes_v ?_; exact ⟨k1, k2, k3, k4, k5, k6, k7, k8, k9, k10⟩))
    (try simp only [Act.put, List.setIfInBounds_toArray, List.set_cons_zero, List.set_cons_succ])
    first | refine wpB_skip 6 rfl (by kernel_rfl) (by kernel_rfl) (by kernel_rfl) (by rfl) ?_ | (refine wpB_text 6 (v := ?_) rfl (by kernel_rfl) (by kernel_rfl) (by kernel_rfl) (by rfl) (fun W hW => ?_) ?_; rotate_left; (obtain ⟨k1, k2, k3, k4, k5, k6, k7, k8, k9, k10⟩ := hW;  go_simp; refine comes_v ?_; exact ⟨k1, k2, k3, k4, k5, k6, k7, k8, k9, k10⟩))
    (try simp only [Act.put, List.setIfInBounds_toArray, List.set_cons_zero, List.set_cons_succ])
    first | refine wpB_skip 7 rfl (by kernel_rfl) (by kernel_rfl) (by kernel_rfl) (by rfl) ?_ | (refine wpB_text 7 (v := .int .i64 t2) rfl (by kernel_rfl) (by kernel_rfl) (by kernel_rfl) (by rfl) (fun W hW => ?_) ?_; (obtain ⟨k1, k2, k3, k4, k5, k6, k7, k8, k9, k10⟩ := hW;  go_simp; exact comes_c ( T2.out _) (fun wn hbn => held4 ⟨k1, k2, k3, k4, k5, k6, k7, k8, k9, k10⟩ hbn)))
    (try simp only [Act.put, List.setIfInBounds_toArray, List.set_cons_zero, List.set_cons_succ])
    first | refine wpB_skip 8 rfl (by kernel_rfl) (by kernel_rfl) (by kernel_rfl) (by rfl) ?_ | (refine wpB_text 8 (v := ?_) rfl (by kernel_rfl) (by kernel_rfl) (by kernel_rfl) (by rfl) (fun W hW => ?_) ?_; rotate_left; (obtain ⟨k1, k2, k3, k4, k5, k6, k7, k8, k9, k10⟩ := hW;  go_simp; refine comes_v ?_; exact ⟨k1, k2, k3, k4, k5, k6, k7, k8, k9, k10⟩))
    (try simp only [Act.put, List.setIfInBounds_toArray, List.set_cons_zero, List.set_cons_succ])
    first | refine wpB_skip 9 rfl (by kernel_rfl) (by kernel_rfl) (by kernel_rfl) (by rfl) ?_ | (refine wpB_text 9 (v := ?_) rfl (by kernel_rfl) (by kernel_rfl) (by kernel_rfl) (by rfl) (fun W hW => ?_) ?_; rotate_left; (obtain ⟨k1, k2, k3, k4, k5, k6, k7, k8, k9, k10⟩ := hW;  go_simp; refine comes_v ?_; exact ⟨k1, k2, k3, k4, k5, k6, k7, k8, k9, k10⟩))
    (try simp only [Act.put, List.setIfInBounds_toArray, List.set_cons_zero, List.set_cons_succ])
    first | refine wpB_skip 10 rfl (by kernel_rfl) (by kernel_rfl) (by kernel_rfl) (by rfl) ?_ | (refine wpB_text 10 (v := ?_) rfl (by kernel_rfl) (by kernel_rfl) (by kernel_rfl) (by rfl) (fun W hW => ?_) ?_; rotate_left; (obtain ⟨k1, k2, k3, k4, k5, k6, k7, k8, k9, k10⟩ := hW;  go_simp; refine comes_v ?_; exact ⟨k1, k2, k3, k4, k5, k6, k7, k8, k9, k10⟩))
    (try simp only [Act.put, List.setIfInBounds_toArray, List.set_cons_zero, List.set_cons_succ])
    first | refine wpB_skip 11 rfl (by kernel_rfl) (by kernel_rfl) (by kernel_rfl) (by rfl) ?_ | (refine wpB_text 11 (v := ?_) rfl (by kernel_rfl) (by kernel_rfl) (by kernel_rfl) (by rfl) (fun W hW => ?_) ?_; rotate_left; (obtain ⟨k1, k2, k3, k4, k5, k6, k7, k8, k9, k10⟩ := hW;  go_simp; refine comes_v ?_; exact ⟨k1, k2, k3, k4, k5, k6, k7, k8, k9, k10⟩))
    (try simp only [Act.put, List.setIfInBounds_toArray, List.set_cons_zero, List.set_cons_succ])
    first | refine wpB_skip 12 rfl (by kernel_rfl) (by kernel_rfl) (by kernel_rfl) (by rfl) ?_ | (refine wpB_text 12 (v := ?_) rfl (by kernel_rfl) (by kernel_rfl) (by kernel_rfl) (by rfl) (fun W hW => ?_) ?_; rotate_left; (obtain ⟨k1, k2, k3, k4, k5, k6, k7, k8, k9, k10⟩ := hW;  go_simp; refine comes_v ?_; exact ⟨k1, k2, k3, k4, k5, k6, k7, k8, k9, k10⟩))
    (try simp only [Act.put, List.setIfInBounds_toArray, List.set_cons_zero, List.set_cons_succ])
    first | refine wpB_skip 13 rfl (by kernel_rfl) (by kernel_rfl) (by kernel_rfl) (by rfl) ?_ | (refine wpB_text 13 (v := ?_) rfl (by kernel_rfl) (by kernel_rfl) (by kernel_rfl) (by rfl) (fun W hW => ?_) ?_; rotate_left; (obtain ⟨k1, k2, k3, k4, k5, k6, k7, k8, k9, k10⟩ := hW;  go_simp; refine comes_v ?_; exact ⟨k1, k2, k3, k4, k5, k6, k7, k8, k9, k10⟩))
    (try simp only [Act.put, List.setIfInBounds_toArray, List.set_cons_zero, List.set_cons_succ])
    first | refine wpB_skip 14 rfl (by kernel_rfl) (by kernel_rfl) (by kernel_rfl) (by rfl) ?_ | (refine wpB_text 14 (v := .int .i64 t3) rfl (by kernel_rfl) (by kernel_rfl) (by kernel_rfl) (by rfl) (fun W hW => ?_) ?_; (obtain ⟨k1, k2, k3, k4, k5, k6, k7, k8, k9, k10⟩ := hW;  go_simp; exact comes_c ( T3.out _) (fun wn hbn => held4 ⟨k1, k2, k3, k4, k5, k6, k7, k8, k9, k10⟩ hbn)))
    (try simp only [Act.put, List.setIfInBounds_toArray, List.set_cons_zero, List.set_cons_succ])
    first | refine wpB_skip 15 rfl (by kernel_rfl) (by kernel_rfl) (by kernel_rfl) (by rfl) ?_ | (refine wpB_text 15 (v := ?_) rfl (by kernel_rfl) (by kernel_rfl) (by kernel_rfl) (by rfl) (fun W hW => ?_) ?_; rotate_left; (obtain ⟨k1, k2, k3, k4, k5, k6, k7, k8, k9, k10⟩ := hW;  go_simp; refine comes_v ?_; exact ⟨k1, k2, k3, k4, k5, k6, k7, k8, k9, k10⟩))
    (try simp only [Act.put, List.setIfInBounds_toArray, List.set_cons_zero, List.set_cons_succ])
    first | refine wpB_skip 16 rfl (by kernel_rfl) (by kernel_rfl) (by kernel_rfl) (by rfl) ?_ | (refine wpB_text 16 (v := ?_) rfl (by kernel_rfl) (by kernel_rfl) (by kernel_rfl) (by rfl) (fun W hW => ?_) ?_; rotate_left; (obtain ⟨k1, k2, k3, k4, k5, k6, k7, k8, k9, k10⟩ := hW;  go_simp; refine comes_v ?_; exact ⟨k1, k2, k3, k4, k5, k6, k7, k8, k9, k10⟩))
    (try simp only [Act.put, List.setIfInBounds_toArray, List.set_cons_zero, List.set_cons_succ])
    first | refine wpB_skip 17 rfl (by kernel_rfl) (by kernel_rfl) (by kernel_rfl) (by rfl) ?_ | (refine wpB_text 17 (v := ?_) rfl (by kernel_rfl) (by kernel_rfl) (by kernel_rfl) (by rfl) (fun W hW => ?_) ?_; rotate_left; (obtain ⟨k1, k2, k3, k4, k5, k6, k7, k8, k9, k10⟩ := hW;  go_simp; refine comes_v ?_; exact ⟨k1, k2, k3, k4, k5, k6, k7, k8, k9, k10⟩))
    (try simp only [Act.put, List.setIfInBounds_toArray, List.set_cons_zero, List.set_cons_succ])
    first | refine wpB_skip 18 rfl (by kernel_rfl) (by kernel_rfl) (by kernel_rfl) (by rfl) ?_ | (refine wpB_text 18 (v := .int .i64 t4) rfl (by kernel_rfl) (by kernel_rfl) (by kernel_rfl) (by rfl) (fun W hW => ?_) ?_; (obtain ⟨k1, k2, k3, k4, k5, k6, k7, k8, k9, k10⟩ := hW;  go_simp; exact comes_c ( T4.out _) (fun wn hbn => held4 ⟨k1, k2, k3, k4, k5, k6, k7, k8, k9, k10⟩ hbn)))
    (try simp only [Act.put, List.setIfInBounds_toArray, List.set_cons_zero, List.set_cons_succ])
    first | refine wpB_skip 19 rfl (by kernel_rfl) (by kernel_rfl) (by kernel_rfl) (by rfl) ?_ | (refine wpB_text 19 (v := ?_) rfl (by kernel_rfl) (by kernel_rfl) (by kernel_rfl) (by rfl) (fun W hW => ?_) ?_; rotate_left; (obtain ⟨k1, k2, k3, k4, k5, k6, k7, k8, k9, k10⟩ := hW;  go_simp; refine comes_v ?_; exact ⟨k1, k2, k3, k4, k5, k6, k7, k8, k9, k10⟩))
    (try simp only [Act.put, List.setIfInBounds_toArray, List.set_cons_zero, List.set_cons_succ])
    first | refine wpB_skip 20 rfl (by kernel_rfl) (by kernel_rfl) (by kernel_rfl) (by rfl) ?_ | (refine wpB_text 20 (v := ?_) rfl (by kernel_rfl) (by kernel_rfl) (by kernel_rfl) (by rfl) (fun W hW => ?_) ?_; rotate_left; (obtain ⟨k1, k2, k3, k4, k5, k6, k7, k8, k9, k10⟩ := hW;  go_simp; refine comes_v ?_; exact ⟨k1, k2, k3, k4, k5, k6, k7, k8, k9, k10⟩))
    (try simp only [Act.put, List.setIfInBounds_toArray, List.set_cons_zero, List.set_cons_succ])
    first | refine wpB_skip 21 rfl (by kernel_rfl) (by kernel_rfl) (by kernel_rfl) (by rfl) ?_ | (refine wpB_text 21 (v := ?_) rfl (by kernel_rfl) (by kernel_rfl) (by kernel_rfl) (by rfl) (fun W hW => ?_) ?_; rotate_left; (obtain ⟨k1, k2, k3, k4, k5, k6, k7, k8, k9, k10⟩ := hW;  go_simp; refine comes_v ?_; exact ⟨k1, k2, k3, k4, k5, k6, k7, k8, k9, k10⟩))
    (try simp only [Act.put, List.setIfInBounds_toArray, List.set_cons_zero, List.set_cons_succ])
    first | refine wpB_skip 22 rfl (by kernel_rfl) (by kernel_rfl) (by kernel_rfl) (by rfl) ?_ | (refine wpB_text 22 (v := ?_) rfl (by kernel_rfl) (by kernel_rfl) (by kernel_rfl) (by rfl) (fun W hW => ?_) ?_; rotate_left; (obtain ⟨k1, k2, k3, k4, k5, k6, k7, k8, k9, k10⟩ := hW;  go_simp; refine comes_v ?_; exact ⟨k1, k2, k3, k4, k5, k6, k7, k8, k9, k10⟩))
    (try simp only [Act.put, List.setIfInBounds_toArray, List.set_cons_zero, List.set_cons_succ])
    refine wpB_done (by kernel_rfl) ?_ _
    intro W hW; obtain ⟨k1, k2, k3, k4, k5, k6, k7, k8, k9, k10⟩ := hW
    clear e1 e2
    go_wp2_with fail
    go_ret
    exact ⟨ret_bool (by simp [hm]), k1⟩
  · have hd := decide_eq_false hm
    refine wp_region_B (fun W => Below w.heap.size w W ∧ w.heap.size + 3 < W.heap.size ∧ W.cell? ⟨w.heap.size, 0, none⟩ = some (.int .i64 a1) ∧ W.cell? ⟨w.heap.size, 1, none⟩ = some (.int .i64 a2) ∧ W.cell? ⟨w.heap.size + 1, 0, none⟩ = some (.int .i64 b1) ∧ W.cell? ⟨w.heap.size + 1, 1, none⟩ = some (.int .i64 b2) ∧ W.cell? ⟨w.heap.size + 2, 0, none⟩ = some (.int .i64 c1) ∧ W.cell? ⟨w.heap.size + 2, 1, none⟩ = some (.int .i64 c2) ∧ W.cell? ⟨w.heap.size + 3, 0, none⟩ = some (.int .i64 d1) ∧ W.cell? ⟨w.heap.size + 3, 1, none⟩ = some (.int .i64 d2)) (by kernel_rfl) (held4 (box4 w _ a1 a2 b1 b2 c1 c2 d1 d2) ((Below.refl _ _).drew)) ?_
    first | refine wpB_skip 0 rfl (by kernel_rfl) (by kernel_rfl) (by kernel_rfl) (by rfl) ?_ | (refine wpB_text 0 (v := ?_) rfl (by kernel_rfl) (by kernel_rfl) (by kernel_rfl) (by rfl) (fun W hW => ?_) ?_; rotate_left; (obtain ⟨k1, k2, k3, k4, k5, k6, k7, k8, k9, k10⟩ := hW;  go_simp; refine comes_v ?_; exact ⟨k1, k2, k3, k4, k5, k6, k7, k8, k9, k10⟩))
    (try simp only [Act.put, List.setIfInBounds_toArray, List.set_cons_zero, List.set_cons_succ])
    first | refine wpB_skip 1 rfl (by kernel_rfl) (by kernel_rfl) (by kernel_rfl) (by rfl) ?_ | (refine wpB_text 1 (v := ?_) rfl (by kernel_rfl) (by kernel_rfl) (by kernel_rfl) (by rfl) (fun W hW => ?_) ?_; rotate_left; (obtain ⟨k1, k2, k3, k4, k5, k6, k7, k8, k9, k10⟩ := hW;  go_simp; refine comes_v ?_; exact ⟨k1, k2, k3, k4, k5, k6, k7, k8, k9, k10⟩))
    (try simp only [Act.put, List.setIfInBounds_toArray, List.set_cons_zero, List.set_cons_succ])
    first | refine wpB_skip 2 rfl (by kernel_rfl) (by kernel_rfl) (by kernel_rfl) (by rfl) ?_ | (refine wpB_text 2 (v := ?_) rfl (by kernel_rfl) (by kernel_rfl) (by kernel_rfl) (by rfl) (fun W hW => ?_) ?_; rotate_left; (obtain ⟨k1, k2, k3, k4, k5, k6, k7, k8, k9, k10⟩ := hW;  go_simp; refine comes_v ?_; exact ⟨k1, k2, k3, k4, k5, k6, k7, k8, k9, k10⟩))
    (try simp only [Act.put, List.setIfInBounds_toArray, List.set_cons_zero, List.set_cons_succ])
    first | refine wpB_skip 3 rfl (by kernel_rfl) (by kernel_rfl) (by kernel_rfl) (by rfl) ?_ | (refine wpB_text 3 (v := .int .i64 t1) rfl (by kernel_rfl) (by kernel_rfl) (by kernel_rfl) (by rfl) (fun W hW => ?_) ?_; (obtain ⟨k1, k2, k3, k4, k5, k6, k7, k8, k9, k10⟩ := hW;  go_simp; exact comes_c ( T1.out _) (fun wn hbn => held4 ⟨k1, k2, k3, k4, k5, k6, k7, k8, k9, k10⟩ hbn)))
    (try simp only [Act.put, List.setIfInBounds_toArray, List.set_cons_zero, List.set_cons_succ])
    first | refine wpB_skip 4 rfl (by kernel_rfl) (by kernel_rfl) (by kernel_rfl) (by rfl) ?_ | (refine wpB_text 4 (v := ?_) rfl (by kernel_rfl) (by kernel_rfl) (by kernel_rfl) (by rfl) (fun W hW => ?_) ?_; rotate_left; (obtain ⟨k1, k2, k3, k4, k5, k6, k7, k8, k9, k10⟩ := hW;  go_simp; refine comes_v ?_; exact ⟨k1, k2, k3, k4, k5, k6, k7, k8, k9, k10⟩))
    (try simp only [Act.put, List.setIfInBounds_toArray, List.set_cons_zero, List.set_cons_succ])
    first | refine wpB_skip 5 rfl (by kernel_rfl) (by kernel_rfl) (by kernel_rfl) (by rfl) ?_ | (refine wpB_text 5 (v := ?_) rfl (by kernel_rfl) (by kernel_rfl) (by kernel_rfl) (by rfl) (fun W hW => ?_) ?_; rotate_left; (obtain ⟨k1, k2, k3, k4, k5, k6, k7, k8, k9, k10⟩ := hW;  go_simp; refine comes_v ?_; exact ⟨k1, k2, k3, k4, k5, k6, k7, k8, k9, k10⟩))
    (try simp only [Act.put, List.setIfInBounds_toArray, List.set_cons_zero, List.set_cons_succ])
    first | refine wpB_skip 6 rfl (by kernel_rfl) (by kernel_rfl) (by kernel_rfl) (by rfl) ?_ | (refine wpB_text 6 (v := ?_) rfl (by kernel_rfl) (by kernel_rfl) (by kernel_rfl) (by rfl) (fun W hW => ?_) ?_; rotate_left; (obtain ⟨k1, k2, k3, k4, k5, k6, k7, k8, k9, k10⟩ := hW;  go_simp; refine comes_v ?_; exact ⟨k1, k2, k3, k4, k5, k6, k7, k8, k9, k10⟩))
    (try simp only [Act.put, List.setIfInBounds_toArray, List.set_cons_zero, List.set_cons_succ])
    first | refine wpB_skip 7 rfl (by kernel_rfl) (by kernel_rfl) (by kernel_rfl) (by rfl) ?_ | (refine wpB_text 7 (v := .int .i64 t2) rfl (by kernel_rfl) (by kernel_rfl) (by kernel_rfl) (by rfl) (fun W hW => ?_) ?_; (obtain ⟨k1, k2, k3, k4, k5, k6, k7, k8, k9, k10⟩ := hW;  go_simp; exact comes_c ( T2.out _) (fun wn hbn => held4 ⟨k1, k2, k3, k4, k5, k6, k7, k8, k9, k10⟩ hbn)))
    (try simp only [Act.put, List.setIfInBounds_toArray, List.set_cons_zero, List.set_cons_succ])
    first | refine wpB_skip 8 rfl (by kernel_rfl) (by kernel_rfl) (by kernel_rfl) (by rfl) ?_ | (refine wpB_text 8 (v := ?_) rfl (by kernel_rfl) (by kernel_rfl) (by kernel_rfl) (by rfl) (fun W hW => ?_) ?_; rotate_left; (obtain ⟨k1, k2, k3, k4, k5, k6, k7, k8, k9, k10⟩ := hW;  go_simp; refine comes_v ?_; exact ⟨k1, k2, k3, k4, k5, k6, k7, k8, k9, k10⟩))
    (try simp only [Act.put, List.setIfInBounds_toArray, List.set_cons_zero, List.set_cons_succ])
    first | refine wpB_skip 9 rfl (by kernel_rfl) (by kernel_rfl) (by kernel_rfl) (by rfl) ?_ | (refine wpB_text 9 (v := ?_) rfl (by kernel_rfl) (by kernel_rfl) (by kernel_rfl) (by rfl) (fun W hW => ?_) ?_; rotate_left; (obtain ⟨k1, k2, k3, k4, k5, k6, k7, k8, k9, k10⟩ := hW;  go_simp; refine comes_v ?_; exact ⟨k1, k2, k3, k4, k5, k6, k7, k8, k9, k10⟩))
    (try simp only [Act.put, List.setIfInBounds_toArray, List.set_cons_zero, List.set_cons_succ])
    first | refine wpB_skip 10 rfl (by kernel_rfl) (by kernel_rfl) (by kernel_rfl) (by rfl) ?_ | (refine wpB_text 10 (v := ?_) rfl (by kernel_rfl) (by kernel_rfl) (by kernel_rfl) (by rfl) (fun W hW => ?_) ?_; rotate_left; (obtain ⟨k1, k2, k3, k4, k5, k6, k7, k8, k9, k10⟩ := hW;  go_simp; refine comes_v ?_; exact ⟨k1, k2, k3, k4, k5, k6, k7, k8, k9, k10⟩))
    (try simp only [Act.put, List.setIfInBounds_toArray, List.set_cons_zero, List.set_cons_succ])
    first | refine wpB_skip 11 rfl (by kernel_rfl) (by kernel_rfl) (by kernel_rfl) (by rfl) ?_ | (refine wpB_text 11 (v := ?_) rfl (by kernel_rfl) (by kernel_rfl) (by kernel_rfl) (by rfl) (fun W hW => ?_) ?_; rotate_left; (obtain ⟨k1, k2, k3, k4, k5, k6, k7, k8, k9, k10⟩ := hW;  go_simp; refine comes_v ?_; exact ⟨k1, k2, k3, k4, k5, k6, k7, k8, k9, k10⟩))
    (try simp only [Act.put, List.setIfInBounds_toArray, List.set_cons_zero, List.set_cons_succ])
    first | refine wpB_skip 12 rfl (by kernel_rfl) (by kernel_rfl) (by kernel_rfl) (by rfl) ?_ | (refine wpB_text 12 (v := ?_) rfl (by kernel_rfl) (by kernel_rfl) (by kernel_rfl) (by rfl) (fun W hW => ?_) ?_; rotate_left; (obtain ⟨k1, k2, k3, k4, k5, k6, k7, k8, k9, k10⟩ := hW;  go_simp; refine comes_v ?_; exact ⟨k1, k2, k3, k4, k5, k6, k7, k8, k9, k10⟩))
    (try simp only [Act.put, List.setIfInBounds_toArray, List.set_cons_zero, List.set_cons_succ])
    first | refine wpB_skip 13 rfl (by kernel_rfl) (by kernel_rfl) (by kernel_rfl) (by rfl) ?_ | (refine wpB_text 13 (v := ?_) rfl (by kernel_rfl) (by kernel_rfl) (by kernel_rfl) (by rfl) (fun W hW => ?_) ?_; rotate_left; (obtain ⟨k1, k2, k3, k4, k5, k6, k7, k8, k9, k10⟩ := hW;  go_simp; refine comes_v ?_; exact ⟨k1, k2, k3, k4, k5, k6, k7, k8, k9, k10⟩))
    (try simp only [Act.put, List.setIfInBounds_toArray, List.set_cons_zero, List.set_cons_succ])
    first | refine wpB_skip 14 rfl (by kernel_rfl) (by kernel_rfl) (by kernel_rfl) (by rfl) ?_ | (refine wpB_text 14 (v := .int .i64 t3) rfl (by kernel_rfl) (by kernel_rfl) (by kernel_rfl) (by rfl) (fun W hW => ?_) ?_; (obtain ⟨k1, k2, k3, k4, k5, k6, k7, k8, k9, k10⟩ := hW;  go_simp; exact comes_c ( T3.out _) (fun wn hbn => held4 ⟨k1, k2, k3, k4, k5, k6, k7, k8, k9, k10⟩ hbn)))
    (try simp only [Act.put, List.setIfInBounds_toArray, List.set_cons_zero, List.set_cons_succ])
    first | refine wpB_skip 15 rfl (by kernel_rfl) (by kernel_rfl) (by kernel_rfl) (by rfl) ?_ | (refine wpB_text 15 (v := ?_) rfl (by kernel_rfl) (by kernel_rfl) (by kernel_rfl) (by rfl) (fun W hW => ?_) ?_; rotate_left; (obtain ⟨k1, k2, k3, k4, k5, k6, k7, k8, k9, k10⟩ := hW;  go_simp; refine comes_v ?_; exact ⟨k1, k2, k3, k4, k5, k6, k7, k8, k9, k10⟩))
    (try simp only [Act.put, List.setIfInBounds_toArray, List.set_cons_zero, List.set_cons_succ])
    first | refine wpB_skip 16 rfl (by kernel_rfl) (by kernel_rfl) (by kernel_rfl) (by rfl) ?_ | (refine wpB_text 16 (v := ?_) rfl (by kernel_rfl) (by kernel_rfl) (by kernel_rfl) (by rfl) (fun W hW => ?_) ?_; rotate_left; (obtain ⟨k1, k2, k3, k4, k5, k6, k7, k8, k9, k10⟩ := hW;  go_simp; refine comes_v ?_; exact ⟨k1, k2, k3, k4, k5, k6, k7, k8, k9, k10⟩))
    (try simp only [Act.put, List.setIfInBounds_toArray, List.set_cons_zero, List.set_cons_succ])
    first | refine wpB_skip 17 rfl (by kernel_rfl) (by kernel_rfl) (by kernel_rfl) (by rfl) ?_ | (refine wpB_text 17 (v := ?_) rfl (by kernel_rfl) (by kernel_rfl) (by kernel_rfl) (by rfl) (fun W hW => ?_) ?_; rotate_left; (obtain ⟨k1, k2, k3, k4, k5, k6, k7, k8, k9, k10⟩ := hW;  go_simp; refine comes_v ?_; exact ⟨k1, k2, k3, k4, k5, k6, k7, k8, k9, k10⟩))
    (try simp only [Act.put, List.setIfInBounds_toArray, List.set_cons_zero, List.set_cons_succ])
    first | refine wpB_skip 18 rfl (by kernel_rfl) (by kernel_rfl) (by kernel_rfl) (by rfl) ?_ | (refine wpB_text 18 (v := .int .i64 t4) rfl (by kernel_rfl) (by kernel_rfl) (by kernel_rfl) (by rfl) (fun W hW => ?_) ?_; (obtain ⟨k1, k2, k3, k4, k5, k6, k7, k8, k9, k10⟩ := hW;  go_simp; exact comes_c ( T4.out _) (fun wn hbn => held4 ⟨k1, k2, k3, k4, k5, k6, k7, k8, k9, k10⟩ hbn)))
    (try simp only [Act.put, List.setIfInBounds_toArray, List.set_cons_zero, List.set_cons_succ])
    first | refine wpB_skip 19 rfl (by kernel_rfl) (by kernel_rfl) (by kernel_rfl) (by rfl) ?_ | (refine wpB_text 19 (v := ?_) rfl (by kernel_rfl) (by kernel_rfl) (by kernel_rfl) (by rfl) (fun W hW => ?_) ?_; rotate_left; (obtain ⟨k1, k2, k3, k4, k5, k6, k7, k8, k9, k10⟩ := hW;  go_simp; refine comes_v ?_; exact ⟨k1, k2, k3, k4, k5, k6, k7, k8, k9, k10⟩))
    (try simp only [Act.put, List.setIfInBounds_toArray, List.set_cons_zero, List.set_cons_succ])
    first | refine wpB_skip 20 rfl (by kernel_rfl) (by kernel_rfl) (by kernel_rfl) (by rfl) ?_ | (refine wpB_text 20 (v := ?_) rfl (by kernel_rfl) (by kernel_rfl) (by kernel_rfl) (by rfl) (fun W hW => ?_) ?_; rotate_left; (obtain ⟨k1, k2, k3, k4, k5, k6, k7, k8, k9, k10⟩ := hW;  go_simp; refine comes_v ?_; exact ⟨k1, k2, k3, k4, k5, k6, k7, k8, k9, k10⟩))
    (try simp only [Act.put, List.setIfInBounds_toArray, List.set_cons_zero, List.set_cons_succ])
    first | refine wpB_skip 21 rfl (by kernel_rfl) (by kernel_rfl) (by kernel_rfl) (by rfl) ?_ | (refine wpB_text 21 (v := ?_) rfl (by kernel_rfl) (by kernel_rfl) (by kernel_rfl) (by rfl) (fun W hW => ?_) ?_; rotate_left; (obtain ⟨k1, k2, k3, k4, k5, k6, k7, k8, k9, k10⟩ := hW;  go_simp; refine comes_v ?_; exact ⟨k1, k2, k3, k4, k5, k6, k7, k8, k9, k10⟩))
    (try simp only [Act.put, List.setIfInBounds_toArray, List.set_cons_zero, List.set_cons_succ])
    first | refine wpB_skip 22 rfl (by kernel_rfl) (by kernel_rfl) (by kernel_rfl) (by rfl) ?_ | (refine wpB_text 22 (v := ?_) rfl (by kernel_rfl) (by kernel_rfl) (by kernel_rfl) (by rfl) (fun W hW => ?_) ?_; rotate_left; (obtain ⟨k1, k2, k3, k4, k5, k6, k7, k8, k9, k10⟩ := hW;  go_simp; refine comes_v ?_; exact ⟨k1, k2, k3, k4, k5, k6, k7, k8, k9, k10⟩))
    (try simp only [Act.put, List.setIfInBounds_toArray, List.set_cons_zero, List.set_cons_succ])
    refine wpB_done (by kernel_rfl) ?_ _
    intro W hW; obtain ⟨k1, k2, k3, k4, k5, k6, k7, k8, k9, k10⟩ := hW
    clear e1 e2
    go_wp2_with fail
    go_ret
    exact ⟨ret_bool (by simp [hm]), k1⟩
theorem linesMeet_any (a1 a2 b1 b2 c1 c2 d1 d2 : Int) (w : World) (pa : isPegB a1 a2 = true) (pb : isPegB b1 b2 = true) (pc : isPegB c1 c2 = true) (pd : isPegB d1 d2 = true) :
    Calls Try.prog 125 #[.agg #[.int .i64 a1, .int .i64 a2], .agg #[.int .i64 b1, .int .i64 b2], .agg #[.int .i64 c1, .int .i64 c2], .agg #[.int .i64 d1, .int .i64 d2]] w fun e w' => e = .returned (.bool (meetB a1 a2 b1 b2 c1 c2 d1 d2)) ∧ Below w.heap.size w w' := by
  have ha := sz_of pa
  have hb := sz_of pb
  have hc := sz_of pc
  have hd := sz_of pd
  have K1 := Lib.hid (fun W => isBetween_any a1 a2 c1 c2 d1 d2 W ha hc hd)
  have K2 := Lib.hid (fun W => isBetween_any b1 b2 c1 c2 d1 d2 W hb hc hd)
  have K3 := Lib.hid (fun W => isBetween_any c1 c2 a1 a2 b1 b2 W hc ha hb)
  have K4 := Lib.hid (fun W => isBetween_any d1 d2 a1 a2 b1 b2 W hd ha hb)
  have KX := Lib.hid (fun W => linesCross_any a1 a2 b1 b2 c1 c2 d1 d2 W pa pb pc pd)
  clear ha hb hc hd pa pb pc pd
  have eq : meetB a1 a2 b1 b2 c1 c2 d1 d2 = (onB c1 c2 d1 d2 a1 a2 || onB c1 c2 d1 d2 b1 b2 || onB a1 a2 b1 b2 c1 c2 || onB a1 a2 b1 b2 d1 d2 ||
      (decide (twI a1 a2 b1 b2 c1 c2 * twI a1 a2 b1 b2 d1 d2 < 0) && decide (twI c1 c2 d1 d2 a1 a2 * twI c1 c2 d1 d2 b1 b2 < 0))) := by
    unfold meetB; rw [Bool.decide_and]
    generalize onB a1 a2 b1 b2 c1 c2 = o1
    generalize onB a1 a2 b1 b2 d1 d2 = o2
    generalize onB c1 c2 d1 d2 a1 a2 = o3
    generalize onB c1 c2 d1 d2 b1 b2 = o4
    cases o1 <;> cases o2 <;> cases o3 <;> cases o4 <;> rfl
  rw [eq]
  clear eq
  generalize twI a1 a2 b1 b2 c1 c2 = t1 at *
  generalize twI a1 a2 b1 b2 d1 d2 = t2 at *
  generalize twI c1 c2 d1 d2 a1 a2 = t3 at *
  generalize twI c1 c2 d1 d2 b1 b2 = t4 at *
  generalize onB c1 c2 d1 d2 a1 a2 = o1 at *
  generalize onB c1 c2 d1 d2 b1 b2 = o2 at *
  generalize onB a1 a2 b1 b2 c1 c2 = o3 at *
  generalize onB a1 a2 b1 b2 d1 d2 = o4 at *
  cases o1
  · go_enter Try.func125, Try.ntmps125
    go_wp2_with fail
    refine (K1.out _).mono ?_; rintro e w1 ⟨rfl, hb1⟩
    obtain ⟨hc1, hf1⟩ := bcell hb1
    have z1_0 : w.heap.size < w1.heap.size := by (have := hb1.size; simp at this; omega)
    have z1_1 : w.heap.size + 1 < w1.heap.size := by (have := hb1.size; simp at this; omega)
    have z1_2 : w.heap.size + 2 < w1.heap.size := by (have := hb1.size; simp at this; omega)
    have z1_3 : w.heap.size + 3 < w1.heap.size := by (have := hb1.size; simp at this; omega)
    have B1 : Below w.heap.size w w1 := (Below.alloc (Below.alloc (Below.alloc (Below.alloc (Below.refl _ _) (by simp <;> omega) _) (by simp <;> omega) _) (by simp <;> omega) _) (by simp <;> omega) _).trans (hb1.mono (by simp <;> omega))
    go_wp2_with fail
    cases o2
    · refine (K2.out _).mono ?_; rintro e w2 ⟨rfl, hb2⟩
      obtain ⟨hc2, hf2⟩ := bcell hb2
      have z2_0 : w.heap.size < w2.heap.size := by (have := hb2.size; omega)
      have z2_1 : w.heap.size + 1 < w2.heap.size := by (have := hb2.size; omega)
      have z2_2 : w.heap.size + 2 < w2.heap.size := by (have := hb2.size; omega)
      have z2_3 : w.heap.size + 3 < w2.heap.size := by (have := hb2.size; omega)
      have B2 : Below w.heap.size w w2 := B1.trans (hb2.mono (by have := B1.size; omega))
      go_wp2_with fail
      cases o3
      · refine (K3.out _).mono ?_; rintro e w3 ⟨rfl, hb3⟩
        obtain ⟨hc3, hf3⟩ := bcell hb3
        have z3_0 : w.heap.size < w3.heap.size := by (have := hb3.size; omega)
        have z3_1 : w.heap.size + 1 < w3.heap.size := by (have := hb3.size; omega)
        have z3_2 : w.heap.size + 2 < w3.heap.size := by (have := hb3.size; omega)
        have z3_3 : w.heap.size + 3 < w3.heap.size := by (have := hb3.size; omega)
        have B3 : Below w.heap.size w w3 := B2.trans (hb3.mono (by have := B2.size; omega))
        go_wp2_with fail
        cases o4
        · refine (K4.out _).mono ?_; rintro e w4 ⟨rfl, hb4⟩
          obtain ⟨hc4, hf4⟩ := bcell hb4
          have z4_0 : w.heap.size < w4.heap.size := by (have := hb4.size; omega)
          have z4_1 : w.heap.size + 1 < w4.heap.size := by (have := hb4.size; omega)
          have z4_2 : w.heap.size + 2 < w4.heap.size := by (have := hb4.size; omega)
          have z4_3 : w.heap.size + 3 < w4.heap.size := by (have := hb4.size; omega)
          have B4 : Below w.heap.size w w4 := B3.trans (hb4.mono (by have := B3.size; omega))
          go_wp2_with fail
          refine (KX.out _).mono ?_; rintro e w5 ⟨rfl, hb5⟩
          obtain ⟨hc5, hf5⟩ := bcell hb5
          have z5_0 : w.heap.size < w5.heap.size := by (have := hb5.size; omega)
          have z5_1 : w.heap.size + 1 < w5.heap.size := by (have := hb5.size; omega)
          have z5_2 : w.heap.size + 2 < w5.heap.size := by (have := hb5.size; omega)
          have z5_3 : w.heap.size + 3 < w5.heap.size := by (have := hb5.size; omega)
          have B5 : Below w.heap.size w w5 := B4.trans (hb5.mono (by have := B4.size; omega))
          go_wp2_with fail
          go_ret
          exact ⟨rfl, B5⟩
        · refine (K4.out _).mono ?_; rintro e w4 ⟨rfl, hb4⟩
          obtain ⟨hc4, hf4⟩ := bcell hb4
          have z4_0 : w.heap.size < w4.heap.size := by (have := hb4.size; omega)
          have z4_1 : w.heap.size + 1 < w4.heap.size := by (have := hb4.size; omega)
          have z4_2 : w.heap.size + 2 < w4.heap.size := by (have := hb4.size; omega)
          have z4_3 : w.heap.size + 3 < w4.heap.size := by (have := hb4.size; omega)
          have B4 : Below w.heap.size w w4 := B3.trans (hb4.mono (by have := B3.size; omega))
          go_wp2_with fail
          go_ret
          exact ⟨rfl, B4⟩
      · refine (K3.out _).mono ?_; rintro e w3 ⟨rfl, hb3⟩
        obtain ⟨hc3, hf3⟩ := bcell hb3
        have z3_0 : w.heap.size < w3.heap.size := by (have := hb3.size; omega)
        have z3_1 : w.heap.size + 1 < w3.heap.size := by (have := hb3.size; omega)
        have z3_2 : w.heap.size + 2 < w3.heap.size := by (have := hb3.size; omega)
        have z3_3 : w.heap.size + 3 < w3.heap.size := by (have := hb3.size; omega)
        have B3 : Below w.heap.size w w3 := B2.trans (hb3.mono (by have := B2.size; omega))
        go_wp2_with fail
        go_ret
        exact ⟨rfl, B3⟩
    · refine (K2.out _).mono ?_; rintro e w2 ⟨rfl, hb2⟩
      obtain ⟨hc2, hf2⟩ := bcell hb2
      have z2_0 : w.heap.size < w2.heap.size := by (have := hb2.size; omega)
      have z2_1 : w.heap.size + 1 < w2.heap.size := by (have := hb2.size; omega)
      have z2_2 : w.heap.size + 2 < w2.heap.size := by (have := hb2.size; omega)
      have z2_3 : w.heap.size + 3 < w2.heap.size := by (have := hb2.size; omega)
      have B2 : Below w.heap.size w w2 := B1.trans (hb2.mono (by have := B1.size; omega))
      go_wp2_with fail
      go_ret
      exact ⟨rfl, B2⟩
  · go_enter Try.func125, Try.ntmps125
    go_wp2_with fail
    refine (K1.out _).mono ?_; rintro e w1 ⟨rfl, hb1⟩
    obtain ⟨hc1, hf1⟩ := bcell hb1
    have z1_0 : w.heap.size < w1.heap.size := by (have := hb1.size; simp at this; omega)
    have z1_1 : w.heap.size + 1 < w1.heap.size := by (have := hb1.size; simp at this; omega)
    have z1_2 : w.heap.size + 2 < w1.heap.size := by (have := hb1.size; simp at this; omega)
    have z1_3 : w.heap.size + 3 < w1.heap.size := by (have := hb1.size; simp at this; omega)
    have B1 : Below w.heap.size w w1 := (Below.alloc (Below.alloc (Below.alloc (Below.alloc (Below.refl _ _) (by simp <;> omega) _) (by simp <;> omega) _) (by simp <;> omega) _) (by simp <;> omega) _).trans (hb1.mono (by simp <;> omega))
    go_wp2_with fail
    go_ret
    exact ⟨rfl, B1⟩
end Go.Proofs.Ytheddoinnakneaa
/- contracts: a corner's turn; two lines of a polygon that cross -/
namespace Go.Proofs.Ytheddoinnakneaa
open Go.ChangeShapes Go.WideShapes Go.ChangeAt Go.RowKit Go.Joins
set_option linter.unusedVariables false
set_option linter.unusedSimpArgs false
set_option maxRecDepth 4000
theorem turn_any (p1 p2 b1 b2 c1 c2 : Int) (w : World) (hp : Sz p1 p2) (hb : Sz b1 b2) (hc : Sz c1 c2) :
    Calls Try.prog 88 #[.agg #[.int .i64 p1, .int .i64 p2, .int .i64 b1, .int .i64 b2, .int .i64 c1, .int .i64 c2]] w fun e w' => e = .returned (.int .i64 (twI b1 b2 p1 p2 c1 c2)) ∧ Below w.heap.size w w' := by
  have K := Lib.hid (fun W => twiceThree_any b1 b2 p1 p2 c1 c2 W hb hp hc)
  go_enter Try.func88, Try.ntmps88
  go_wp2_with fail
  refine (K.out _).mono ?_; rintro e w1 ⟨rfl, hb1⟩
  obtain ⟨hc1, hf1⟩ := bcell hb1
  have z1_0 : w.heap.size < w1.heap.size := by (have := hb1.size; simp at this; omega)
  have B1 : Below w.heap.size w w1 := (Below.alloc (Below.refl _ _) (by simp <;> omega) _).trans (hb1.mono (by simp <;> omega))
  go_wp2_with fail
  go_ret
  exact ⟨rfl, B1⟩
/-- two lines, each from a corner to the one behind it, cross: lines next to each other are left out -/
def crB (p1 p2 c1 c2 q1 q2 d1 d2 : Int) : Bool := !(decide (c1 = q1) && decide (c2 = q2)) && !(decide (d1 = p1) && decide (d2 = p2)) && meetB p1 p2 c1 c2 q1 q2 d1 d2
theorem isCrossing_any (p1 p2 b1 b2 c1 c2 q1 q2 a1 a2 d1 d2 : Int) (w : World) (hp : isPegB p1 p2 = true) (hc : isPegB c1 c2 = true) (hq : isPegB q1 q2 = true) (hd : isPegB d1 d2 = true) :
    Calls Try.prog 89 #[.agg #[.int .i64 p1, .int .i64 p2, .int .i64 b1, .int .i64 b2, .int .i64 c1, .int .i64 c2], .agg #[.int .i64 q1, .int .i64 q2, .int .i64 a1, .int .i64 a2, .int .i64 d1, .int .i64 d2]] w fun e w' => e = .returned (.bool (crB p1 p2 c1 c2 q1 q2 d1 d2)) ∧ Below w.heap.size w w' := by
  have K := Lib.hid (fun W => linesMeet_any p1 p2 c1 c2 q1 q2 d1 d2 W hp hc hq hd)
  clear hp hc hq hd
  by_cases h1 : c1 = q1 ∧ c2 = q2
  · obtain ⟨rfl, rfl⟩ := h1
    go_enter Try.func89, Try.ntmps89
    go_wp2_with fail
    go_ret
    exact ⟨ret_bool (by simp [crB]), (by repeat (first | exact Below.refl _ _ | assumption | apply Below.drew | refine Below.alloc ?_ (by simp <;> omega) _))⟩
  · by_cases h2 : d1 = p1 ∧ d2 = p2
    · obtain ⟨rfl, rfl⟩ := h2
      by_cases h3 : c1 = q1
      · have h4 : ¬ c2 = q2 := fun h => h1 ⟨h3, h⟩
        subst h3
        clear h1
        go_enter Try.func89, Try.ntmps89
        go_wp2_with fail
        go_ret
        exact ⟨ret_bool (by simp [crB]), (by repeat (first | exact Below.refl _ _ | assumption | apply Below.drew | refine Below.alloc ?_ (by simp <;> omega) _))⟩
      · clear h1
        go_enter Try.func89, Try.ntmps89
        go_wp2_with fail
        go_ret
        exact ⟨ret_bool (by simp [crB]), (by repeat (first | exact Below.refl _ _ | assumption | apply Below.drew | refine Below.alloc ?_ (by simp <;> omega) _))⟩
    · have e : crB p1 p2 c1 c2 q1 q2 d1 d2 = meetB p1 p2 c1 c2 q1 q2 d1 d2 := by
        have x1 : (decide (c1 = q1) && decide (c2 = q2)) = false := by simpa using h1
        have x2 : (decide (d1 = p1) && decide (d2 = p2)) = false := by simpa using h2
        unfold crB; rw [x1, x2]; rfl
      rw [e]
      clear e
      generalize meetB p1 p2 c1 c2 q1 q2 d1 d2 = m at *
      by_cases h3 : c1 = q1 <;> by_cases h4 : d1 = p1
      · have h5 : ¬ c2 = q2 := fun h => h1 ⟨h3, h⟩
        have h6 : ¬ d2 = p2 := fun h => h2 ⟨h4, h⟩
        subst h3 h4
        clear h1 h2
        go_enter Try.func89, Try.ntmps89
        go_wp2_with fail
        refine (K.out _).mono ?_; rintro e w1 ⟨rfl, hb1⟩
        obtain ⟨hc1, hf1⟩ := bcell hb1
        have z1_0 : w.heap.size < w1.heap.size := by (have := hb1.size; simp at this; omega)
        have z1_1 : w.heap.size + 1 < w1.heap.size := by (have := hb1.size; simp at this; omega)
        have B1 : Below w.heap.size w w1 := (Below.alloc (Below.alloc (Below.refl _ _) (by simp <;> omega) _) (by simp <;> omega) _).trans (hb1.mono (by simp <;> omega))
        go_wp2_with fail
        go_ret
        exact ⟨rfl, B1⟩
      · have h5 : ¬ c2 = q2 := fun h => h1 ⟨h3, h⟩
        subst h3
        clear h1 h2
        go_enter Try.func89, Try.ntmps89
        go_wp2_with fail
        refine (K.out _).mono ?_; rintro e w1 ⟨rfl, hb1⟩
        obtain ⟨hc1, hf1⟩ := bcell hb1
        have z1_0 : w.heap.size < w1.heap.size := by (have := hb1.size; simp at this; omega)
        have z1_1 : w.heap.size + 1 < w1.heap.size := by (have := hb1.size; simp at this; omega)
        have B1 : Below w.heap.size w w1 := (Below.alloc (Below.alloc (Below.refl _ _) (by simp <;> omega) _) (by simp <;> omega) _).trans (hb1.mono (by simp <;> omega))
        go_wp2_with fail
        go_ret
        exact ⟨rfl, B1⟩
      · have h6 : ¬ d2 = p2 := fun h => h2 ⟨h4, h⟩
        subst h4
        clear h1 h2
        go_enter Try.func89, Try.ntmps89
        go_wp2_with fail
        refine (K.out _).mono ?_; rintro e w1 ⟨rfl, hb1⟩
        obtain ⟨hc1, hf1⟩ := bcell hb1
        have z1_0 : w.heap.size < w1.heap.size := by (have := hb1.size; simp at this; omega)
        have z1_1 : w.heap.size + 1 < w1.heap.size := by (have := hb1.size; simp at this; omega)
        have B1 : Below w.heap.size w w1 := (Below.alloc (Below.alloc (Below.refl _ _) (by simp <;> omega) _) (by simp <;> omega) _).trans (hb1.mono (by simp <;> omega))
        go_wp2_with fail
        go_ret
        exact ⟨rfl, B1⟩
      · clear h1 h2
        go_enter Try.func89, Try.ntmps89
        go_wp2_with fail
        refine (K.out _).mono ?_; rintro e w1 ⟨rfl, hb1⟩
        obtain ⟨hc1, hf1⟩ := bcell hb1
        have z1_0 : w.heap.size < w1.heap.size := by (have := hb1.size; simp at this; omega)
        have z1_1 : w.heap.size + 1 < w1.heap.size := by (have := hb1.size; simp at this; omega)
        have B1 : Below w.heap.size w w1 := (Below.alloc (Below.alloc (Below.refl _ _) (by simp <;> omega) _) (by simp <;> omega) _).trans (hb1.mono (by simp <;> omega))
        go_wp2_with fail
        go_ret
        exact ⟨rfl, B1⟩
end Go.Proofs.Ytheddoinnakneaa
/- contract: the program's test of a polygon -/
namespace Go.Proofs.Ytheddoinnakneaa
open Go.ChangeShapes Go.WideShapes Go.ChangeAt Go.RowKit Go.Joins
set_option linter.unusedVariables false
set_option linter.unusedSimpArgs false
set_option maxRecDepth 4000
theorem onB_or (a b c d e : Bool) : (a || b || c || d || e) = (c || d || a || b || e) := by cases a <;> cases b <;> cases c <;> cases d <;> rfl
theorem meetB_comm (a1 a2 b1 b2 c1 c2 d1 d2 : Int) : meetB a1 a2 b1 b2 c1 c2 d1 d2 = meetB c1 c2 d1 d2 a1 a2 b1 b2 := by
  unfold meetB; rw [onB_or]; congr 1; rw [decide_eq_decide]; exact And.comm
theorem meP_comm (a b c d : Int × Int) : meP a b c d = meP c d a b := meetB_comm ..
theorem vx_add (l : List (Int × Int)) (i : Nat) : vx l (i + l.length) = vx l i := by unfold vx; rw [Nat.add_mod_right]
def crP (p c q d : Int × Int) : Bool := crB p.1 p.2 c.1 c.2 q.1 q.2 d.1 d.2
theorem crP_iff (p c q d : Int × Int) : crP p c q d = false ↔ (c = q ∨ d = p ∨ meP p c q d = false) := by
  unfold crP crB meP
  have e1 : c = q ↔ c.1 = q.1 ∧ c.2 = q.2 := ⟨fun h => by rw [h]; exact ⟨rfl, rfl⟩, fun h => Prod.ext h.1 h.2⟩
  have e2 : d = p ↔ d.1 = p.1 ∧ d.2 = p.2 := ⟨fun h => by rw [h]; exact ⟨rfl, rfl⟩, fun h => Prod.ext h.1 h.2⟩
  rw [e1, e2]
  generalize meetB p.1 p.2 c.1 c.2 q.1 q.2 d.1 d.2 = m
  by_cases h1 : c.1 = q.1 <;> by_cases h2 : c.2 = q.2 <;> by_cases h3 : d.1 = p.1 <;> by_cases h4 : d.2 = p.2 <;> simp [h1, h2, h3, h4]
/-- what the program looks at, corner by corner -/
def Seen (l : List (Int × Int)) (k : Nat) : Prop := ∀ i, i < k → twP (vx l (i + l.length - 1)) (vx l i) (vx l (i + 1)) ≠ 0 ∧ ∀ j, j < i → vx l i ≠ vx l j ∧ crP (vx l i) (vx l (i + 1)) (vx l j) (vx l (j + 1)) = false
theorem good_seen {l : List (Int × Int)} (h : Good l) : Seen l l.length := by
  intro i hi
  have hn := h.few.1
  refine ⟨?_, fun j hj => ⟨h.diff i j hj hi, ?_⟩⟩
  · by_cases h0 : i = 0
    · subst h0
      have := h.turn (l.length - 1) (by omega)
      rw [show l.length - 1 + 1 = 0 + l.length by omega, show l.length - 1 + 2 = 1 + l.length by omega, vx_add, vx_add] at this
      rw [show 0 + l.length - 1 = l.length - 1 by omega]; exact this
    · have := h.turn (i - 1) (by omega)
      rw [show i - 1 + 1 = i by omega, show i - 1 + 2 = i + 1 by omega] at this
      rw [show i + l.length - 1 = (i - 1) + l.length by omega, vx_add]; exact this
  · rw [crP_iff]
    by_cases h1 : j + 1 = i
    · right; left; rw [h1]
    · by_cases h2 : i + 1 = l.length ∧ j = 0
      · left; rw [h2.1, h2.2, show l.length = 0 + l.length by omega, vx_add]
      · right; right; rw [meP_comm]; exact h.apart j i (by omega) hi (by omega)
theorem seen_good {l : List (Int × Int)} (h0 : 3 ≤ l.length ∧ l.length ≤ 10) (hp : ∀ i, i < l.length → isPg (vx l i) = true) (h : Seen l l.length) : Good l := by
  have df : ∀ i j, j < i → i < l.length → vx l i ≠ vx l j := fun i j hj hi => ((h i hi).2 j hj).1
  refine ⟨h0, hp, df, fun i hi => ?_, fun i k hk hkn hki => ?_⟩
  · by_cases h1 : i + 1 = l.length
    · have := (h 0 (by omega)).1
      rw [show 0 + l.length - 1 = i by omega] at this
      rw [show i + 1 = 0 + l.length by omega, show i + 2 = 0 + 1 + l.length by omega, vx_add, vx_add]; exact this
    · have := (h (i + 1) (by omega)).1
      rw [show i + 1 + l.length - 1 = i + l.length by omega, vx_add] at this
      exact this
  · have := ((h k hkn).2 i (by omega)).2
    rw [crP_iff] at this
    rcases this with h1 | h1 | h1
    · by_cases h2 : k + 1 = l.length
      · rw [h2, show l.length = 0 + l.length by omega, vx_add] at h1
        by_cases h3 : i = 0
        · omega
        · exact absurd h1.symm (df i 0 (by omega) (by omega))
      · exact absurd h1 (df (k + 1) i (by omega) (by omega))
    · exact absurd h1.symm (df k (i + 1) (by omega) hkn)
    · rw [meP_comm]; exact h1
end Go.Proofs.Ytheddoinnakneaa
/- contract: the program's test of a polygon -/
namespace Go.Proofs.Ytheddoinnakneaa
open Go.ChangeShapes Go.WideShapes Go.ChangeAt Go.RowKit Go.Joins
set_option linter.unusedVariables false
set_option linter.unusedSimpArgs false
set_option maxRecDepth 4000
set_option maxHeartbeats 4000000 in
theorem implIsPolygon_any (A : Option Addr) (c : Nat) (l : List (Int × Int)) (w : World) (hn : l.length ≤ 1048576) (hR : Rd w w.heap.size A l) :
    Calls Try.prog 55 #[.slice A l.length c] w fun e w' => e = .returned (.bool (goodB l)) ∧ Below w.heap.size w w' := by
  have KA := Lib.hid (fun W hb => arePegs_any A c l W hn (rd_more (rd_below hR hb (Nat.le_refl _)) hb.size))
  by_cases hlo : l.length < 3
  · have hng : Hid (goodB l = false) := Lib.hid (goodB_false (fun h => by have := h.few; omega))
    have d1 : ((l.length : Int) < 3) := by omega
    clear hR
    go_enter Try.func55, Try.ntmps55
    go_wp2_with fail
    go_ret
    exact ⟨ret_bool hng.out.symm, Below.refl _ _⟩
  · by_cases hhi : 10 < l.length
    · have hng : Hid (goodB l = false) := Lib.hid (goodB_false (fun h => by have := h.few; omega))
      have d1 : ¬ ((l.length : Int) < 3) := by omega
      have d2 : ((10 : Int) < (l.length : Int)) := by omega
      clear hR
      go_enter Try.func55, Try.ntmps55
      go_wp2_with fail
      go_ret
      exact ⟨ret_bool hng.out.symm, Below.refl _ _⟩
    · have d1 : ¬ ((l.length : Int) < 3) := by omega
      have d2 : ¬ ((10 : Int) < (l.length : Int)) := by omega
      by_cases hpg : pegsB l = true
      · have K1 := Lib.hid (KA.out w (Below.refl _ _))
        rw [hpg] at K1
        have hpe := (pegsB_iff l).1 hpg
        have HPE := Lib.hid hpe
        have KC := Lib.hid (fun W (hb : Below w.heap.size w W) => cornersAround_any A c l W (by omega) (by omega) (rd_more (rd_below hR hb (Nat.le_refl _)) hb.size))
        have HFEW := Lib.hid (show 3 ≤ l.length ∧ l.length ≤ 10 by omega)
        have HG := Lib.hid (fun h => goodB_false (l := l) h)
        have HT := Lib.hid (fun h => goodB_true (l := l) h)
        clear hpg hpe KA hR
        have hL1 : ((3 : Int) ≤ (l.length : Int)) := by omega
        have hL2 : ((l.length : Int) ≤ 10) := by omega
        clear hlo hhi
        generalize hN : l.length = n at *
        have HN := Lib.hid hN
        clear hN
        go_enter Try.func55, Try.ntmps55
        go_wp2_with fail
        refine K1.out.mono ?_; rintro e w1 ⟨rfl, hb1⟩
        go_wp2_with fail
        refine (KC.out w1 hb1).mono ?_; rintro e w2 ⟨rfl, hb2, hSC⟩
        have B2 : Below w.heap.size w w2 := hb1.trans (hb2.mono hb1.size)
        have hw1 := hb1.size
        obtain ⟨g, hg⟩ : ∃ g, g = w1.heap.size := ⟨_, rfl⟩
        rw [← hg] at hSC ⊢
        have hgs : g < w2.heap.size := hSC.1
        have CE : Hid (∀ W, Below w2.heap.size w2 W → ∀ i, i < n → (W.cell? ⟨g, i * 6, none⟩ = some (.int .i64 (vx l i).1) ∧ W.cell? ⟨g, i * 6 + 1, none⟩ = some (.int .i64 (vx l i).2) ∧ W.cell? ⟨g, i * 6 + 2, none⟩ = some (.int .i64 (vx l (i + n - 1)).1) ∧ W.cell? ⟨g, i * 6 + 3, none⟩ = some (.int .i64 (vx l (i + n - 1)).2) ∧ W.cell? ⟨g, i * 6 + 4, none⟩ = some (.int .i64 (vx l (i + 1)).1) ∧ W.cell? ⟨g, i * 6 + 5, none⟩ = some (.int .i64 (vx l (i + 1)).2))) := Lib.hid (fun W hW i hi => by
          obtain ⟨c0, c1, c2, c3, c4, c5⟩ := hSC.2.2 i hi
          have hc := (bcell hW).1
          exact ⟨(hc _ _ hgs).trans c0, (hc _ _ hgs).trans c1, (hc _ _ hgs).trans c2, (hc _ _ hgs).trans c3, (hc _ _ hgs).trans c4, (hc _ _ hgs).trans c5⟩)
        have TR : Hid (∀ W, Below w2.heap.size w2 W → Below w.heap.size w W) := Lib.hid (fun W hW => B2.trans (hW.mono B2.size))
        clear K1 KC hb1 hb2 hSC B2 hw1 hg
        go_wp2_with fail
        go_loopg [25] n (fun gg i wr => ∃ k : Nat, k ≤ n ∧ gg = n - k ∧ i = .int .i64 k ∧ Below w2.heap.size w2 wr ∧ Hid (Seen l k))
        case atStart => exact ⟨0, Nat.zero_le _, rfl, rfl, Below.refl _ _, Lib.hid (fun i h => absurd h (Nat.not_lt_zero _))⟩
        case round =>
          obtain ⟨k, hk, hgg, rfl, hB, hF⟩ := hrel
          rename World => wo
          have HGK := Lib.hid hgg
          clear hgg
          by_cases hlt : k < n
          · obtain ⟨x0, x1, x2, x3, x4, x5⟩ := CE.out wo hB k hlt
            have hzB := hB.size
            have hgo : g < wo.heap.size := by omega
            have z1 := sz_of (x := (vx l k).1) (y := (vx l k).2) (HPE.out k hlt)
            have z2 : Sz (vx l (k + n - 1)).1 (vx l (k + n - 1)).2 := sz_of (by rw [← HN.out, ← vx_per]; exact HPE.out _ (by rw [HN.out]; exact Nat.mod_lt _ (by omega)))
            have z3 : Sz (vx l (k + 1)).1 (vx l (k + 1)).2 := sz_of (by rw [← vx_per, HN.out]; exact HPE.out _ (Nat.mod_lt _ (by omega)))
            have T := Lib.hid (fun W => turn_any (vx l k).1 (vx l k).2 (vx l (k + n - 1)).1 (vx l (k + n - 1)).2 (vx l (k + 1)).1 (vx l (k + 1)).2 W z1 z2 z3)
            clear z1 z2 z3
            by_cases hz : twI (vx l (k + n - 1)).1 (vx l (k + n - 1)).2 (vx l k).1 (vx l k).2 (vx l (k + 1)).1 (vx l (k + 1)).2 = 0
            · rw [hz] at T
              have hng : Hid (goodB l = false) := Lib.hid (HG.out (fun h => (good_seen h k (by have := HN.out; omega)).1 (by rw [HN.out]; exact hz)))
              clear hz
              go_wp2_with fail
              refine (T.out _).mono ?_; rintro e w3 ⟨rfl, hb3⟩
              have B3 := Lib.hid (TR.out _ ((Below.alloc hB hzB (.cells #[.int .i64 (vx l k).1, .int .i64 (vx l k).2, .int .i64 (vx l (k + n - 1)).1, .int .i64 (vx l (k + n - 1)).2, .int .i64 (vx l (k + 1)).1, .int .i64 (vx l (k + 1)).2] 107)).trans (hb3.mono (by simp; omega))))
              go_wp2_with fail
              go_ret
              exact ⟨ret_bool hng.out.symm, B3.out⟩
            · have HTW : Hid (twP (vx l (k + l.length - 1)) (vx l k) (vx l (k + 1)) ≠ 0) := Lib.hid (by rw [HN.out]; exact hz)
              have hzb : (twI (vx l (k + n - 1)).1 (vx l (k + n - 1)).2 (vx l k).1 (vx l k).2 (vx l (k + 1)).1 (vx l (k + 1)).2 == 0) = false := by simpa using hz
              generalize twI (vx l (k + n - 1)).1 (vx l (k + n - 1)).2 (vx l k).1 (vx l k).2 (vx l (k + 1)).1 (vx l (k + 1)).2 = t at *
              go_wp2_with fail
              refine (T.out _).mono ?_; rintro e w3 ⟨rfl, hb3⟩
              have B3 := (Below.alloc hB hzB (.cells #[.int .i64 (vx l k).1, .int .i64 (vx l k).2, .int .i64 (vx l (k + n - 1)).1, .int .i64 (vx l (k + n - 1)).2, .int .i64 (vx l (k + 1)).1, .int .i64 (vx l (k + 1)).2] 107)).trans (hb3.mono (by simp; omega))
              have hz1 : wo.heap.size < w3.heap.size := by (have := hb3.size; simp at this; omega)
              have y0 : w3.cell? ⟨wo.heap.size, 0, none⟩ = some (.int .i64 (vx l k).1) := ((bcell hb3).1 _ _ (by simp)).trans (by go_simp)
              have y1 : w3.cell? ⟨wo.heap.size, 1, none⟩ = some (.int .i64 (vx l k).2) := ((bcell hb3).1 _ _ (by simp)).trans (by go_simp)
              have y2 : w3.cell? ⟨wo.heap.size, 2, none⟩ = some (.int .i64 (vx l (k + n - 1)).1) := ((bcell hb3).1 _ _ (by simp)).trans (by go_simp)
              have y3 : w3.cell? ⟨wo.heap.size, 3, none⟩ = some (.int .i64 (vx l (k + n - 1)).2) := ((bcell hb3).1 _ _ (by simp)).trans (by go_simp)
              have y4 : w3.cell? ⟨wo.heap.size, 4, none⟩ = some (.int .i64 (vx l (k + 1)).1) := ((bcell hb3).1 _ _ (by simp)).trans (by go_simp)
              have y5 : w3.cell? ⟨wo.heap.size, 5, none⟩ = some (.int .i64 (vx l (k + 1)).2) := ((bcell hb3).1 _ _ (by simp)).trans (by go_simp)
              clear x0 x1 x2 x3 x4 x5 hb3 T
              go_wp2_with fail
              clear hzb hz
              go_loopg [37] k (fun g2 j wi => ∃ m : Nat, m ≤ k ∧ g2 = k - m ∧ j = .int .i64 m ∧ Below w2.heap.size w2 wi ∧ wo.heap.size < wi.heap.size ∧ wi.cell? ⟨wo.heap.size, 0, none⟩ = some (.int .i64 (vx l k).1) ∧ wi.cell? ⟨wo.heap.size, 1, none⟩ = some (.int .i64 (vx l k).2) ∧ wi.cell? ⟨wo.heap.size, 2, none⟩ = some (.int .i64 (vx l (k + n - 1)).1) ∧ wi.cell? ⟨wo.heap.size, 3, none⟩ = some (.int .i64 (vx l (k + n - 1)).2) ∧ wi.cell? ⟨wo.heap.size, 4, none⟩ = some (.int .i64 (vx l (k + 1)).1) ∧ wi.cell? ⟨wo.heap.size, 5, none⟩ = some (.int .i64 (vx l (k + 1)).2) ∧ Hid (∀ j, j < m → vx l k ≠ vx l j ∧ crP (vx l k) (vx l (k + 1)) (vx l j) (vx l (j + 1)) = false))
              case atStart => exact ⟨0, Nat.zero_le _, rfl, rfl, B3, hz1, y0, y1, y2, y3, y4, y5, Lib.hid (fun j h => absurd h (Nat.not_lt_zero _))⟩
              case round =>
                clear y0 y1 y2 y3 y4 y5 B3 hz1
                obtain ⟨m, hm, hg2, rfl, hBi, hzi, v0, v1, v2, v3, v4, v5, hD⟩ := hrel
                have HGM := Lib.hid hg2
                clear hg2
                by_cases hlm : m < k
                · obtain ⟨q1, q2, r1, r2, s1, s2, hqe, hse, u0, u1, u2, u3, u4, u5⟩ : ∃ q1 q2 r1 r2 s1 s2, vx l m = (q1, q2) ∧ vx l (m + 1) = (s1, s2) ∧ wr.cell? ⟨g, m * 6, none⟩ = some (.int .i64 q1) ∧ wr.cell? ⟨g, m * 6 + 1, none⟩ = some (.int .i64 q2) ∧ wr.cell? ⟨g, m * 6 + 2, none⟩ = some (.int .i64 r1) ∧ wr.cell? ⟨g, m * 6 + 3, none⟩ = some (.int .i64 r2) ∧ wr.cell? ⟨g, m * 6 + 4, none⟩ = some (.int .i64 s1) ∧ wr.cell? ⟨g, m * 6 + 5, none⟩ = some (.int .i64 s2) := by
                    obtain ⟨t0, t1, t2, t3, t4, t5⟩ := CE.out wr hBi m (by omega)
                    exact ⟨_, _, _, _, _, _, rfl, rfl, t0, t1, t2, t3, t4, t5⟩
                  have hzi2 := hBi.size
                  have hgr : g < wr.heap.size := by omega
                  have n1 := HPE.out k hlt
                  have n2 : isPegB (vx l (k + 1)).1 (vx l (k + 1)).2 = true := by rw [← vx_per, HN.out]; exact HPE.out _ (Nat.mod_lt _ (by omega))
                  have n3 : isPegB q1 q2 = true := by have := HPE.out m (by omega); rw [hqe] at this; exact this
                  have n4 : isPegB s1 s2 = true := by have : isPg (vx l (m + 1)) = true := (by rw [← vx_per, HN.out]; exact HPE.out _ (Nat.mod_lt _ (by omega))); rw [hse] at this; exact this
                  have K := Lib.hid (fun W => isCrossing_any (vx l k).1 (vx l k).2 (vx l (k + n - 1)).1 (vx l (k + n - 1)).2 (vx l (k + 1)).1 (vx l (k + 1)).2 q1 q2 r1 r2 s1 s2 W n1 n2 n3 n4)
                  have HQE := Lib.hid hqe
                  have HSE := Lib.hid hse
                  clear n1 n2 n3 n4 hqe hse
                  by_cases heq : (vx l k).1 = q1 ∧ (vx l k).2 = q2
                  · have hng : Hid (goodB l = false) := Lib.hid (HG.out (fun h => h.diff k m hlm (by have := HN.out; omega) (by rw [HQE.out]; exact Prod.ext heq.1 heq.2)))
                    obtain ⟨rfl, rfl⟩ := heq
                    have B5 := Lib.hid (TR.out _ (Below.alloc hBi hzi2 (.cells #[.int .i64 (vx l k).1, .int .i64 (vx l k).2, .int .i64 r1, .int .i64 r2, .int .i64 s1, .int .i64 s2] 107)))
                    go_wp2_with fail
                    go_ret
                    exact ⟨ret_bool hng.out.symm, B5.out⟩
                  · have hne : vx l k ≠ vx l m := fun e => heq (by rw [HQE.out] at e; rw [e]; exact ⟨rfl, rfl⟩)
                    have HNE := Lib.hid hne
                    by_cases hcr : crB (vx l k).1 (vx l k).2 (vx l (k + 1)).1 (vx l (k + 1)).2 q1 q2 s1 s2 = true
                    · have hng : Hid (goodB l = false) := Lib.hid (HG.out (fun h => by
                        have := ((good_seen h k (by have := HN.out; omega)).2 m hlm).2
                        rw [HQE.out, HSE.out] at this
                        unfold crP at this
                        rw [hcr] at this
                        cases this))
                      rw [hcr] at K
                      clear hcr hne
                      by_cases h1 : (vx l k).1 = q1
                      · have h2 : ¬ (vx l k).2 = q2 := fun h => heq ⟨h1, h⟩
                        clear heq
                        subst h1
                        go_wp2_with fail
                        refine (K.out _).mono ?_; rintro e w4 ⟨rfl, hb4⟩
                        have B4 := (Below.alloc hBi hzi2 (.cells #[.int .i64 (vx l k).1, .int .i64 q2, .int .i64 r1, .int .i64 r2, .int .i64 s1, .int .i64 s2] 107)).trans (hb4.mono (by simp; omega))
                        have B5 := Lib.hid (TR.out _ B4)
                        go_wp2_with fail
                        go_ret
                        exact ⟨ret_bool hng.out.symm, B5.out⟩
                      · clear heq
                        go_wp2_with fail
                        refine (K.out _).mono ?_; rintro e w4 ⟨rfl, hb4⟩
                        have B4 := (Below.alloc hBi hzi2 (.cells #[.int .i64 q1, .int .i64 q2, .int .i64 r1, .int .i64 r2, .int .i64 s1, .int .i64 s2] 107)).trans (hb4.mono (by simp; omega))
                        have B5 := Lib.hid (TR.out _ B4)
                        go_wp2_with fail
                        go_ret
                        exact ⟨ret_bool hng.out.symm, B5.out⟩
                    · have hcf : crB (vx l k).1 (vx l k).2 (vx l (k + 1)).1 (vx l (k + 1)).2 q1 q2 s1 s2 = false := by simpa using hcr
                      have hD2 : Hid (∀ j, j < m + 1 → vx l k ≠ vx l j ∧ crP (vx l k) (vx l (k + 1)) (vx l j) (vx l (j + 1)) = false) := Lib.hid (fun j hj => by
                        by_cases hjm : j = m
                        · subst hjm; exact ⟨HNE.out, by rw [HQE.out, HSE.out]; exact hcf⟩
                        · exact hD.out j (by omega))
                      rw [hcf] at K
                      clear hcr hcf hne hD
                      by_cases h1 : (vx l k).1 = q1
                      · have h2 : ¬ (vx l k).2 = q2 := fun h => heq ⟨h1, h⟩
                        clear heq
                        subst h1
                        go_wp2_with fail
                        refine (K.out _).mono ?_; rintro e w4 ⟨rfl, hb4⟩
                        have B4 := (Below.alloc hBi hzi2 (.cells #[.int .i64 (vx l k).1, .int .i64 q2, .int .i64 r1, .int .i64 r2, .int .i64 s1, .int .i64 s2] 107)).trans (hb4.mono (by simp; omega))
                        have zz : wo.heap.size < w4.heap.size := by (have := hb4.size; simp at this; omega)
                        have Y0 := Lib.hid (((bcell hb4).1 _ 0 (by simp; omega)).trans ((World.cell?_alloc_lt wr _ _ hzi).trans v0))
                        have Y1 := Lib.hid (((bcell hb4).1 _ 1 (by simp; omega)).trans ((World.cell?_alloc_lt wr _ _ hzi).trans v1))
                        have Y2 := Lib.hid (((bcell hb4).1 _ 2 (by simp; omega)).trans ((World.cell?_alloc_lt wr _ _ hzi).trans v2))
                        have Y3 := Lib.hid (((bcell hb4).1 _ 3 (by simp; omega)).trans ((World.cell?_alloc_lt wr _ _ hzi).trans v3))
                        have Y4 := Lib.hid (((bcell hb4).1 _ 4 (by simp; omega)).trans ((World.cell?_alloc_lt wr _ _ hzi).trans v4))
                        have Y5 := Lib.hid (((bcell hb4).1 _ 5 (by simp; omega)).trans ((World.cell?_alloc_lt wr _ _ hzi).trans v5))
                        clear hb4
                        go_wp2_with fail
                        go_roundg (k - (m + 1))
                        case measure => have := HGM.out; omega
                        case rel => exact ⟨m + 1, by omega, rfl, by go_num, B4, zz, Y0.out, Y1.out, Y2.out, Y3.out, Y4.out, Y5.out, hD2⟩
                      · clear heq
                        go_wp2_with fail
                        refine (K.out _).mono ?_; rintro e w4 ⟨rfl, hb4⟩
                        have B4 := (Below.alloc hBi hzi2 (.cells #[.int .i64 q1, .int .i64 q2, .int .i64 r1, .int .i64 r2, .int .i64 s1, .int .i64 s2] 107)).trans (hb4.mono (by simp; omega))
                        have zz : wo.heap.size < w4.heap.size := by (have := hb4.size; simp at this; omega)
                        have Y0 := Lib.hid (((bcell hb4).1 _ 0 (by simp; omega)).trans ((World.cell?_alloc_lt wr _ _ hzi).trans v0))
                        have Y1 := Lib.hid (((bcell hb4).1 _ 1 (by simp; omega)).trans ((World.cell?_alloc_lt wr _ _ hzi).trans v1))
                        have Y2 := Lib.hid (((bcell hb4).1 _ 2 (by simp; omega)).trans ((World.cell?_alloc_lt wr _ _ hzi).trans v2))
                        have Y3 := Lib.hid (((bcell hb4).1 _ 3 (by simp; omega)).trans ((World.cell?_alloc_lt wr _ _ hzi).trans v3))
                        have Y4 := Lib.hid (((bcell hb4).1 _ 4 (by simp; omega)).trans ((World.cell?_alloc_lt wr _ _ hzi).trans v4))
                        have Y5 := Lib.hid (((bcell hb4).1 _ 5 (by simp; omega)).trans ((World.cell?_alloc_lt wr _ _ hzi).trans v5))
                        clear hb4
                        go_wp2_with fail
                        go_roundg (k - (m + 1))
                        case measure => have := HGM.out; omega
                        case rel => exact ⟨m + 1, by omega, rfl, by go_num, B4, zz, Y0.out, Y1.out, Y2.out, Y3.out, Y4.out, Y5.out, hD2⟩
                · have hmk : m = k := by omega
                  have hF2 : Hid (Seen l (k + 1)) := Lib.hid (fun i hi => by
                    by_cases hik : i = k
                    · subst hik; exact ⟨HTW.out, fun j hj => hD.out j (by omega)⟩
                    · exact hF.out i (by omega))
                  clear hD hF
                  go_wp2_with fail
                  go_roundg (n - (k + 1))
                  case measure => have := HGK.out; omega
                  case rel => exact ⟨k + 1, by omega, rfl, by go_num, hBi, hF2⟩
          · have hkn : n = k := by omega
            subst hkn
            have hy : Hid (goodB l = true) := Lib.hid (HT.out (seen_good (by have := HFEW.out; have := HN.out; omega) (fun i hi => HPE.out i (by have := HN.out; omega)) (by have := HN.out; rw [this]; exact hF.out)))
            have BB := Lib.hid (TR.out _ hB)
            go_wp2_with fail
            go_ret
            exact ⟨ret_bool hy.out.symm, BB.out⟩
      · have hpf : pegsB l = false := by simpa using hpg
        have hng : Hid (goodB l = false) := Lib.hid (goodB_false (fun h => hpg ((pegsB_iff l).2 h.pegs)))
        have K1 := Lib.hid (KA.out w (Below.refl _ _))
        rw [hpf] at K1
        clear hpf hpg KA hR hlo hhi
        go_enter Try.func55, Try.ntmps55
        go_wp2_with fail
        refine K1.out.mono ?_; rintro e w1 ⟨rfl, hb1⟩
        go_wp2_with fail
        go_ret
        exact ⟨ret_bool hng.out.symm, hb1⟩
end Go.Proofs.Ytheddoinnakneaa
/- contracts: TwiceArea, PegsOn and PegsInside, on both sides -/
namespace Go.Proofs.Ytheddoinnakneaa
open Go.ChangeShapes Go.WideShapes Go.ChangeAt Go.RowKit Go.Joins
set_option linter.unusedVariables false
set_option linter.unusedSimpArgs false
set_option maxRecDepth 4000
def gi (b : Bool) (x : Int) : Int := if b = true then x else 0
theorem ret_tup {a b : Int} {c : Bool} (h : a = b) : Ending.returned (.tuple #[.int .i64 a, .bool c]) = .returned (.tuple #[.int .i64 b, .bool c]) := by rw [h]
theorem gi_true (x : Int) : gi true x = x := rfl
theorem gi_false (x : Int) : gi false x = 0 := rfl
end Go.Proofs.Ytheddoinnakneaa
/- the least and the greatest numbers of corners -/
namespace Go.Proofs.Ytheddoinnakneaa
open Go.ChangeShapes Go.WideShapes Go.ChangeAt Go.RowKit Go.Joins
set_option linter.unusedVariables false
set_option linter.unusedSimpArgs false
set_option maxRecDepth 4000
/-- the least and the greatest numbers of corner 0 and of the first k corners -/
def loN (l : List (Int × Int)) : Nat → Int × Int
  | 0 => vx l 0
  | k + 1 => (min (loN l k).1 (vx l k).1, min (loN l k).2 (vx l k).2)
def hiN (l : List (Int × Int)) : Nat → Int × Int
  | 0 => vx l 0
  | k + 1 => (max (hiN l k).1 (vx l k).1, max (hiN l k).2 (vx l k).2)
end Go.Proofs.Ytheddoinnakneaa
/- widths in a direction: what is told -/
namespace Go.Proofs.Ytheddoinnakneaa
open Go.ChangeShapes Go.WideShapes Go.ChangeAt Go.RowKit Go.Joins
set_option linter.unusedVariables false
set_option linter.unusedSimpArgs false
set_option maxRecDepth 4000
/-- the value of a point -/
def vlu (u v : Int) (p : Int × Int) : Int := u * p.1 + v * p.2
def loW (l : List (Int × Int)) (u v : Int) : Nat → Int
  | 0 => vlu u v (vx l 0)
  | k + 1 => min (loW l u v k) (vlu u v (vx l k))
def hiW (l : List (Int × Int)) (u v : Int) : Nat → Int
  | 0 => vlu u v (vx l 0)
  | k + 1 => max (hiW l u v k) (vlu u v (vx l k))
theorem lohi_x (l : List (Int × Int)) (k : Nat) : loW l 1 0 k = (loN l k).1 ∧ hiW l 1 0 k = (hiN l k).1 := by
  induction k with
  | zero => simp [loW, hiW, loN, hiN, vlu]
  | succ k ih => simp [loW, hiW, loN, hiN, vlu, ih.1, ih.2]
theorem lohi_y (l : List (Int × Int)) (k : Nat) : loW l 0 1 k = (loN l k).2 ∧ hiW l 0 1 k = (hiN l k).2 := by
  induction k with
  | zero => simp [loW, hiW, loN, hiN, vlu]
  | succ k ih => simp [loW, hiW, loN, hiN, vlu, ih.1, ih.2]
theorem vlu_parts {u v : Int} {p : Int × Int} (h1 : -20000 ≤ u) (h2 : u ≤ 20000) (h3 : -20000 ≤ v) (h4 : v ≤ 20000) (hp : isPg p = true) : (-800000 ≤ u * p.1 ∧ u * p.1 ≤ 800000) ∧ (-800000 ≤ v * p.2 ∧ v * p.2 ≤ 800000) := by
  unfold isPg isPegB at hp
  simp only [Bool.and_eq_true, decide_eq_true_eq] at hp
  have a1 := mul_bd (x := u) (y := p.1) (m := 20000) (n := 40) (by omega) (by omega) (by omega) (by omega)
  have a2 := mul_bd (x := v) (y := p.2) (m := 20000) (n := 40) (by omega) (by omega) (by omega) (by omega)
  omega
theorem lohi_bd {l : List (Int × Int)} {u v : Int} (h1 : -20000 ≤ u) (h2 : u ≤ 20000) (h3 : -20000 ≤ v) (h4 : v ≤ 20000) (hp : ∀ i, i < l.length → isPg (vx l i) = true) (h0 : 0 < l.length) : ∀ k, k ≤ l.length → (-1600000 ≤ loW l u v k ∧ loW l u v k ≤ 1600000) ∧ (-1600000 ≤ hiW l u v k ∧ hiW l u v k ≤ 1600000) ∧ loW l u v k ≤ hiW l u v k := by
  intro k
  induction k with
  | zero =>
    intro _
    have := vlu_parts h1 h2 h3 h4 (hp 0 h0)
    simp only [loW, hiW, vlu]
    omega
  | succ k ih =>
    intro hk
    have := vlu_parts h1 h2 h3 h4 (hp k (by omega))
    have i1 := ih (by omega)
    simp only [loW, hiW, vlu]
    omega
/-- is it a direction that functions take? -/
def dirB (u v : Int) : Bool := (decide (-200 ≤ u) && decide (u ≤ 200)) && (decide (-200 ≤ v) && decide (v ≤ 200)) && decide (Nat.gcd u.natAbs v.natAbs = 1)
noncomputable def okW (l : List (Int × Int)) (u v : Int) : Bool := goodB l && dirB u v
noncomputable def wdS (l : List (Int × Int)) (u v : Int) : Int := if okW l u v = true then hiW l u v l.length - loW l u v l.length else 0
theorem wdS_t {l : List (Int × Int)} {u v : Int} (h : okW l u v = true) : wdS l u v = hiW l u v l.length - loW l u v l.length := by unfold wdS; rw [if_pos h]
theorem wdS_f {l : List (Int × Int)} {u v : Int} (h : okW l u v = false) : wdS l u v = 0 := by unfold wdS; rw [h]; rfl
theorem dirB_t {u v : Int} (h : dirB u v = true) : -200 ≤ u ∧ u ≤ 200 ∧ -200 ≤ v ∧ v ≤ 200 ∧ Nat.gcd u.natAbs v.natAbs = 1 := by
  unfold dirB at h
  simp only [Bool.and_eq_true, decide_eq_true_eq] at h
  omega
end Go.Proofs.Ytheddoinnakneaa
/- plain: the model's band of points in order is what a walk around finds -/
namespace Go.Proofs.Ytheddoinnakneaa
open Go.ChangeShapes Go.WideShapes Go.ChangeAt Go.RowKit Go.Joins
set_option linter.unusedVariables false
set_option linter.unusedSimpArgs false
set_option maxRecDepth 4000
namespace MH
/-- lexicographic order of points -/
def lx (p q : Int × Int) : Prop := p.1 < q.1 ∨ (p.1 = q.1 ∧ p.2 < q.2)
/-- twice the area of the triangle -/
def tw (a b c : Int × Int) : Int := (b.1 - a.1) * (c.2 - a.2) - (b.2 - a.2) * (c.1 - a.1)
def sq (p f : Int × Int) : Int := (p.1 - f.1) * (p.1 - f.1) + (p.2 - f.2) * (p.2 - f.2)
/-- a vector that points forward -/
def fw (x y : Int) : Prop := 0 < x ∨ (x = 0 ∧ 0 < y)
theorem lx_trans {a b c : Int × Int} (h1 : lx a b) (h2 : lx b c) : lx a c := by unfold lx at *; omega
theorem lx_irrefl {a : Int × Int} : ¬ lx a a := by unfold lx; omega
theorem lx_total {a b : Int × Int} (h1 : ¬ lx a b) (h2 : ¬ lx b a) : a = b := by unfold lx at *; apply Prod.ext <;> omega
theorem nn_of_mul {k x : Int} (hk : 0 < k) (h : 0 ≤ x * k) : 0 ≤ x := by
  by_cases hx : 0 ≤ x
  · exact hx
  · exfalso
    have := Int.mul_pos (show 0 < -x by omega) hk
    rw [Int.neg_mul] at this
    omega
theorem pos_of_mul {k x : Int} (hk : 0 < k) (h : 0 < x * k) : 0 < x := by
  by_cases hx : 0 < x
  · exact hx
  · exfalso
    have := Int.mul_nonneg (show 0 ≤ -x by omega) (Int.le_of_lt hk)
    rw [Int.neg_mul] at this
    omega
/-- forward vectors turn one way: not strictly -/
theorem tr_nn {u1 u2 v1 v2 w1 w2 : Int} (hu : fw u1 u2) (hv : fw v1 v2) (hw : fw w1 w2) (h1 : 0 ≤ u1 * v2 - u2 * v1) (h2 : 0 ≤ v1 * w2 - v2 * w1) : 0 ≤ u1 * w2 - u2 * w1 := by
  rcases hv with hv | ⟨hv, hv2⟩
  · refine nn_of_mul hv ?_
    have e : (u1 * w2 - u2 * w1) * v1 = (u1 * v2 - u2 * v1) * w1 + (v1 * w2 - v2 * w1) * u1 := by grind
    rw [e]
    have a := Int.mul_nonneg h1 (show 0 ≤ w1 by unfold fw at hw; omega)
    have b := Int.mul_nonneg h2 (show 0 ≤ u1 by unfold fw at hu; omega)
    omega
  · subst hv
    have hw0 : w1 = 0 := by
      rcases hw with hw | ⟨hw, _⟩
      · exfalso
        have := Int.mul_pos hv2 hw
        omega
      · exact hw
    subst hw0
    have := Int.mul_nonneg (show 0 ≤ u1 by unfold fw at hu; omega) (show 0 ≤ w2 by unfold fw at hw; omega)
    omega
/-- .. strictly, if the second turn is strict -/
theorem tr_ps {u1 u2 v1 v2 w1 w2 : Int} (hu : fw u1 u2) (hv : fw v1 v2) (hw : fw w1 w2) (h1 : 0 ≤ u1 * v2 - u2 * v1) (h2 : 0 < v1 * w2 - v2 * w1) : 0 < u1 * w2 - u2 * w1 := by
  rcases hv with hv | ⟨hv, hv2⟩
  · refine pos_of_mul hv ?_
    have e : (u1 * w2 - u2 * w1) * v1 = (u1 * v2 - u2 * v1) * w1 + (v1 * w2 - v2 * w1) * u1 := by grind
    rw [e]
    have a := Int.mul_nonneg h1 (show 0 ≤ w1 by unfold fw at hw; omega)
    have hu1 : 0 < u1 := by
      rcases hu with hu | ⟨hu, hu2⟩
      · exact hu
      · exfalso
        subst hu
        have := Int.mul_pos hu2 hv
        omega
    have b := Int.mul_pos h2 hu1
    omega
  · exfalso
    subst hv
    have hw0 : 0 ≤ w1 := by unfold fw at hw; omega
    have := Int.mul_nonneg (Int.le_of_lt hv2) hw0
    omega
theorem fw_of {a b : Int × Int} (h : lx a b) : fw (b.1 - a.1) (b.2 - a.2) := by unfold lx at h; unfold fw; omega
theorem tw_swap (a b c : Int × Int) : tw a c b = - tw a b c := by unfold tw; grind
theorem tw_self (a b : Int × Int) : tw a b b = 0 := by unfold tw; grind
theorem tw_self2 (a b : Int × Int) : tw a b a = 0 := by unfold tw; grind
theorem tw_self1 (a b : Int × Int) : tw a a b = 0 := by unfold tw; grind
theorem hA {a b c q : Int × Int} (hab : lx a b) (hbc : lx b c) (hcq : lx c q) (h1 : 0 < tw a b c) (h2 : 0 < tw b c q) : 0 < tw a b q := by
  have t := tr_ps (fw_of hab) (fw_of hbc) (fw_of hcq)
    (show 0 ≤ (b.1 - a.1) * (c.2 - b.2) - (b.2 - a.2) * (c.1 - b.1) by unfold tw at h1; grind)
    (show 0 < (c.1 - b.1) * (q.2 - c.2) - (c.2 - b.2) * (q.1 - c.1) by unfold tw at h2; grind)
  unfold tw at *
  grind
theorem hB {a b p q : Int × Int} (hab : lx a b) (hap : lx a p) (haq : lx a q) (h1 : tw a b q ≤ 0) (h2 : 0 ≤ tw a b p) : 0 ≤ tw a q p := by
  have t := tr_nn (fw_of haq) (fw_of hab) (fw_of hap)
    (show 0 ≤ (q.1 - a.1) * (b.2 - a.2) - (q.2 - a.2) * (b.1 - a.1) by unfold tw at h1; grind)
    (show 0 ≤ (b.1 - a.1) * (p.2 - a.2) - (b.2 - a.2) * (p.1 - a.1) by unfold tw at h2; grind)
  unfold tw; exact t
theorem hC {a b p q : Int × Int} (hab : lx a b) (hbp : lx b p) (hpq : lx p q) (h1 : 0 ≤ tw b q p) (h2 : tw a b q ≤ 0) : 0 ≤ tw a q p := by
  have t := tr_nn (fw_of hpq) (fw_of (lx_trans hbp hpq)) (fw_of hab)
    (show 0 ≤ (q.1 - p.1) * (q.2 - b.2) - (q.2 - p.2) * (q.1 - b.1) by unfold tw at h1; grind)
    (show 0 ≤ (q.1 - b.1) * (b.2 - a.2) - (q.2 - b.2) * (b.1 - a.1) by unfold tw at h2; grind)
  unfold tw at *
  grind
theorem hD {a b p q : Int × Int} (hba : lx b a) (hpa : lx p a) (haq : lx a q) (h1 : 0 ≤ tw b a p) (h2 : 0 < tw b a q) : 0 < tw a q p := by
  have t := tr_ps (fw_of hpa) (fw_of hba) (fw_of haq)
    (show 0 ≤ (a.1 - p.1) * (a.2 - b.2) - (a.2 - p.2) * (a.1 - b.1) by unfold tw at h1; grind)
    (show 0 < (a.1 - b.1) * (q.2 - a.2) - (a.2 - b.2) * (q.1 - a.1) by unfold tw at h2; grind)
  unfold tw
  grind

/-- p lies to the left of the line from a to b, or on it between both -/
def Ed (a b p : Int × Int) : Prop := 0 < tw a b p ∨ (tw a b p = 0 ∧ ¬ lx p a ∧ ¬ lx b p)
theorem Ed.nn {a b p : Int × Int} (h : Ed a b p) : 0 ≤ tw a b p := by unfold Ed at h; omega
theorem Ed.left {a b p : Int × Int} (h : Ed a b p) (hp : lx b p) : 0 < tw a b p := by
  rcases h with h | ⟨_, _, h⟩
  · exact h
  · exact absurd hp h
/-- the last one first: each goes on behind the next one of the row, and all points are to the left -/
def Eds (s : List (Int × Int)) : List (Int × Int) → Prop
  | b :: a :: t => lx a b ∧ (∀ p ∈ s, Ed a b p) ∧ Eds s (a :: t)
  | _ => True
def popS (q : Int × Int) : List (Int × Int) → List (Int × Int)
  | b :: a :: t => if tw a b q ≤ 0 then popS q (a :: t) else b :: a :: t
  | l => l
def pushS (st : List (Int × Int)) (q : Int × Int) : List (Int × Int) := q :: popS q st
def chain (s : List (Int × Int)) : List (Int × Int) := s.foldl pushS []
theorem popS_ne (q : Int × Int) : ∀ (st : List (Int × Int)), st ≠ [] → popS q st ≠ []
  | [], h => absurd rfl h
  | [a], _ => by unfold popS; simp
  | b :: a :: t, _ => by
    unfold popS
    split
    · exact popS_ne q (a :: t) (by simp)
    · simp
/-- what stays when points are taken off for q -/
theorem pop_ok {s : List (Int × Int)} {q : Int × Int} (hq : ∀ p ∈ s, lx p q) : ∀ (st : List (Int × Int)), st ≠ [] → (∀ x ∈ st, x ∈ s) → Eds s st → (∀ p ∈ s, ∀ c, st.head? = some c → lx c p → 0 ≤ tw c q p) →
    (∀ x ∈ popS q st, x ∈ s) ∧ Eds s (popS q st) ∧ (popS q st).getLast? = st.getLast? ∧ (∀ p ∈ s, ∀ c, (popS q st).head? = some c → lx c p → 0 ≤ tw c q p) ∧ (∀ b a t, popS q st = b :: a :: t → 0 < tw a b q)
  | [], h, _, _, _ => absurd rfl h
  | [a], _, hm, he, h2 => by
    have e : popS q [a] = [a] := by unfold popS; rfl
    rw [e]
    exact ⟨hm, he, rfl, h2, fun b a' t h => by simp at h⟩
  | b :: a :: t, _, hm, he, h2 => by
    by_cases h : tw a b q ≤ 0
    · have e : popS q (b :: a :: t) = popS q (a :: t) := by rw [popS, if_pos h]
      rw [e]
      have hb : b ∈ s := hm b (by simp)
      have ha : a ∈ s := hm a (by simp)
      have r := pop_ok hq (a :: t) (by simp) (fun x hx => hm x (List.mem_cons_of_mem _ hx)) he.2.2 (fun p hp c hc hcp => by
        simp at hc
        subst hc
        by_cases hbp : lx b p
        · exact hC he.1 hbp (hq p hp) (h2 p hp b rfl hbp) h
        · exact hB he.1 hcp (hq _ ha) h (he.2.1 p hp).nn)
      refine ⟨r.1, r.2.1, ?_, r.2.2.2⟩
      rw [r.2.2.1]; simp
    · have e : popS q (b :: a :: t) = b :: a :: t := by rw [popS, if_neg h]
      rw [e]
      refine ⟨hm, he, rfl, h2, fun b' a' t' h' => ?_⟩
      simp at h'
      obtain ⟨rfl, rfl, _⟩ := h'
      omega
/-- the point q, too, is to the left of all lines -/
theorem eds_more {s : List (Int × Int)} {q : Int × Int} (hq : ∀ p ∈ s, lx p q) : ∀ (st : List (Int × Int)), (∀ x ∈ st, x ∈ s) → Eds s st → (∀ b a t, st = b :: a :: t → 0 < tw a b q) → Eds (s ++ [q]) st
  | [], _, _, _ => trivial
  | [_], _, _, _ => trivial
  | b :: a :: t, hm, he, hb => by
    have h0 := hb b a t rfl
    refine ⟨he.1, fun p hp => ?_, ?_⟩
    · rw [List.mem_append] at hp
      rcases hp with hp | hp
      · exact he.2.1 p hp
      · simp at hp
        subst hp
        exact Or.inl h0
    · refine eds_more hq (a :: t) (fun x hx => hm x (List.mem_cons_of_mem _ hx)) he.2.2 (fun b' a' t' h => ?_)
      simp at h
      obtain ⟨rfl, rfl⟩ := h
      have he2 := he.2.2
      exact hA he2.1 he.1 (hq b (hm b (by simp))) ((he2.2.1 b (hm b (by simp))).left he.1) h0
structure Chn (s st : List (Int × Int)) : Prop where
  mem : ∀ x ∈ st, x ∈ s
  eds : Eds s st
  head : st.head? = s.getLast?
  last : st.getLast? = s.head?
theorem push_ok {s st : List (Int × Int)} {q : Int × Int} (hs : s.Pairwise lx) (hne : s ≠ []) (hq : ∀ p ∈ s, lx p q) (h : Chn s st) : Chn (s ++ [q]) (pushS st q) := by
  have hst : st ≠ [] := by
    intro e
    have := h.head
    rw [e] at this
    simp at this
    exact hne (List.getLast?_eq_none_iff.1 this.symm)
  have hgl : ∀ c, s.getLast? = some c → ∀ p ∈ s, ¬ lx c p := by
    intro c hc p hp hcp
    obtain ⟨ys, rfl⟩ := List.getLast?_eq_some_iff.1 hc
    rw [List.mem_append] at hp
    rcases hp with hp | hp
    · exact lx_irrefl (lx_trans hcp ((List.pairwise_append.1 hs).2.2 p hp c (by simp)))
    · simp at hp; subst hp; exact lx_irrefl hcp
  obtain ⟨r1, r2, r3, r4, r5⟩ := pop_ok hq st hst h.mem h.eds (fun p hp c hc hcp => by
    rw [h.head] at hc
    exact absurd hcp (hgl c hc p hp))
  have hpn := popS_ne q st hst
  refine ⟨?_, ?_, ?_, ?_⟩
  · intro x hx
    unfold pushS at hx
    rw [List.mem_cons] at hx
    rw [List.mem_append]
    rcases hx with hx | hx
    · right; simp [hx]
    · left; exact r1 x hx
  · unfold pushS
    have e2 := eds_more hq (popS q st) r1 r2 r5
    cases hc : popS q st with
    | nil => exact absurd hc hpn
    | cons c t =>
      rw [hc] at r1 r2 r3 r4 r5 e2
      have hcs : c ∈ s := r1 c (by simp)
      refine ⟨hq c hcs, fun p hp => ?_, e2⟩
      rw [List.mem_append] at hp
      rcases hp with hp | hp
      · by_cases h1 : lx c p
        · have := r4 p hp c rfl h1
          by_cases h0 : tw c q p = 0
          · exact Or.inr ⟨h0, fun h => lx_irrefl (lx_trans h1 h), fun h => lx_irrefl (lx_trans h (hq p hp))⟩
          · exact Or.inl (by omega)
        · by_cases h2 : lx p c
          · cases ht : t with
            | nil =>
              exfalso
              rw [ht] at r3
              have e3 : s.head? = some c := by rw [← h.last, ← r3]; rfl
              cases s with
              | nil => simp at e3
              | cons x s' =>
                simp at e3
                subst e3
                rw [List.mem_cons] at hp
                rcases hp with hp | hp
                · subst hp; exact lx_irrefl h2
                · exact lx_irrefl (lx_trans h2 ((List.pairwise_cons.1 hs).1 p hp))
            | cons b t' =>
              rw [ht] at r2 r5
              exact Or.inl (hD r2.1 h2 (hq c hcs) (r2.2.1 p hp).nn (r5 c b t' rfl))
          · have e := lx_total h1 h2
            subst e
            exact Or.inr ⟨tw_self2 _ _, lx_irrefl, fun h => lx_irrefl (lx_trans h (hq c hcs))⟩
      · simp at hp
        subst hp
        exact Or.inr ⟨tw_self _ _, fun h => lx_irrefl (lx_trans h (hq c hcs)), lx_irrefl⟩
  · unfold pushS; simp
  · unfold pushS
    rw [List.getLast?_cons, r3, h.last]
    cases s with
    | nil => exact absurd rfl hne
    | cons x s' => simp
theorem chain_app (s : List (Int × Int)) (q : Int × Int) : chain (s ++ [q]) = pushS (chain s) q := by unfold chain; rw [List.foldl_append]; rfl
theorem chain_ok : ∀ (n : Nat) (s : List (Int × Int)), s.length = n + 1 → s.Pairwise lx → Chn s (chain s)
  | 0, s, hn, _ => by
    match s, hn with
    | [a], _ => exact ⟨fun x hx => hx, trivial, rfl, rfl⟩
  | n + 1, s, hn, hs => by
    have hne : s ≠ [] := by intro e; rw [e] at hn; simp at hn
    have e := List.dropLast_concat_getLast hne
    rw [← e] at hs ⊢
    rw [chain_app]
    have hs2 := List.pairwise_append.1 hs
    have hl : s.dropLast.length = n + 1 := by rw [List.length_dropLast]; omega
    exact push_ok hs2.1 (by intro e; rw [e] at hl; simp at hl) (fun p hp => hs2.2.2 p hp _ (by simp)) (chain_ok n _ hl hs2.1)

theorem sq_lt {a b : Int} (h0 : 0 ≤ a) (h : a < b) : a * a < b * b := by
  have e : b * b - a * a = (b - a) * (b + a) := by grind
  have := Int.mul_pos (show 0 < b - a by omega) (show 0 < b + a by omega)
  omega
/-- seen from f, b is the one farthest to the right, and the farthest on its line -/
def Nx (f b p : Int × Int) : Prop := 0 < tw f b p ∨ (tw f b p = 0 ∧ (p = b ∨ sq p f < sq b f))
theorem nx_of {f b p : Int × Int} (hfb : lx f b) (h : Ed f b p) : Nx f b p := by
  rcases h with h | ⟨h, h1, h2⟩
  · exact Or.inl h
  · refine Or.inr ⟨h, ?_⟩
    unfold lx at *
    unfold tw at h
    unfold sq
    by_cases hx : f.1 = b.1
    · by_cases hp : p.2 = b.2
      · left; apply Prod.ext <;> omega
      · right
        have e1 : p.1 = f.1 := by omega
        have e3 : (b.1 - f.1) = 0 := by omega
        have e4 : (p.1 - f.1) = 0 := by omega
        rw [e3, e4]
        have a1 : 0 ≤ p.2 - f.2 := by omega
        have a2 : p.2 - f.2 < b.2 - f.2 := by omega
        have := sq_lt a1 a2
        omega
    · have hx1 : 0 < b.1 - f.1 := by omega
      have hp0 : 0 ≤ p.1 - f.1 := by omega
      generalize hU : b.1 - f.1 = U at *
      generalize hV : b.2 - f.2 = V at *
      generalize hP : p.1 - f.1 = P at *
      generalize hR : p.2 - f.2 = R at *
      have hPU : P ≤ U := by omega
      by_cases he : P = U
      · left
        subst he
        have e : P * (R - V) = 0 := by grind
        rcases Int.mul_eq_zero.1 e with e | e
        · omega
        · apply Prod.ext <;> omega
      · right
        have hlt : P < U := by omega
        have e : (U * U + V * V - (P * P + R * R)) * (U * U) = (U * U - P * P) * (U * U + V * V) := by grind
        have hUU : 0 < U * U := Int.mul_pos hx1 hx1
        have hVV : 0 ≤ V * V := by
          by_cases hv : 0 ≤ V
          · exact Int.mul_nonneg hv hv
          · have := Int.mul_nonneg (show 0 ≤ -V by omega) (show 0 ≤ -V by omega)
            rw [Int.neg_mul_neg] at this
            exact this
        have hPP : P * P < U * U := sq_lt hp0 hlt
        have := pos_of_mul hUU (show 0 < (U * U + V * V - (P * P + R * R)) * (U * U) by
          rw [e]
          exact Int.mul_pos (by omega) (by omega))
        omega
def neg (p : Int × Int) : Int × Int := (-p.1, -p.2)
theorem neg_neg (p : Int × Int) : neg (neg p) = p := by unfold neg; apply Prod.ext <;> simp
theorem neg_inj {p q : Int × Int} (h : neg p = neg q) : p = q := by rw [← neg_neg p, h, neg_neg]
theorem tw_neg (a b c : Int × Int) : tw (neg a) (neg b) (neg c) = tw a b c := by unfold tw neg; grind
theorem sq_neg (a b : Int × Int) : sq (neg a) (neg b) = sq a b := by unfold sq neg; grind
theorem lx_neg {a b : Int × Int} : lx (neg a) (neg b) ↔ lx b a := by unfold lx neg; simp only; omega
theorem nx_neg {f b p : Int × Int} (h : Nx (neg f) (neg b) (neg p)) : Nx f b p := by
  unfold Nx at *
  rw [tw_neg, sq_neg, sq_neg] at h
  rcases h with h | ⟨h, h1 | h1⟩
  · exact Or.inl h
  · exact Or.inr ⟨h, Or.inl (neg_inj h1)⟩
  · exact Or.inr ⟨h, Or.inr h1⟩
theorem popS_neg (q : Int × Int) : ∀ (st : List (Int × Int)), popS (neg q) (st.map neg) = (popS q st).map neg
  | [] => rfl
  | [a] => rfl
  | b :: a :: t => by
    show popS (neg q) (neg b :: neg a :: t.map neg) = _
    rw [popS, popS, tw_neg]
    by_cases h : tw a b q ≤ 0
    · rw [if_pos h, if_pos h]; exact popS_neg q (a :: t)
    · rw [if_neg h, if_neg h]; rfl
theorem chain_neg (s : List (Int × Int)) : chain (s.map neg) = (chain s).map neg := by
  unfold chain
  rw [List.foldl_map]
  suffices ∀ (st : List (Int × Int)), s.foldl (fun x y => pushS x (neg y)) (st.map neg) = (s.foldl pushS st).map neg from this []
  intro st
  induction s generalizing st with
  | nil => rfl
  | cons q s ih =>
    show s.foldl _ (pushS (st.map neg) (neg q)) = (s.foldl pushS (pushS st q)).map neg
    rw [← ih (pushS st q)]
    congr 1
    unfold pushS
    rw [popS_neg]; rfl
/-- each goes on to the next one -/
def Path (R : Int × Int → Int × Int → Prop) : List (Int × Int) → Prop
  | a :: b :: t => R a b ∧ Path R (b :: t)
  | _ => True
theorem path_app {R : Int × Int → Int × Int → Prop} {y : Int × Int} {m : List (Int × Int)} (hm : Path R (y :: m)) : ∀ (l : List (Int × Int)), Path R (l ++ [y]) → Path R (l ++ y :: m)
  | [], _ => hm
  | [a], h => ⟨h.1, hm⟩
  | a :: b :: t, h => ⟨h.1, path_app hm (b :: t) h.2⟩
theorem path_get {R : Int × Int → Int × Int → Prop} : ∀ (l : List (Int × Int)) (i : Nat) (a b : Int × Int), Path R l → l[i]? = some a → l[i + 1]? = some b → R a b
  | [], i, _, _, _, h, _ => by simp at h
  | [_], i, _, _, _, _, h => by simp at h
  | x :: y :: t, 0, a, b, hp, h1, h2 => by
    simp at h1 h2
    subst h1; subst h2
    exact hp.1
  | x :: y :: t, i + 1, a, b, hp, h1, h2 => path_get (y :: t) i a b hp.2 (by simpa using h1) (by simpa using h2)
/-- what a row of lines tells, told the other way round -/
theorem path_of_eds {s : List (Int × Int)} {R : Int × Int → Int × Int → Prop} (hR : ∀ a b, lx a b → (∀ p ∈ s, Ed a b p) → b ∈ s → R a b) : ∀ (st : List (Int × Int)), (∀ x ∈ st, x ∈ s) → Eds s st → Path R st.reverse
  | [], _, _ => trivial
  | [_], _, _ => trivial
  | b :: a :: t, hm, he => by
    have ih := path_of_eds hR (a :: t) (fun x hx => hm x (List.mem_cons_of_mem _ hx)) he.2.2
    rw [List.reverse_cons, List.reverse_cons, List.append_assoc]
    rw [List.reverse_cons] at ih
    exact path_app (y := a) (m := [b]) ⟨hR a b he.1 he.2.1 (hm b (by simp)), trivial⟩ t.reverse ih
def hull (s : List (Int × Int)) : List (Int × Int) := if s.length < 3 then s else (chain s).tail.reverse ++ (chain s.reverse).tail.reverse
/-- what the next corner behind f is: all points are told from there -/
def Nxt (s : List (Int × Int)) (f b : Int × Int) : Prop := b ∈ s ∧ f ≠ b ∧ ∀ p ∈ s, Nx f b p
theorem lx_ne {a b : Int × Int} (h : lx a b) : a ≠ b := fun e => by subst e; exact lx_irrefl h
theorem low_path {s : List (Int × Int)} {n : Nat} (hn : s.length = n + 1) (hs : s.Pairwise lx) : Path (Nxt s) (chain s).reverse := by
  have h := chain_ok n s hn hs
  exact path_of_eds (fun _ _ hab he hb => ⟨hb, lx_ne hab, fun p hp => nx_of hab (he p hp)⟩) _ h.mem h.eds
theorem rev_sorted {s : List (Int × Int)} (hs : s.Pairwise lx) : (s.reverse.map neg).Pairwise lx := by
  rw [List.pairwise_map, List.pairwise_reverse]
  exact hs.imp fun h => lx_neg.2 h
theorem up_chn {s : List (Int × Int)} {n : Nat} (hn : s.length = n + 1) (hs : s.Pairwise lx) : Chn (s.reverse.map neg) ((chain s.reverse).map neg) := by
  rw [← chain_neg]
  exact chain_ok n _ (by simp [hn]) (rev_sorted hs)
theorem up_path {s : List (Int × Int)} {n : Nat} (hn : s.length = n + 1) (hs : s.Pairwise lx) : Path (Nxt s) (chain s.reverse).reverse := by
  have h := up_chn hn hs
  have hmem : ∀ x, x ∈ s → neg x ∈ s.reverse.map neg := fun x hx => List.mem_map.2 ⟨x, by simpa using hx, rfl⟩
  have p := path_of_eds (R := fun a b => Nxt s (neg a) (neg b)) (fun _ b hab he hb => by
    refine ⟨?_, fun e => lx_ne hab (neg_inj e), fun p hp => ?_⟩
    · obtain ⟨x, hx, rfl⟩ := List.mem_map.1 hb
      rw [neg_neg]; simpa using hx
    · apply nx_neg
      rw [neg_neg, neg_neg]
      exact nx_of hab (he _ (hmem p hp))) _ h.mem h.eds
  have q : ∀ (l : List (Int × Int)), Path (fun a b => Nxt s (neg a) (neg b)) (l.map neg) → Path (Nxt s) l := by
    intro l
    induction l with
    | nil => intro _; trivial
    | cons a t ih =>
      cases t with
      | nil => intro _; trivial
      | cons b t =>
        intro hp
        refine ⟨?_, ih hp.2⟩
        have := hp.1
        simp only [neg_neg] at this
        exact this
  apply q
  rw [List.map_reverse]
  exact p

theorem eds_desc {s : List (Int × Int)} : ∀ (st : List (Int × Int)), Eds s st → st.Pairwise (fun x y => lx y x)
  | [], _ => List.Pairwise.nil
  | [a], _ => List.pairwise_singleton _ a
  | b :: a :: t, he => by
    have ih := eds_desc (a :: t) he.2.2
    refine List.pairwise_cons.2 ⟨fun x hx => ?_, ih⟩
    rw [List.mem_cons] at hx
    rcases hx with hx | hx
    · subst hx; exact he.1
    · exact lx_trans ((List.pairwise_cons.1 ih).1 x hx) he.1
theorem pop_len (q : Int × Int) : ∀ (st : List (Int × Int)), (popS q st).length ≤ st.length
  | [] => Nat.le_refl _
  | [a] => Nat.le_refl _
  | b :: a :: t => by
    rw [popS]
    split
    · have := pop_len q (a :: t)
      simp at this ⊢
      omega
    · exact Nat.le_refl _
theorem chain_len (s : List (Int × Int)) : (chain s).length ≤ s.length := by
  unfold chain
  suffices ∀ (st : List (Int × Int)), (s.foldl pushS st).length ≤ st.length + s.length by
    have := this []
    simpa using this
  intro st
  induction s generalizing st with
  | nil => exact Nat.le_refl _
  | cons q s ih =>
    have h1 := ih (pushS st q)
    have h2 := pop_len q st
    show (s.foldl pushS (pushS st q)).length ≤ _
    unfold pushS at *
    simp at h1 ⊢
    omega
/-- the band goes around: from its first corner back to it -/
theorem hull_ok {s t : List (Int × Int)} {h0 h1 : Int × Int} (hs : (h0 :: h1 :: t).Pairwise lx) (es : s = h0 :: h1 :: t) :
    ∃ R, hull s = h0 :: R ∧ (∀ x ∈ R, lx h0 x ∧ x ∈ s) ∧ Path (Nxt s) (h0 :: R ++ [h0]) := by
  have hmin : ∀ p ∈ s, p ≠ h0 → lx h0 p := by
    intro p hp hne
    rw [es, List.mem_cons] at hp
    rcases hp with hp | hp
    · exact absurd hp hne
    · exact (List.pairwise_cons.1 hs).1 p hp
  rw [← es] at hs
  have hlen : s.length = (t.length + 1) + 1 := by rw [es]; rfl
  unfold hull
  by_cases h3 : s.length < 3
  · rw [if_pos h3]
    have ht : t = [] := by
      cases t with
      | nil => rfl
      | cons _ _ => simp at hlen; omega
    subst ht
    have h01 : lx h0 h1 := hmin h1 (by rw [es]; simp) (by
      intro e; rw [es, e] at hs
      exact lx_irrefl ((List.pairwise_cons.1 hs).1 h0 (by simp)))
    refine ⟨[h1], es, fun x hx => by simp at hx; subst hx; exact ⟨h01, by rw [es]; simp⟩, ?_⟩
    have hE : ∀ p ∈ s, Ed h0 h1 p := by
      intro p hp
      rw [es] at hp
      simp at hp
      rcases hp with hp | hp
      · subst hp; exact Or.inr ⟨tw_self2 _ _, lx_irrefl, fun h => lx_irrefl (lx_trans h01 h)⟩
      · subst hp; exact Or.inr ⟨tw_self _ _, fun h => lx_irrefl (lx_trans h01 h), lx_irrefl⟩
    have hE2 : ∀ p ∈ s, Nx h1 h0 p := by
      intro p hp
      apply nx_neg
      refine nx_of (lx_neg.2 h01) ?_
      have := hE p hp
      rw [es] at hp
      simp at hp
      rcases hp with hp | hp
      · subst hp; exact Or.inr ⟨tw_self _ _, fun h => lx_irrefl (lx_trans h01 (lx_neg.1 h)), lx_irrefl⟩
      · subst hp; exact Or.inr ⟨tw_self2 _ _, lx_irrefl, fun h => lx_irrefl (lx_trans h01 (lx_neg.1 h))⟩
    exact ⟨⟨by rw [es]; simp, lx_ne h01, fun p hp => nx_of h01 (hE p hp)⟩, ⟨by rw [es]; simp, (lx_ne h01).symm, hE2⟩, trivial⟩
  · rw [if_neg h3]
    have C := chain_ok _ s hlen hs
    have U := up_chn hlen hs
    have dC := eds_desc _ C.eds
    have dU := eds_desc _ U.eds
    have pC := low_path hlen hs
    have pU := up_path hlen hs
    have eu1 : (chain s.reverse).head? = some h0 := by
      have := U.head
      rw [List.head?_map, List.getLast?_map, List.getLast?_reverse, es] at this
      rw [es]
      cases h : (chain (h0 :: h1 :: t).reverse).head? with
      | none => rw [h] at this; simp at this
      | some x => rw [h] at this; simp at this; rw [neg_inj this]
    have eu2 : (chain s.reverse).getLast? = s.getLast? := by
      have := U.last
      rw [List.head?_map, List.getLast?_map, List.head?_reverse] at this
      cases h : (chain s.reverse).getLast? with
      | none => rw [h] at this; cases h' : s.getLast? with
        | none => rfl
        | some y => rw [h'] at this; simp at this
      | some x => rw [h] at this; cases h' : s.getLast? with
        | none => rw [h'] at this; simp at this
        | some y => rw [h'] at this; simp at this; rw [neg_inj this]
    have ec1 := C.head
    have ec2 : (chain s).getLast? = some h0 := by rw [C.last, es]; rfl
    have mC := C.mem
    have mU : ∀ x ∈ chain s.reverse, x ∈ s := by
      intro x hx
      have := U.mem (neg x) (List.mem_map.2 ⟨x, hx, rfl⟩)
      obtain ⟨y, hy, e⟩ := List.mem_map.1 this
      rw [← neg_inj e]
      simpa using hy
    have dU2 : (chain s.reverse).Pairwise lx := by
      rw [List.pairwise_map] at dU
      exact dU.imp fun h => lx_neg.1 h
    clear C U dU
    generalize chain s = c at *
    generalize chain s.reverse = u at *
    obtain ⟨lst, hlst⟩ : ∃ z, s.getLast? = some z := by rw [es]; exact ⟨_, List.getLast?_cons⟩
    rw [hlst] at ec1 eu2
    have hne : h0 ≠ lst := by
      intro e
      obtain ⟨ys, hy⟩ := List.getLast?_eq_some_iff.1 hlst
      cases ys with
      | nil => rw [es] at hy; simp at hy
      | cons y ys =>
        have h2 := hs
        rw [hy] at h2
        have e0 : y = h0 := by rw [es] at hy; simp at hy; exact hy.1.symm
        have := (List.pairwise_cons.1 h2).1 lst (by simp)
        rw [e0, ← e] at this
        exact lx_irrefl this
    cases c with
    | nil => simp at ec1
    | cons z c' =>
      simp at ec1
      subst ec1
      cases u with
      | nil => simp at eu1
      | cons y u' =>
        simp at eu1
        subst eu1
        have hc' : c' ≠ [] := by intro e; rw [e] at ec2; simp at ec2; exact hne ec2.symm
        have hc2 : c'.getLast? = some y := by
          rw [List.getLast?_cons] at ec2
          cases h : c'.getLast? with
          | none => exact absurd (List.getLast?_eq_none_iff.1 h) hc'
          | some v => rw [h] at ec2; simp at ec2; rw [ec2]
        obtain ⟨k, hk⟩ := List.getLast?_eq_some_iff.1 hc2
        have hu' : u' ≠ [] := by intro e; rw [e] at eu2; simp at eu2; exact hne eu2
        have hu2 : u'.getLast? = some z := by
          rw [List.getLast?_cons] at eu2
          cases h : u'.getLast? with
          | none => exact absurd (List.getLast?_eq_none_iff.1 h) hu'
          | some v => rw [h] at eu2; simp at eu2; rw [eu2]
        obtain ⟨m, hm⟩ := List.getLast?_eq_some_iff.1 hu2
        subst hk
        subst hm
        refine ⟨k.reverse ++ (m ++ [z]).reverse, by simp, fun x hx => ?_, ?_⟩
        · rw [List.mem_append, List.mem_reverse, List.mem_reverse] at hx
          rcases hx with hx | hx
          · refine ⟨?_, mC x (by simp [hx])⟩
            have := (List.pairwise_append.1 (List.pairwise_cons.1 dC).2).2.2 x hx y (by simp)
            exact this
          · exact ⟨(List.pairwise_cons.1 dU2).1 x hx, mU x (List.mem_cons_of_mem _ hx)⟩
        · have e1 : (z :: (k ++ [y])).reverse = (y :: k.reverse) ++ [z] := by simp
          have e2 : (y :: (m ++ [z])).reverse = z :: (m.reverse ++ [y]) := by simp
          rw [e1] at pC
          rw [e2] at pU
          have := path_app pU _ pC
          simpa using this
/-- one step of the search for the next corner -/
def stepN (f n p : Int × Int) : Int × Int := if tw f n p < 0 ∨ (tw f n p = 0 ∧ sq n f < sq p f) then p else n
theorem sq_self (f : Int × Int) : sq f f = 0 := by unfold sq; grind
theorem mul_self_nn (x : Int) : 0 ≤ x * x := by
  by_cases h : 0 ≤ x
  · exact Int.mul_nonneg h h
  · have := Int.mul_nonneg (show 0 ≤ -x by omega) (show 0 ≤ -x by omega)
    rw [Int.neg_mul_neg] at this
    exact this
theorem sq_pos {f b : Int × Int} (h : f ≠ b) : 0 < sq b f := by
  unfold sq
  have a1 := mul_self_nn (b.1 - f.1)
  have a2 := mul_self_nn (b.2 - f.2)
  by_cases h1 : f.1 = b.1
  · by_cases h2 : f.2 = b.2
    · exact absurd (Prod.ext h1 h2) h
    · by_cases h3 : 0 < b.2 - f.2
      · have := Int.mul_pos h3 h3; omega
      · have := Int.mul_pos (show 0 < -(b.2 - f.2) by omega) (show 0 < -(b.2 - f.2) by omega)
        rw [Int.neg_mul_neg] at this
        omega
  · by_cases h3 : 0 < b.1 - f.1
    · have := Int.mul_pos h3 h3; omega
    · have := Int.mul_pos (show 0 < -(b.1 - f.1) by omega) (show 0 < -(b.1 - f.1) by omega)
      rw [Int.neg_mul_neg] at this
      omega
theorem next_stay {f b : Int × Int} : ∀ (L : List (Int × Int)), (∀ p ∈ L, Nx f b p) → L.foldl (stepN f) b = b
  | [], _ => rfl
  | p :: L, h => by
    have hp := h p (by simp)
    have e : stepN f b p = b := by
      unfold stepN Nx at *
      rcases hp with hp | ⟨hp, h1 | h1⟩
      · rw [if_neg (by omega)]
      · subst h1; split <;> rfl
      · rw [if_neg (by omega)]
    show L.foldl (stepN f) (stepN f b p) = b
    rw [e]
    exact next_stay L fun x hx => h x (List.mem_cons_of_mem _ hx)
theorem next_go {f b : Int × Int} (hf : f ≠ b) : ∀ (L : List (Int × Int)) (n : Int × Int), b ∈ L → (∀ p ∈ L, Nx f b p) → (n = f ∨ Nx f b n) → L.foldl (stepN f) n = b
  | [], _, hb, _, _ => by simp at hb
  | p :: L, n, hb, h, hn => by
    show L.foldl (stepN f) (stepN f n p) = b
    by_cases hp : p = b
    · subst hp
      have e : stepN f n p = p := by
        by_cases hnp : n = p
        · subst hnp; unfold stepN; split <;> rfl
        · unfold stepN
          rw [if_pos]
          rcases hn with hn | hn
          · subst hn
            right
            rw [tw_self1, sq_self]
            exact ⟨rfl, sq_pos hf⟩
          · unfold Nx at hn
            have := tw_swap f p n
            rcases hn with hn | ⟨hn, h1 | h1⟩
            · left; omega
            · exact absurd h1 hnp
            · right; exact ⟨by omega, h1⟩
      rw [e]
      exact next_stay L fun x hx => h x (List.mem_cons_of_mem _ hx)
    · refine next_go hf L _ ?_ (fun x hx => h x (List.mem_cons_of_mem _ hx)) ?_
      · rw [List.mem_cons] at hb
        rcases hb with hb | hb
        · exact absurd hb.symm hp
        · exact hb
      · unfold stepN
        split
        · exact Or.inr (h p (by simp))
        · exact hn
theorem next_ok {s L : List (Int × Int)} {f b : Int × Int} (hL : ∀ p, p ∈ L ↔ p ∈ s) (h : Nxt s f b) : L.foldl (stepN f) f = b :=
  next_go h.2.1 L f ((hL b).2 h.1) (fun p hp => h.2.2 p ((hL p).1 hp)) (Or.inl rfl)
theorem next_one (f : Int × Int) : ∀ (L : List (Int × Int)), (∀ p ∈ L, p = f) → L.foldl (stepN f) f = f
  | [], _ => rfl
  | p :: L, h => by
    show L.foldl (stepN f) (stepN f f p) = f
    have e : stepN f f p = f := by
      have := h p (by simp)
      subst this
      unfold stepN; split <;> rfl
    rw [e]
    exact next_one f L fun x hx => h x (List.mem_cons_of_mem _ hx)
/-- WHAT THE WALK AROUND FINDS: from each corner of the band the next one, and behind the last one the first one -/
theorem band_ok {s t L : List (Int × Int)} {h0 : Int × Int} (hs : s.Pairwise lx) (es : s = h0 :: t) (hL : ∀ p, p ∈ L ↔ p ∈ s) :
    ∃ R, hull s = h0 :: R ∧ (∀ x ∈ R, x ≠ h0) ∧ (∀ x ∈ R, x ∈ s) ∧ ∀ i x y, (h0 :: R ++ [h0])[i]? = some x → (h0 :: R ++ [h0])[i + 1]? = some y → L.foldl (stepN x) x = y := by
  cases t with
  | nil =>
    subst es
    refine ⟨[], rfl, by simp, by simp, fun i x y hx hy => ?_⟩
    match i with
    | 0 =>
      simp at hx hy
      subst hx; subst hy
      exact next_one _ L fun p hp => by have := (hL p).1 hp; simpa using this
    | i + 1 => simp at hy
  | cons h1 t =>
    obtain ⟨R, e, h, hp⟩ := hull_ok (es ▸ hs) es
    exact ⟨R, e, fun x hx => (lx_ne (h x hx).1).symm, fun x hx => (h x hx).2, fun i x y hx hy => next_ok hL (path_get _ i x y hp hx hy)⟩
end MH
end Go.Proofs.Ytheddoinnakneaa
/- plain: the model's band, step by step -/
namespace Go.Proofs.Ytheddoinnakneaa
open Go.ChangeShapes Go.WideShapes Go.ChangeAt Go.RowKit Go.Joins
set_option linter.unusedVariables false
set_option linter.unusedSimpArgs false
set_option maxRecDepth 4000
theorem lxP_lx {p q : Int × Int} : lxP p q ↔ MH.lx p q := Iff.rfl
theorem tw_twI (a b c : Int × Int) : MH.tw a b c = twI a.1 a.2 b.1 b.2 c.1 c.2 := rfl
theorem chain_step {q : List (Int × Int)} {i : Nat} (h : i < q.length) : MH.chain (q.take (i + 1)) = pt q i :: MH.popS (pt q i) (MH.chain (q.take i)) := by
  rw [List.take_add_one, pt_get h]
  exact MH.chain_app _ _
theorem popS_mem (p : Int × Int) : ∀ (st : List (Int × Int)) (x : Int × Int), x ∈ MH.popS p st → x ∈ st
  | [], x, h => h
  | [a], x, h => h
  | b :: a :: t, x, h => by
    rw [MH.popS] at h
    split at h
    · exact List.mem_cons_of_mem _ (popS_mem p (a :: t) x h)
    · exact h
theorem chain_mem : ∀ (q : List (Int × Int)) (x : Int × Int), x ∈ MH.chain q → x ∈ q := by
  suffices ∀ (q st : List (Int × Int)) (x : Int × Int), x ∈ q.foldl MH.pushS st → x ∈ st ∨ x ∈ q from fun q x h => by
    have := this q [] x h
    simpa using this
  intro q
  induction q with
  | nil => intro st x h; exact Or.inl h
  | cons p q ih =>
    intro st x h
    rw [List.foldl_cons] at h
    rcases ih _ x h with h | h
    · unfold MH.pushS at h
      rw [List.mem_cons] at h
      rcases h with h | h
      · exact Or.inr (by simp [h])
      · exact Or.inl (popS_mem p st x h)
    · exact Or.inr (List.mem_cons_of_mem _ h)
theorem pop_yes {p a b : Int × Int} {t : List (Int × Int)} (h : MH.tw a b p ≤ 0) : MH.popS p (b :: a :: t) = MH.popS p (a :: t) := by rw [MH.popS, if_pos h]
theorem pop_no {p a b : Int × Int} {t : List (Int × Int)} (h : ¬ MH.tw a b p ≤ 0) : MH.popS p (b :: a :: t) = b :: a :: t := by rw [MH.popS, if_neg h]
theorem pop_few {p : Int × Int} {st : List (Int × Int)} (h : st.length ≤ 1) : MH.popS p st = st := by
  match st, h with
  | [], _ => rfl
  | [a], _ => rfl
/-- the two points on top -/
theorem top_two (P t : List (Int × Int)) (a b : Int × Int) (m : Nat) (hm : m = P.length + t.length) : pt (P ++ (b :: a :: t).reverse) m = a ∧ pt (P ++ (b :: a :: t).reverse) (m + 1) = b := by
  have e : P ++ (b :: a :: t).reverse = (P ++ t.reverse) ++ [a, b] := by simp
  rw [e]
  have hl : (P ++ t.reverse).length = m := by simp; omega
  constructor
  · unfold pt; rw [List.getElem?_append_right (by omega), hl, Nat.sub_self]; rfl
  · unfold pt; rw [List.getElem?_append_right (by omega), hl, show m + 1 - m = 1 by omega]; rfl
theorem pt_rev (s : List (Int × Int)) (i : Nat) (h : i < s.length) : pt s.reverse i = pt s (s.length - 1 - i) := by
  unfold pt; rw [List.getElem?_reverse h]
theorem pt_mem {s : List (Int × Int)} {i : Nat} (h : i < s.length) : pt s i ∈ s := List.mem_of_getElem? (pt_get h)
/-- the lower part, and the upper part -/
def lowC (s : List (Int × Int)) : List (Int × Int) := (MH.chain s).tail.reverse
theorem chain_ne {s : List (Int × Int)} (h : 0 < s.length) : MH.chain s ≠ [] := by
  intro e
  cases s with
  | nil => simp at h
  | cons p s =>
    have h1 := List.dropLast_concat_getLast (l := p :: s) (by simp)
    rw [← h1, MH.chain_app] at e
    unfold MH.pushS at e
    simp at e
theorem chain_tail {s : List (Int × Int)} (h : 0 < s.length) : ∃ z, (MH.chain s).reverse = lowC s ++ [z] ∧ (MH.chain s).length = (lowC s).length + 1 := by
  have := chain_ne h
  unfold lowC
  cases hc : MH.chain s with
  | nil => exact absurd hc this
  | cons z t => exact ⟨z, by simp, by simp⟩
theorem lowC_len {s : List (Int × Int)} (h : 0 < s.length) : (lowC s).length + 1 ≤ s.length := by
  obtain ⟨z, _, e⟩ := chain_tail h
  have := MH.chain_len s
  omega
theorem hull_big {s : List (Int × Int)} (h : ¬ s.length < 3) : MH.hull s = lowC s ++ lowC s.reverse := by unfold MH.hull lowC; rw [if_neg h]
theorem hull_few {s : List (Int × Int)} (h : s.length < 3) : MH.hull s = s := by unfold MH.hull; rw [if_pos h]
theorem own_sl {w : World} {base : Nat} {e : TypeId} {size : Nat} {v : Value} {n : Nat} {xs : List Value} (h : w.ownsRow base e size v n xs) : ∃ X cap, v = .slice X n cap ∧ n ≤ cap ∧ cap ≤ maxLen := by
  rcases own_val h with ⟨hv, hn⟩ | ⟨g, cap, hv, h1, h2, _⟩
  · exact ⟨none, 0, by rw [hv, hn], by omega, by simp [maxLen]⟩
  · exact ⟨_, cap, hv, h1, h2⟩
end Go.Proofs.Ytheddoinnakneaa

