/- rows that are read while others grow -/
import Derived.Test.YtheddoinnakneaaNbp
import Derived.Test.YtheddoinnakneaaBe
import Derived.Laws.AppendOwnNone
namespace Go.Proofs.Ytheddoinnakneaa
open Go.ChangeShapes Go.WideShapes Go.ChangeAt Go.RowKit Go.Joins
set_option linter.unusedVariables false
set_option linter.unusedSimpArgs false
set_option maxRecDepth 4000
theorem ownB {w w' : World} {base B : Nat} {e : TypeId} {size : Nat} {v : Value} {n : Nat} {xs : List Value} (h : w.ownsRow base e size v n xs) (hb : Below B w w') (hB : w.heap.size ≤ B) : w'.ownsRow base e size v n xs := by
  have hlt := World.ownsRow.lt h
  obtain ⟨h1, h2⟩ := h
  rcases h2 with h2 | ⟨g, cap, cur, hv, hg, hh, r⟩
  · exact ⟨h1, .inl h2⟩
  · have hl := hlt g (by rw [hv]; rfl)
    exact ⟨h1, .inr ⟨g, cap, cur, hv, hg, (hb.block g (by omega)).trans hh, r⟩⟩
theorem own_base {w : World} {base base' : Nat} {e : TypeId} {size : Nat} {v : Value} {n : Nat} {xs : List Value} (h : w.ownsRow base e size v n xs) (hB : base' ≤ base) : w.ownsRow base' e size v n xs := by
  obtain ⟨h1, h2⟩ := h
  rcases h2 with h2 | ⟨g, cap, cur, hv, hg, r⟩
  · exact ⟨h1, .inl h2⟩
  · exact ⟨h1, .inr ⟨g, cap, cur, hv, Nat.le_trans hB hg, r⟩⟩
/-- a row without its last point -/
theorem own_pop {w : World} {base g n cap : Nat} {L : List (Int × Int)} {b : Int × Int} (h : w.ownsRow base 56 2 (.slice (some ⟨g, 0, none⟩) (n + 1) cap) (n + 1) (flat (L ++ [b]))) (hl : L.length = n) :
    w.ownsRow base 56 2 (.slice (some ⟨g, 0, none⟩) n cap) n (flat L) := by
  refine ⟨by rw [flat_len, hl], .inr ?_⟩
  rcases h.2 with ⟨hv, _⟩ | ⟨g', cap', cur, hv, hg, hh, hc, hm, hs, ht⟩
  · simp at hv
  · simp only [Value.slice.injEq, Option.some.injEq, Addr.mk.injEq, and_true, true_and] at hv
    obtain ⟨rfl, rfl⟩ := hv
    refine ⟨g, cap, cur, rfl, hg, hh, by omega, hm, hs, ?_⟩
    have e : (cur.toList.take ((n + 1) * 2)).take (n * 2) = flat L := by
      rw [ht, flat_app, List.take_append_of_le_length (by rw [flat_len]; omega), List.take_of_length_le (by rw [flat_len]; omega)]
    rw [← e, List.take_take, Nat.min_eq_left (by omega)]
/-- the value of a row -/
theorem own_val {w : World} {base : Nat} {e : TypeId} {size : Nat} {v : Value} {n : Nat} {xs : List Value} (h : w.ownsRow base e size v n xs) :
    (v = .slice none 0 0 ∧ n = 0) ∨ ∃ g cap, v = .slice (some ⟨g, 0, none⟩) n cap ∧ n ≤ cap ∧ cap ≤ maxLen ∧ base ≤ g ∧ g < w.heap.size := by
  have hlt := World.ownsRow.lt h
  rcases h.2 with h2 | ⟨g, cap, cur, hv, hg, hh, hc, hm, _⟩
  · exact .inl h2
  · exact .inr ⟨g, cap, hv, hc, hm, hg, (hlt g (by rw [hv]; rfl)).2⟩
theorem own_pt {w : World} {base g n cap : Nat} {s : List (Int × Int)} (h : w.ownsRow base 56 2 (.slice (some ⟨g, 0, none⟩) n cap) n (flat s)) (hs : s.length = n) (i : Nat) (hi : i < n) :
    w.cell? ⟨g, i * 2, none⟩ = some (.int .i64 (pt s i).1) ∧ w.cell? ⟨g, i * 2 + 1, none⟩ = some (.int .i64 (pt s i).2) := by
  have hf := flat_get s i (by omega)
  exact ⟨(World.ownsRow.cellAt h (i * 2) (by omega)).trans hf.1, (World.ownsRow.cellAt h (i * 2 + 1) (by omega)).trans hf.2⟩
theorem take_own {w : World} {base g n cap : Nat} {s : List (Int × Int)} (h : w.ownsRow base 56 2 (.slice (some ⟨g, 0, none⟩) n cap) n (flat s)) (j : Nat) :
    ∀ i u, (flat (s.take j))[i]? = some u → w.cell? ((⟨g, 0, none⟩ : Addr).add i) = some u := by
  intro i u hi
  refine World.ownsRow.cells h (g := g) rfl i u ?_
  rw [← List.take_append_drop j s, flat_app, List.getElem?_append_left ((List.getElem?_eq_some_iff.1 hi).1)]
  exact hi
theorem drop_own {w : World} {base g n cap : Nat} {s : List (Int × Int)} (h : w.ownsRow base 56 2 (.slice (some ⟨g, 0, none⟩) n cap) n (flat s)) (j : Nat) (hj : j ≤ s.length) :
    ∀ i u, (flat (s.drop j))[i]? = some u → w.cell? ((⟨g, j * 2, none⟩ : Addr).add i) = some u := by
  intro i u hi
  have := World.ownsRow.cells h (g := g) rfl (j * 2 + i) u (by
    rw [← List.take_append_drop j s, flat_app, List.getElem?_append_right (by rw [flat_len, List.length_take]; omega), flat_len, List.length_take, Nat.min_eq_left hj, Nat.add_sub_cancel_left]
    exact hi)
  rw [add_plain] at this ⊢
  rw [Nat.zero_add] at this
  exact this
theorem append_none_run {P : Program} {w : World} {base : Nat} {t ty e : TypeId} {i : TypeInfo} {size : Nat} {v : Value} {n : Nat} {xs : List Value} (ht : P.underlying t = some (.slice e)) (hi : P.info? e = some i) (hown : w.ownsRow base e size v n xs) :
    (Builtin.append_ #[t, t] ty #[v, .slice none 0 0]).run P w = .ok v w := run_append_owned_none (P := P) (w := w) base t ty e i size ht hi v n xs hown
theorem wp_append_none {P : Program} {w : World} {o : Oper} {a : Act} {K : Act → World → Prop} {Q : Exit → Act → World → Prop} (s x : Operand) (t : TypeId)
    (ho : o.op = .call { callee := .builtin .append, args := #[s, x], argTypes := #[t, t] })
    (base : Nat) (e : TypeId) (i : TypeInfo) (size : Nat) (ht : P.underlying t = some (.slice e)) (hi : P.info? e = some i)
    (v : Value) (n : Nat) (xs : List Value) (hs : a.eval s = v) (hown : w.ownsRow base e size v n xs) (hx : a.eval x = .slice none 0 0)
    (h : K (a.put o.dst v) w) : o.wp P a w K Q := by
  have hrun := run_append_owned_none (P := P) (w := w) base t o.type e i size ht hi v n xs hown
  unfold Oper.wp
  simp [execOp, ho, resolve, invoke, builtin, hs, hx, hrun, Result.andThen]
  exact h
theorem ins_flat {s : List (Int × Int)} {p1 p2 : Int} {j : Nat} (h : j = insAt s (p1, p2)) : flat (ins s (p1, p2)) = ([] ++ flat (s.take j) ++ [.int .i64 p1, .int .i64 p2]) ++ flat (s.drop j) := by
  unfold ins
  rw [← h, flat_app, flat_app, List.nil_append]
  rfl
end Go.Proofs.Ytheddoinnakneaa
