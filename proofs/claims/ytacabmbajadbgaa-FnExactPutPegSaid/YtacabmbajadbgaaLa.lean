/- rows of points that a call appends to; the model's list told backwards -/
import Derived.Test.YtacabmbajadbgaaSax
import Derived.Test.YtacabmbajadbgaaK
import Derived.Laws.OwnMore
import Derived.OwnWalk
import Derived.RegionTactic
namespace Go.Proofs.Ytacabmbajadbgaa
open Go.ChangeShapes Go.WideShapes Go.ChangeAt Go.RowKit Go.Joins
set_option linter.unusedVariables false
set_option linter.unusedSimpArgs false
set_option maxRecDepth 4000
/-- points as cells -/
def flat (l : List (Int × Int)) : List Value := l.flatMap fun p => [.int .i64 p.1, .int .i64 p.2]
theorem flat_nil : flat [] = [] := rfl
theorem flat_snoc (l : List (Int × Int)) (p : Int × Int) : flat (l ++ [p]) = flat l ++ [.int .i64 p.1, .int .i64 p.2] := by
  unfold flat; rw [List.flatMap_append]; rfl
theorem flat_get (l : List (Int × Int)) : ∀ i, i < l.length → (flat l)[i * 2]? = some (.int .i64 (pt l i).1) ∧ (flat l)[i * 2 + 1]? = some (.int .i64 (pt l i).2) := by
  induction l with
  | nil => intro i h; simp at h
  | cons p l ih =>
    intro i hi
    have e : flat (p :: l) = [.int .i64 p.1, .int .i64 p.2] ++ flat l := rfl
    rw [e]
    cases i with
    | zero => exact ⟨rfl, rfl⟩
    | succ i =>
      have h := ih i (by simpa using hi)
      have e2 : pt (p :: l) (i + 1) = pt l i := rfl
      rw [e2, show (i + 1) * 2 = 2 + i * 2 by omega, List.getElem?_append_right (by simp), List.getElem?_append_right (by simp; omega)]
      simpa [show 2 + i * 2 - 2 = i * 2 by omega, show 2 + i * 2 + 1 - 2 = i * 2 + 1 by omega] using h
/-- what a row of the call's own reads as -/
theorem rw_of_own {w : World} {base : Nat} {v : Value} {l : List (Int × Int)} (h : w.ownsRow base 53 2 v l.length (flat l)) :
    ∃ A c, v = .slice A l.length c ∧ l.length ≤ c ∧ c ≤ maxLen ∧ Rw w base w.heap.size A l.length (pt l) := by
  have h0 := h
  obtain ⟨h1, h2⟩ := h
  rcases h2 with ⟨hv, hn⟩ | ⟨g, cap, cur, hv, hg, hh, hc, hm, hs, ht⟩
  · exact ⟨none, 0, by rw [hv, hn], by omega, by simp [maxLen], fun hp => absurd hp (by omega)⟩
  · subst hv
    refine ⟨some ⟨g, 0, none⟩, cap, rfl, hc, hm, fun hp => ⟨g, 0, rfl, hg, (h0.lt g rfl).2, fun i hi => ?_⟩⟩
    have hf := flat_get l i hi
    rw [Nat.zero_add]
    exact ⟨⟨(h0.cellAt (i * 2) (by omega)).trans hf.1, (h0.cellAt (i * 2 + 1) (by omega)).trans hf.2⟩, h0.frozenAt _, h0.frozenAt _⟩
/-- the first k of the points f 0, f 1, .. -/
def firsts (f : Nat → Int × Int) (k : Nat) : List (Int × Int) := (List.range k).map f
theorem firsts_len (f : Nat → Int × Int) (k : Nat) : (firsts f k).length = k := by unfold firsts; simp
theorem firsts_succ (f : Nat → Int × Int) (k : Nat) : firsts f (k + 1) = firsts f k ++ [f k] := by unfold firsts; rw [List.range_succ, List.map_append]; rfl
theorem firsts_pt (f : Nat → Int × Int) (k i : Nat) (h : i < k) : pt (firsts f k) i = f i := by
  unfold pt firsts; rw [List.getElem?_map, List.getElem?_range h]; rfl
theorem firsts_get (f : Nat → Int × Int) (k i : Nat) (h : i < k) : (firsts f k)[i]? = some (f i) := by
  unfold firsts; rw [List.getElem?_map, List.getElem?_range h]; rfl
/-- a row that has grown by append: the first k points -/
def Row (w : World) (base : Nat) (v : Value) (f : Nat → Int × Int) (k : Nat) : Prop := w.ownsRow base 53 2 v k (flat (firsts f k))
theorem row_nil (w : World) (base : Nat) (f : Nat → Int × Int) : Row w base (.slice none 0 0) f 0 := World.ownsRow_nil w base _ _
theorem row_step {w : World} {base : Nat} {v : Value} {f : Nat → Int × Int} {k : Nat} (h : w.ownsRow base 53 2 v (k + 1) (flat (firsts f k) ++ [.int .i64 (f k).1, .int .i64 (f k).2])) : Row w base v f (k + 1) := by
  unfold Row; rw [firsts_succ, flat_snoc]; exact h
theorem row_out {w : World} {base : Nat} {v : Value} {f : Nat → Int × Int} {k : Nat} (h : Row w base v f k) :
    ∃ A c, v = .slice A k c ∧ k ≤ c ∧ c ≤ maxLen ∧ Rw w base w.heap.size A k f := by
  have h' : w.ownsRow base 53 2 v (firsts f k).length (flat (firsts f k)) := by rw [firsts_len]; exact h
  obtain ⟨A, c, e, h1, h2, h3⟩ := rw_of_own h'
  rw [firsts_len] at e h1 h3
  exact ⟨A, c, e, h1, h2, rw_same h3 fun i hi => firsts_pt f k i hi⟩
theorem row_alloc {w : World} {base : Nat} {v : Value} {f : Nat → Int × Int} {k : Nat} (h : Row w base v f k) (o : Obj) : Row (w.alloc o) base v f k := World.ownsRow.alloc h o
theorem row_below {w w' : World} {base B : Nat} {v : Value} {f : Nat → Int × Int} {k : Nat} (h : Row w base v f k) (hb : Below B w w') (hB : w.heap.size ≤ B) : Row w' base v f k := by
  obtain ⟨h1, h2⟩ := h
  rcases h2 with h2 | ⟨g, cap, cur, hv, hg, hh, r⟩
  · exact ⟨h1, .inl h2⟩
  · have hl := World.ownsRow.lt (w := w) (base := base) (e := 53) (size := 2) (v := v) (n := k) (xs := flat (firsts f k)) ⟨h1, .inr ⟨g, cap, cur, hv, hg, hh, r⟩⟩ g (by rw [hv]; rfl)
    exact ⟨h1, .inr ⟨g, cap, cur, hv, hg, (hb.block g (by omega)).trans hh, r⟩⟩
/-- behind an append -/
theorem row_push {w W w1 : World} {v v' : Value} {f : Nat → Int × Int} {k : Nat} (hB : Below w.heap.size w W) (hr : Row W w.heap.size v f k)
    (ho : w1.ownsRow w.heap.size 53 2 v' (k + 1) (flat (firsts f k) ++ [.int .i64 (f k).1, .int .i64 (f k).2])) (hg : W.grownBy w1 v.ownBlock) : Row w1 w.heap.size v' f (k + 1) ∧ Below w.heap.size w w1 :=
  ⟨row_step ho, hB.grown hg hB.size fun g hgk => (World.ownsRow.lt hr g hgk).1⟩
theorem two_cells {w : World} {g : Nat} {x y : Value} (h1 : w.cell? ⟨g, 0, none⟩ = some x) (h2 : w.cell? ⟨g, 1, none⟩ = some y) : ∀ j u, [x, y][j]? = some u → w.cell? ((⟨g, 0, none⟩ : Addr).add j) = some u := by
  intro j u hj
  match j, hj with
  | 0, hj => simp at hj; subst hj; exact h1
  | 1, hj => simp at hj; subst hj; exact h2
theorem two_one (x y : Int) : ∀ u ∈ [Value.int .i64 x, Value.int .i64 y], u.oneCell' = true := by
  intro u hu; simp at hu; rcases hu with rfl | rfl <;> rfl
/-- what a call returns that gives a list of points and says whether there is one -/
def RetL (w : World) (m : List (Int × Int)) (b : Bool) (e : Ending) (w' : World) : Prop :=
  ∃ A c, e = .returned (.tuple #[.slice A m.length c, .bool b]) ∧ m.length ≤ c ∧ c ≤ maxLen ∧ Below w.heap.size w w' ∧ Rw w' w.heap.size w'.heap.size A m.length (pt m)
/-- what a call returns that gives a list of points -/
def RetP (w : World) (m : List (Int × Int)) (e : Ending) (w' : World) : Prop :=
  ∃ A c, e = .returned (.slice A m.length c) ∧ m.length ≤ c ∧ c ≤ maxLen ∧ Below w.heap.size w w' ∧ Rw w' w.heap.size w'.heap.size A m.length (pt m)
theorem retP_row {w w' : World} {v : Value} {f : Nat → Int × Int} {k : Nat} (h : Row w' w.heap.size v f k) (hb : Below w.heap.size w w') : RetP w (firsts f k) (.returned v) w' := by
  obtain ⟨A, c, rfl, h1, h2, h3⟩ := row_out h
  refine ⟨A, c, by rw [firsts_len], by rw [firsts_len]; exact h1, h2, hb, ?_⟩
  rw [firsts_len]
  exact rw_same h3 fun i hi => (firsts_pt f k i hi).symm
theorem retL_nil {w w' : World} (hb : Below w.heap.size w w') : RetL w [] false (.returned (.tuple #[.slice none 0 0, .bool false])) w' :=
  ⟨none, 0, rfl, by simp, by simp [maxLen], hb, fun h => absurd h (by simp)⟩
theorem retL_of_P {w w1 w2 : World} {m : List (Int × Int)} {A : Option Addr} {c : Nat} (hb1 : Below w.heap.size w w1) (h1 : m.length ≤ c) (h2 : c ≤ maxLen) (hb2 : Below w1.heap.size w1 w2) (h : Rw w2 w1.heap.size w2.heap.size A m.length (pt m)) :
    RetL w m true (.returned (.tuple #[.slice A m.length c, .bool true])) w2 :=
  ⟨A, c, rfl, h1, h2, hb1.trans (hb2.mono hb1.size), rw_more h hb1.size (Nat.le_refl _)⟩
theorem retL_up {w w1 w2 : World} {m : List (Int × Int)} {b : Bool} {e : Ending} (hb1 : Below w.heap.size w w1) (h : RetL w1 m b e w2) : RetL w m b e w2 := by
  obtain ⟨A, c, e, h1, h2, h3, h4⟩ := h
  exact ⟨A, c, e, h1, h2, hb1.trans (h3.mono hb1.size), rw_more h4 hb1.size (Nat.le_refl _)⟩
end Go.Proofs.Ytacabmbajadbgaa
