/- rows of pairs of numbers, each pair in a block of its own, that a call appends to -/
import Derived.Test.YtgjegildeejghaaKs
import Derived.Test.YtgjegildeejghaaNb
import Derived.Laws.OwnMore
import Derived.OwnWalk
namespace Go.Proofs.Ytgjegildeejghaa
open Go.ChangeShapes Go.WideShapes Go.ChangeAt Go.RowKit Go.Joins
set_option linter.unusedVariables false
set_option linter.unusedSimpArgs false
set_option maxRecDepth 4000
theorem ints_info : (Try.prog.info? 30).map (fun i => (i.zero, i.size, i.bytes)) = some (some (.slice none 0 0), 1, 24) := by kernel_rfl
theorem info_parts2 {i : Option TypeInfo} {z : Value} {s b : Nat} (h : i.map (fun i => (i.zero, i.size, i.bytes)) = some (some z, s, b)) : ∃ i0, i = some i0 ∧ i0.zero = some z ∧ i0.size = s ∧ i0.bytes = b := by
  cases i with
  | none => simp at h
  | some i0 =>
    simp at h
    exact ⟨i0, rfl, h.1, h.2.1, h.2.2⟩
/-- the row v of k slices, number i of them the numbers x i and y i in block q i -/
def PairAt (w : World) (base : Nat) (xs : List Value) (q : Nat → Nat) (x y : Nat → Int) (i : Nat) : Prop :=
  xs[i]? = some (.slice (some ⟨q i, 0, none⟩) 2 2) ∧ base ≤ q i ∧ q i < w.heap.size ∧ w.heap[q i]? = some (.cells #[.int .i64 (x i), .int .i64 (y i)] 3 (0, 0)) ∧ ∀ j, j < i → q j < q i
def RowH (w : World) (base : Nat) (v : Value) (x y : Nat → Int) (k : Nat) : Prop :=
  ∃ (xs : List Value) (q : Nat → Nat), w.ownsRow base 30 1 v k xs ∧ ∀ i, i < k → PairAt w base xs q x y i
theorem rowH_nil (w : World) (base : Nat) (x y : Nat → Int) : RowH w base (.slice none 0 0) x y 0 :=
  ⟨[], fun _ => 0, World.ownsRow_nil w base _ _, fun i h => absurd h (Nat.not_lt_zero i)⟩
theorem own_block {w w' : World} {base : Nat} {v : Value} {k : Nat} {xs : List Value} (h : w.ownsRow base 30 1 v k xs) (hk : ∀ b, b < w.heap.size → w'.heap[b]? = w.heap[b]?) : w'.ownsRow base 30 1 v k xs := by
  have h0 := h
  obtain ⟨h1, h2⟩ := h
  rcases h2 with h2 | ⟨g, cap, cur, hv, hg, hh, r⟩
  · exact ⟨h1, .inl h2⟩
  · have hl := h0.lt g (by rw [hv]; rfl)
    exact ⟨h1, .inr ⟨g, cap, cur, hv, hg, (hk g hl.2).trans hh, r⟩⟩
theorem rowH_below {w w' : World} {base B : Nat} {v : Value} {x y : Nat → Int} {k : Nat} (h : RowH w base v x y k) (hb : Below B w w') (hB : w.heap.size ≤ B) : RowH w' base v x y k := by
  obtain ⟨xs, q, ho, hq⟩ := h
  refine ⟨xs, q, own_block ho fun b hbl => hb.block b (by omega), fun i hi => ?_⟩
  obtain ⟨h1, h2, h3, h4, h5⟩ := hq i hi
  have := hb.size
  exact ⟨h1, h2, by omega, (hb.block _ (by omega)).trans h4, h5⟩
theorem not_own {w : World} {base : Nat} {v : Value} {k : Nat} {xs : List Value} {g : Nat} {cs : Array Value} (h : w.ownsRow base 30 1 v k xs) (hg : w.heap[g]? = some (.cells cs 3 (0, 0))) : some g ≠ v.ownBlock := by
  intro e
  rcases h.2 with ⟨hv, _⟩ | ⟨g', cap, cur, hv, _, hh, _⟩
  · rw [hv] at e; cases e
  · rw [hv] at e
    injection e with e
    subst e
    rw [hh] at hg
    injection hg with hg
    injection hg with _ h2
    exact absurd h2 (by decide)
/-- behind an append of one more pair -/
theorem rowH_push {W w' : World} {base : Nat} {v v' : Value} {x y : Nat → Int} {k : Nat} {xs : List Value} {q : Nat → Nat} (hbase : base ≤ W.heap.size) (ho : W.ownsRow base 30 1 v k xs) (hq : ∀ i, i < k → PairAt W base xs q x y i)
    (hown : w'.ownsRow base 30 1 v' (k + 1) (xs ++ [.slice (some ⟨W.heap.size, 0, none⟩) 2 2]))
    (hg : ((W.alloc (.cells #[.int .i64 (x k), .int .i64 (y k)] 3)).alloc (.cells #[.slice (some ⟨W.heap.size, 0, none⟩) 2 2] 30)).grownBy w' v.ownBlock) : RowH w' base v' x y (k + 1) := by
  have hlen : xs.length = k := by have := ho.1; omega
  have hA : Below W.heap.size W ((W.alloc (.cells #[.int .i64 (x k), .int .i64 (y k)] 3)).alloc (.cells #[.slice (some ⟨W.heap.size, 0, none⟩) 2 2] 30)) := Below.alloc (Below.alloc (Below.refl _ _) (Nat.le_refl _) _) (by simp) _
  have hsz : ((W.alloc (.cells #[.int .i64 (x k), .int .i64 (y k)] 3)).alloc (.cells #[.slice (some ⟨W.heap.size, 0, none⟩) 2 2] 30)).heap.size = W.heap.size + 2 := by simp
  have hgs := hg.size
  have hnew : ((W.alloc (.cells #[.int .i64 (x k), .int .i64 (y k)] 3)).alloc (.cells #[.slice (some ⟨W.heap.size, 0, none⟩) 2 2] 30)).heap[W.heap.size]? = some (.cells #[.int .i64 (x k), .int .i64 (y k)] 3 (0, 0)) := by
    have h1 := (Below.alloc (Below.refl (W.alloc (.cells #[.int .i64 (x k), .int .i64 (y k)] 3)).heap.size (W.alloc (.cells #[.int .i64 (x k), .int .i64 (y k)] 3))) (Nat.le_refl _) (.cells #[.slice (some ⟨W.heap.size, 0, none⟩) 2 2] 30)).block W.heap.size (by simp)
    rw [h1]
    exact heap_alloc_new W _
  refine ⟨xs ++ [.slice (some ⟨W.heap.size, 0, none⟩) 2 2], fun i => if i < k then q i else W.heap.size, hown, fun i hi => ?_⟩
  unfold PairAt
  by_cases hik : i < k
  · obtain ⟨h1, h2, h3, h4, h5⟩ := hq i hik
    simp only [hik, if_true]
    refine ⟨by rw [List.getElem?_append_left (by omega)]; exact h1, h2, by omega, ?_, fun j hj => by rw [if_pos (by omega)]; exact h5 j hj⟩
    rw [hg.block (q i) (by omega) (not_own ho h4)]
    exact (hA.block _ h3).trans h4
  · have e : i = k := by omega
    subst e
    simp only [Nat.lt_irrefl, if_false]
    refine ⟨by rw [List.getElem?_append_right (by omega), hlen, Nat.sub_self]; rfl, hbase, by omega, ?_, fun j hj => by rw [if_pos hj]; exact (hq j hj).2.2.1⟩
    rw [hg.block W.heap.size (by omega) (fun e => by
      rcases ho.2 with ⟨hv, _⟩ | ⟨g', cap, cur, hv, _, hh, _⟩
      · rw [hv] at e; cases e
      · have := (ho.lt g' (by rw [hv]; rfl)).2
        rw [hv] at e
        injection e with e
        have e2 : W.heap.size = g' := e
        omega)]
    exact hnew
theorem frozen_cells {w : World} {g : Nat} {cs : Array Value} {t : TypeId} (h : w.heap[g]? = some (.cells cs t (0, 0))) (o : Nat) : w.frozen? ⟨g, o, none⟩ = false := by simp [World.frozen?, h]
/-- the rows, read -/
theorem rwS_of {w : World} {base : Nat} {v : Value} {x y : Nat → Int} {n : Nat} (h : RowH w base v x y n) (hn : 0 < n) :
    ∃ A c, v = .slice A n c ∧ n ≤ c ∧ c ≤ maxLen ∧ RwS w base w.heap.size A n (fun _ => 2) (fun i t => if t = 0 then x i else y i) := by
  obtain ⟨xs, q, ho, hq⟩ := h
  have ho2 := ho
  rcases ho.2 with ⟨_, h0⟩ | ⟨g, cap, cur, hv, hg, hh, hc, hm, _⟩
  · omega
  · subst hv
    refine ⟨some ⟨g, 0, none⟩, cap, rfl, hc, hm, fun _ => ⟨g, 0, q, rfl, hg, (ho.lt g rfl).2, fun i hi => ?_⟩⟩
    obtain ⟨h1, h2, h3, h4, h5⟩ := hq i hi
    refine ⟨⟨h2, h3, fun e => not_own ho h4 (by rw [e]; rfl), fun j hj e => by have := h5 j hj; omega⟩, some ⟨q i, 0, none⟩, 2, ?_, fun _ => ⟨q i, 0, rfl, Nat.le_refl _, Nat.lt_succ_self _, fun t ht => ?_⟩⟩
    · rw [Nat.zero_add, ho2.cellAt i (by omega)]; exact h1
    · rw [Nat.zero_add]
      refine ⟨?_, frozen_cells h4 t⟩
      rw [cell_of_row w (q i) t _ 3 (0, 0) h4]
      have ht2 : t < 2 := ht
      rcases (show t = 0 ∨ t = 1 by omega) with rfl | rfl <;> rfl
/-- what a call returns that gives n lists of numbers and says whether there are such -/
def RetS (w : World) (n : Nat) (m : Nat → Nat) (f : Nat → Nat → Int) (b : Bool) (e : Ending) (w' : World) : Prop :=
  ∃ A c, e = .returned (.tuple #[.slice A n c, .bool b]) ∧ n ≤ c ∧ c ≤ maxLen ∧ Below w.heap.size w w' ∧ RwS w' w.heap.size w'.heap.size A n m f
theorem retS_nil {w w' : World} {m : Nat → Nat} {f : Nat → Nat → Int} (hb : Below w.heap.size w w') : RetS w 0 m f false (.returned (.tuple #[.slice none 0 0, .bool false])) w' :=
  ⟨none, 0, rfl, by simp, by simp [maxLen], hb, fun h => absurd h (by omega)⟩
theorem retS_row {w w2 w' : World} {v : Value} {x y : Nat → Int} {n : Nat} (hb2 : Below w.heap.size w w2) (h : RowH w' w2.heap.size v x y n) (hn : 0 < n) (hb : Below w2.heap.size w2 w') :
    RetS w n (fun _ => 2) (fun i t => if t = 0 then x i else y i) true (.returned (.tuple #[v, .bool true])) w' := by
  obtain ⟨A, c, rfl, h1, h2, h3⟩ := rwS_of h hn
  exact ⟨A, c, rfl, h1, h2, hb2.trans (hb.mono hb2.size), rws_more h3 hb2.size (Nat.le_refl _)⟩
end Go.Proofs.Ytgjegildeejghaa
