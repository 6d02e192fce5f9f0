/- contract: TakePeg, the model -/
import Derived.Test.YtacabmbajadbgaaTk2
import Derived.Test.YtacabmbajadbgaaRi5
import Derived.Test.YtacabmbajadbgaaNbp
import Derived.Deep.CutRange
import Derived.Deep.RegionWith
import Derived.OwnWalk
import Derived.Laws.OwnMore
namespace Go.Proofs.Ytacabmbajadbgaa
open Go.ChangeShapes Go.WideShapes Go.ChangeAt Go.RowKit Go.Joins
set_option linter.unusedVariables false
set_option linter.unusedSimpArgs false
set_option maxRecDepth 4000
/-- the first n numbers as cells -/
def iL (f : Nat → Int) (n : Nat) : List Value := (List.range n).map fun i => Value.int .i64 (f i)
theorem iL_len (f : Nat → Int) (n : Nat) : (iL f n).length = n := by unfold iL; simp
theorem iL_get {f : Nat → Int} {n i : Nat} (h : i < n) : (iL f n)[i]? = some (.int .i64 (f i)) := by
  unfold iL
  rw [List.getElem?_map, List.getElem?_range h]; rfl
theorem iL_one (f : Nat → Int) (n : Nat) : ∀ u ∈ iL f n, u.oneCell' = true := by
  intro u hu
  unfold iL at hu
  rw [List.mem_map] at hu
  obtain ⟨i, _, rfl⟩ := hu
  rfl
theorem iL_set (f : Nat → Int) (n p : Nat) (x : Int) (hp : p < n) : (iL f n).set p (.int .i64 x) = iL (upd f p x) n := by
  apply List.ext_getElem?
  intro i
  rw [List.getElem?_set, iL_len]
  rcases Nat.lt_or_ge i n with h | h
  · by_cases e : p = i
    · rw [if_pos e, if_pos hp, iL_get h]; unfold upd; rw [if_pos e.symm]
    · rw [if_neg e, iL_get h, iL_get h]; unfold upd; rw [if_neg (fun e2 => e e2.symm)]
  · rw [if_neg (by omega), List.getElem?_eq_none (by rw [iL_len]; exact h), List.getElem?_eq_none (by rw [iL_len]; exact h)]
theorem iL_del (f : Nat → Int) (n k : Nat) (hk : k < n) : (iL f n).take (k * 1) ++ iL (fun i => f (k + 1 + i)) (n - (k + 1)) = iL (tkD f k) (n - 1) := by
  apply List.ext_getElem?
  intro i
  rw [Nat.mul_one]
  rcases Nat.lt_or_ge i k with h | h
  · rw [List.getElem?_append_left (by rw [List.length_take, iL_len]; omega), List.getElem?_take, if_pos h, iL_get (by omega), iL_get (by omega)]
    unfold tkD; rw [if_pos h]
  · rw [List.getElem?_append_right (by rw [List.length_take, iL_len]; omega), List.length_take, iL_len, show i - min k n = i - k by omega]
    rcases Nat.lt_or_ge i (n - 1) with g | g
    · rw [iL_get (by omega), iL_get g]
      unfold tkD
      rw [if_neg (by omega), show k + 1 + (i - k) = i + 1 by omega]
    · rw [List.getElem?_eq_none (by rw [iL_len]; omega), List.getElem?_eq_none (by rw [iL_len]; exact g)]
/-- a row of numbers of one's own -/
def RowI (w : World) (base : Nat) (v : Value) (n : Nat) (f : Nat → Int) : Prop := w.ownsRow base 3 1 v n (iL f n)
theorem rowI_below {w w' : World} {base B : Nat} {v : Value} {n : Nat} {f : Nat → Int} (h : RowI w base v n f) (hb : Below B w w') (hB : w.heap.size ≤ B) : RowI w' base v n f := by
  have h0 := h
  obtain ⟨h1, h2⟩ := h
  rcases h2 with h2 | ⟨g, cap, cur, hv, hg, hh, r⟩
  · exact ⟨h1, .inl h2⟩
  · have hl := World.ownsRow.lt h0 g (by rw [hv]; rfl)
    exact ⟨h1, .inr ⟨g, cap, cur, hv, hg, (hb.block g (by omega)).trans hh, r⟩⟩
theorem rowI_val {w : World} {base : Nat} {v : Value} {n : Nat} {f : Nat → Int} (h : RowI w base v n f) (hn : 0 < n) : ∃ g cap, v = .slice (some ⟨g, 0, none⟩) n cap ∧ n ≤ cap ∧ cap ≤ maxLen ∧ base ≤ g ∧ g < w.heap.size := by
  have hlt := World.ownsRow.lt h
  rcases h.2 with ⟨_, h2⟩ | ⟨g, cap, cur, hv, hg, hh, hc, hm, _⟩
  · omega
  · exact ⟨g, cap, hv, hc, hm, hg, (hlt g (by rw [hv]; rfl)).2⟩
theorem rowI_bk {w : World} {base g n cap : Nat} {f : Nat → Int} (h : RowI w base (.slice (some ⟨g, 0, none⟩) n cap) n f) : Bk w g n f :=
  ⟨(World.ownsRow.lt h g rfl).2, fun i hi => (World.ownsRow.cellAt h i (by omega)).trans (iL_get hi), fun o => World.ownsRow.frozenAt h o⟩
theorem rowI_set {w : World} {base g n cap : Nat} {f : Nat → Int} (h : RowI w base (.slice (some ⟨g, 0, none⟩) n cap) n f) {p : Nat} (hp : p < n) (x : Int) : RowI (w.setCell ⟨g, p, none⟩ (.int .i64 x)) base (.slice (some ⟨g, 0, none⟩) n cap) n (upd f p x) := by
  have := (World.ownsRow.stored h p (.int .i64 x)).1
  rw [iL_set f n p x hp] at this
  exact this
theorem own_cutI {w : World} {base g cap n size : Nat} {e : TypeId} {xs : List Value} (h : w.ownsRow base e size (.slice (some ⟨g, 0, none⟩) n cap) n xs) {i : Nat} (hi : i ≤ n) : w.ownsRow base e size (.slice (some ⟨g, 0, none⟩) i cap) i (xs.take (i * size)) := by
  have hm : i * size ≤ n * size := Nat.mul_le_mul_right _ hi
  refine ⟨by rw [List.length_take, h.1]; omega, .inr ?_⟩
  rcases h.2 with ⟨hv, _⟩ | ⟨g', cap', cur, hv, hg, hh, hc, hm', hs, ht⟩
  · simp at hv
  · simp only [Value.slice.injEq, Option.some.injEq, Addr.mk.injEq, and_true, true_and] at hv
    obtain ⟨rfl, rfl⟩ := hv
    refine ⟨g, cap, cur, rfl, hg, hh, by omega, hm', hs, ?_⟩
    rw [← ht, List.take_take, Nat.min_eq_left hm]
/-- a row without number k: what is behind it is appended to what is ahead of it -/
theorem rowI_del {P : Program} {w : World} {base g n cap k : Nat} {f : Nat → Int} {i0 : TypeInfo} (t ty : TypeId) (ht : P.underlying t = some (.slice 3)) (hi : P.info? 3 = some i0) (hs : i0.size = 1) (h : RowI w base (.slice (some ⟨g, 0, none⟩) n cap) n f) (hk : k < n) (ad : Addr) (had : cap = k + 1 ∨ ad = ⟨g, k + 1, none⟩) :
    ∃ w', (Builtin.append_ #[t, t] ty #[.slice (some ⟨g, 0, none⟩) k cap, .slice (some ad) (n - (k + 1)) (cap - (k + 1))]).run P w = .ok (.slice (some ⟨g, 0, none⟩) (n - 1) cap) w' ∧ RowI w' base (.slice (some ⟨g, 0, none⟩) (n - 1) cap) (n - 1) (tkD f k) ∧ w.grownBy w' (some g) := by
  obtain ⟨g', cap', he, hnc, _, _, _⟩ := rowI_val h (by omega)
  have hcap : n ≤ cap := by
    injection he with _ _ e3
    rw [e3]; exact hnc
  have hc := own_cutI h (i := k) (by omega)
  obtain ⟨w', hr, ho, hg⟩ := run_append_fits w base t ty 3 i0 1 ht hi hs g k cap _ hc ad (n - (k + 1)) (cap - (k + 1)) (iL (fun i => f (k + 1 + i)) (n - (k + 1))) (by rw [iL_len, Nat.mul_one]) (fun j u hu => by
    have hj : j < n - (k + 1) := by
      have := (List.getElem?_eq_some_iff.1 hu).1
      rwa [iL_len] at this
    rw [iL_get hj] at hu
    injection hu with hu
    rcases had with had | had
    · omega
    · rw [had, add_plain, ← hu]
      exact (rowI_bk h).c (k + 1 + j) (by omega)) (iL_one _ _) (by omega)
  rw [show k + (n - (k + 1)) = n - 1 by omega] at hr ho
  exact ⟨w', hr, by unfold RowI; rw [← iL_del f n k hk]; exact ho, hg⟩
end Go.Proofs.Ytacabmbajadbgaa
