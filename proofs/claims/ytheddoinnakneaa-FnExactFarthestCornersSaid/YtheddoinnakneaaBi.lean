/- plain: the model's band, step by step -/
import Derived.Test.YtheddoinnakneaaBh
import Derived.Test.YtheddoinnakneaaBf0
namespace Go.Proofs.Ytheddoinnakneaa
open Go.ChangeShapes Go.WideShapes Go.ChangeAt Go.RowKit Go.Joins
set_option linter.unusedVariables false
set_option linter.unusedSimpArgs false
set_option maxRecDepth 4000
theorem lxP_lx {p q : Int × Int} : lxP p q ↔ MH.lx p q := Iff.rfl
theorem tw_twI (a b c : Int × Int) : MH.tw a b c = twI a.1 a.2 b.1 b.2 c.1 c.2 := rfl
theorem chain_step {q : List (Int × Int)} {i : Nat} (h : i < q.length) : MH.chain (q.take (i + 1)) = pt q i :: MH.popS (pt q i) (MH.chain (q.take i)) := by
  rw [List.take_add_one, pt_get h]
  exact MH.chain_app _ _
theorem popS_mem (p : Int × Int) : ∀ (st : List (Int × Int)) (x : Int × Int), x ∈ MH.popS p st → x ∈ st
  | [], x, h => h
  | [a], x, h => h
  | b :: a :: t, x, h => by
    rw [MH.popS] at h
    split at h
    · exact List.mem_cons_of_mem _ (popS_mem p (a :: t) x h)
    · exact h
theorem chain_mem : ∀ (q : List (Int × Int)) (x : Int × Int), x ∈ MH.chain q → x ∈ q := by
  suffices ∀ (q st : List (Int × Int)) (x : Int × Int), x ∈ q.foldl MH.pushS st → x ∈ st ∨ x ∈ q from fun q x h => by
    have := this q [] x h
    simpa using this
  intro q
  induction q with
  | nil => intro st x h; exact Or.inl h
  | cons p q ih =>
    intro st x h
    rw [List.foldl_cons] at h
    rcases ih _ x h with h | h
    · unfold MH.pushS at h
      rw [List.mem_cons] at h
      rcases h with h | h
      · exact Or.inr (by simp [h])
      · exact Or.inl (popS_mem p st x h)
    · exact Or.inr (List.mem_cons_of_mem _ h)
theorem pop_yes {p a b : Int × Int} {t : List (Int × Int)} (h : MH.tw a b p ≤ 0) : MH.popS p (b :: a :: t) = MH.popS p (a :: t) := by rw [MH.popS, if_pos h]
theorem pop_no {p a b : Int × Int} {t : List (Int × Int)} (h : ¬ MH.tw a b p ≤ 0) : MH.popS p (b :: a :: t) = b :: a :: t := by rw [MH.popS, if_neg h]
theorem pop_few {p : Int × Int} {st : List (Int × Int)} (h : st.length ≤ 1) : MH.popS p st = st := by
  match st, h with
  | [], _ => rfl
  | [a], _ => rfl
/-- the two points on top -/
theorem top_two (P t : List (Int × Int)) (a b : Int × Int) (m : Nat) (hm : m = P.length + t.length) : pt (P ++ (b :: a :: t).reverse) m = a ∧ pt (P ++ (b :: a :: t).reverse) (m + 1) = b := by
  have e : P ++ (b :: a :: t).reverse = (P ++ t.reverse) ++ [a, b] := by simp
  rw [e]
  have hl : (P ++ t.reverse).length = m := by simp; omega
  constructor
  · unfold pt; rw [List.getElem?_append_right (by omega), hl, Nat.sub_self]; rfl
  · unfold pt; rw [List.getElem?_append_right (by omega), hl, show m + 1 - m = 1 by omega]; rfl
theorem pt_rev (s : List (Int × Int)) (i : Nat) (h : i < s.length) : pt s.reverse i = pt s (s.length - 1 - i) := by
  unfold pt; rw [List.getElem?_reverse h]
theorem pt_mem {s : List (Int × Int)} {i : Nat} (h : i < s.length) : pt s i ∈ s := List.mem_of_getElem? (pt_get h)
/-- the lower part, and the upper part -/
def lowC (s : List (Int × Int)) : List (Int × Int) := (MH.chain s).tail.reverse
theorem chain_ne {s : List (Int × Int)} (h : 0 < s.length) : MH.chain s ≠ [] := by
  intro e
  cases s with
  | nil => simp at h
  | cons p s =>
    have h1 := List.dropLast_concat_getLast (l := p :: s) (by simp)
    rw [← h1, MH.chain_app] at e
    unfold MH.pushS at e
    simp at e
theorem chain_tail {s : List (Int × Int)} (h : 0 < s.length) : ∃ z, (MH.chain s).reverse = lowC s ++ [z] ∧ (MH.chain s).length = (lowC s).length + 1 := by
  have := chain_ne h
  unfold lowC
  cases hc : MH.chain s with
  | nil => exact absurd hc this
  | cons z t => exact ⟨z, by simp, by simp⟩
theorem lowC_len {s : List (Int × Int)} (h : 0 < s.length) : (lowC s).length + 1 ≤ s.length := by
  obtain ⟨z, _, e⟩ := chain_tail h
  have := MH.chain_len s
  omega
theorem hull_big {s : List (Int × Int)} (h : ¬ s.length < 3) : MH.hull s = lowC s ++ lowC s.reverse := by unfold MH.hull lowC; rw [if_neg h]
theorem hull_few {s : List (Int × Int)} (h : s.length < 3) : MH.hull s = s := by unfold MH.hull; rw [if_pos h]
theorem own_sl {w : World} {base : Nat} {e : TypeId} {size : Nat} {v : Value} {n : Nat} {xs : List Value} (h : w.ownsRow base e size v n xs) : ∃ X cap, v = .slice X n cap ∧ n ≤ cap ∧ cap ≤ maxLen := by
  rcases own_val h with ⟨hv, hn⟩ | ⟨g, cap, hv, h1, h2, _⟩
  · exact ⟨none, 0, by rw [hv, hn], by omega, by simp [maxLen]⟩
  · exact ⟨_, cap, hv, h1, h2⟩
end Go.Proofs.Ytheddoinnakneaa
