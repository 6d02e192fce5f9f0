/- plain mathematics: what the told polygons are, as rows of points that come round -/
import Derived.Test.YtjkfdcjfoliboaaZf
import Derived.Test.YtjkfdcjfoliboaaSax
import Derived.Test.YtjkfdcjfoliboaaF
namespace Go.Proofs.Ytjkfdcjfoliboaa
open Go.ChangeShapes Go.WideShapes Go.ChangeAt Go.RowKit Go.Joins
set_option linter.unusedVariables false
set_option linter.unusedSimpArgs false
set_option maxRecDepth 4000
theorem tw_is (a b c : Int × Int) : MJ.tw a b c = twP a b c := by unfold MJ.tw twP twI; grind
theorem on_is (a b p : Int × Int) : onB a.1 a.2 b.1 b.2 p.1 p.2 = true ↔ MJ.on a b p := by
  rw [onB_eq]
  unfold MJ.on
  rw [tw_is]
  simp only [Bool.and_eq_true, decide_eq_true_eq, twP]
  omega
theorem me_is (a b c d : Int × Int) : meP a b c d = true ↔ MJ.meets a b c d := by
  unfold meP meetB MJ.meets
  simp only [Bool.or_eq_true, decide_eq_true_eq]
  rw [on_is, on_is, on_is, on_is, tw_is, tw_is, tw_is, tw_is]
  unfold twP
  constructor
  · rintro ((((h | h) | h) | h) | h)
    · exact .inr (.inr (.inl h))
    · exact .inr (.inr (.inr (.inl h)))
    · exact .inl h
    · exact .inr (.inl h)
    · exact .inr (.inr (.inr (.inr h)))
  · rintro (h | h | h | h | h)
    · exact .inl (.inl (.inr h))
    · exact .inl (.inr h)
    · exact .inl (.inl (.inl (.inl h)))
    · exact .inl (.inl (.inl (.inr h)))
    · exact .inr h
theorem meets_comm {a b c d : Int × Int} (h : MJ.meets a b c d) : MJ.meets c d a b := by
  rcases h with h | h | h | h | h
  · exact .inr (.inr (.inl h))
  · exact .inr (.inr (.inr (.inl h)))
  · exact .inl h
  · exact .inr (.inl h)
  · exact .inr (.inr (.inr (.inr ⟨h.2, h.1⟩)))
theorem vx_addN (l : List (Int × Int)) (i : Nat) : vx l (i + l.length) = vx l i := by unfold vx; rw [Nat.add_mod_right]
theorem vx_add1 (l : List (Int × Int)) (i k : Nat) : vx l (i % l.length + k) = vx l (i + k) := by
  rw [← vx_per l (i % l.length + k), ← vx_per l (i + k), Nat.mod_add_mod]
theorem vx_mul (l : List (Int × Int)) (p k : Nat) : vx l (l.length * p + k) = vx l k := by unfold vx; rw [Nat.mul_add_mod]
theorem good_ne {l : List (Int × Int)} (hg : Good l) (i : Nat) : vx l i ≠ vx l (i + 1) := by
  have h3 := hg.few.1
  rw [← vx_per l i, ← vx_add1 l i 1]
  have hm : i % l.length < l.length := Nat.mod_lt _ (by omega)
  by_cases h : i % l.length + 1 < l.length
  · exact (hg.diff _ _ (by omega) h).symm
  · have e : i % l.length + 1 = 0 + l.length := by omega
    rw [e, vx_addN]
    exact hg.diff _ _ (by omega) hm
theorem good_turn {l : List (Int × Int)} (hg : Good l) (i : Nat) : twP (vx l i) (vx l (i + 1)) (vx l (i + 2)) ≠ 0 := by
  have h3 := hg.few.1
  rw [← vx_per l i, ← vx_add1 l i 1, ← vx_add1 l i 2]
  exact hg.turn _ (Nat.mod_lt _ (by omega))
theorem good_poly {l : List (Int × Int)} (hg : Good l) : MJ.Poly (vx l) l.length := by
  have h3 := hg.few.1
  refine { three := h3, per := vx_addN l, adj := fun i => ⟨good_ne hg i, good_ne hg (i + 1), fun h => absurd (by rw [tw_is] at h; exact h) (good_turn hg i)⟩, apart := fun i j h1 h2 h => ?_, turn := fun i h => good_turn hg i (by rw [tw_is] at h; exact h) }
  obtain ⟨p, r, e, hr⟩ : ∃ p r, i = l.length * p + r ∧ r < l.length := ⟨i / l.length, i % l.length, (Nat.div_add_mod i l.length).symm, Nat.mod_lt _ (by omega)⟩
  obtain ⟨k, rfl⟩ : ∃ k, j = l.length * p + k := ⟨j - l.length * p, by omega⟩
  subst e
  rw [Nat.add_assoc, Nat.add_assoc, vx_mul, vx_mul, vx_mul, vx_mul] at h
  by_cases hk : k < l.length
  · have := hg.apart r k (by omega) hk (by omega)
    rw [← me_is, this] at h
    cases h
  · obtain ⟨m, rfl⟩ : ∃ m, k = m + l.length := ⟨k - l.length, by omega⟩
    rw [show m + l.length + 1 = m + 1 + l.length by omega, vx_addN, vx_addN] at h
    have := hg.apart m r (by omega) hr (by omega)
    have h' := meets_comm h
    rw [← me_is, this] at h'
    cases h'
theorem sumTo_is (f : Nat → Int) (n : Nat) : sumTo f n = MJ.sm f n := by
  induction n with
  | zero => rfl
  | succ n ih => unfold sumTo MJ.sm; rw [ih]
theorem area_is (l : List (Int × Int)) : areaN l = MJ.Ar (vx l) l.length := sumTo_is _ _
theorem good_box {l : List (Int × Int)} (hg : Good l) (i : Nat) : MJ.InBox 40 (vx l i) := by
  have := vx_pg hg.pegs (good_pos hg) i
  unfold isPg isPegB at this
  simp only [Bool.and_eq_true, decide_eq_true_eq] at this
  exact ⟨by omega, by omega, by omega, by omega⟩
/-- all corners turn to the left -/
def leftAll (l : List (Int × Int)) : Prop := ∀ i, i < l.length → 0 < twP (vx l i) (vx l (i + 1)) (vx l (i + 2))
def rightAll (l : List (Int × Int)) : Prop := ∀ i, i < l.length → twP (vx l i) (vx l (i + 1)) (vx l (i + 2)) < 0
theorem all_i {l : List (Int × Int)} {P : Int → Prop} (h0 : 0 < l.length) (h : ∀ i, i < l.length → P (twP (vx l i) (vx l (i + 1)) (vx l (i + 2)))) (i : Nat) : P (twP (vx l i) (vx l (i + 1)) (vx l (i + 2))) := by
  have := h (i % l.length) (Nat.mod_lt _ h0)
  rw [vx_per, vx_add1, vx_add1] at this
  exact this
theorem left_area {l : List (Int × Int)} (hg : Good l) (h : leftAll l) : 0 < areaN l := by
  rw [area_is]
  exact MJ.all_left (good_poly hg) (good_box hg) fun i => by rw [tw_is]; exact all_i (P := fun x => 0 < x) (good_pos hg) h i
theorem right_area {l : List (Int × Int)} (hg : Good l) (h : rightAll l) : areaN l < 0 := by
  rw [area_is]
  exact MJ.all_right (good_poly hg) (good_box hg) fun i => by rw [tw_is]; exact all_i (P := fun x => x < 0) (good_pos hg) h i
end Go.Proofs.Ytjkfdcjfoliboaa
