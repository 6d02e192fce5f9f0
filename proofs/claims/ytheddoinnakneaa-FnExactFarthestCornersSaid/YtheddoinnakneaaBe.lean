/- plain: points put in order, one after the other -/
import Derived.Test.YtheddoinnakneaaBa
import Derived.Test.YtheddoinnakneaaLa
namespace Go.Proofs.Ytheddoinnakneaa
open Go.ChangeShapes Go.WideShapes Go.ChangeAt Go.RowKit Go.Joins
set_option linter.unusedVariables false
set_option linter.unusedSimpArgs false
set_option maxRecDepth 4000
/-- the first point of two in order -/
def lxB (p q : Int × Int) : Bool := decide (p.1 < q.1) || (decide (p.1 = q.1) && decide (p.2 < q.2))
def insAt (s : List (Int × Int)) (p : Int × Int) : Nat := (s.takeWhile fun q => lxB q p).length
def ins (s : List (Int × Int)) (p : Int × Int) : List (Int × Int) := s.take (insAt s p) ++ [p] ++ s.drop (insAt s p)
def srt (l : List (Int × Int)) : List (Int × Int) := l.foldl ins []
theorem insAt_le (s : List (Int × Int)) (p : Int × Int) : insAt s p ≤ s.length := by
  unfold insAt
  exact (List.takeWhile_sublist _).length_le
theorem insAt_eq : ∀ (s : List (Int × Int)) (p : Int × Int) (k : Nat), (∀ j, j < k → lxB (pt s j) p = true) → k ≤ s.length → (k = s.length ∨ lxB (pt s k) p = false) → insAt s p = k
  | [], p, k, _, h2, _ => by simp at h2; subst h2; rfl
  | q :: s, p, 0, _, _, h3 => by
    rcases h3 with h3 | h3
    · simp at h3
    · have e : lxB q p = false := h3
      unfold insAt
      rw [List.takeWhile_cons, e]; rfl
  | q :: s, p, k + 1, h1, h2, h3 => by
    have e : lxB q p = true := h1 0 (by omega)
    have ih := insAt_eq s p k (fun j hj => h1 (j + 1) (by omega)) (by simpa using h2) (by
      rcases h3 with h3 | h3
      · left; simpa using h3
      · right; exact h3)
    unfold insAt at *
    rw [List.takeWhile_cons, e]
    simp only [if_true, List.length_cons]
    rw [ih]
theorem ins_len (s : List (Int × Int)) (p : Int × Int) : (ins s p).length = s.length + 1 := by
  unfold ins
  have := insAt_le s p
  simp
  omega
theorem foldl_ins_len (l : List (Int × Int)) : ∀ (s : List (Int × Int)), (l.foldl ins s).length = s.length + l.length := by
  induction l with
  | nil => intro s; simp
  | cons p l ih => intro s; rw [List.foldl_cons, ih, ins_len]; simp; omega
theorem srt_len (l : List (Int × Int)) : (srt l).length = l.length := by unfold srt; rw [foldl_ins_len]; simp
theorem srt_step {l : List (Int × Int)} {k : Nat} (h : k < l.length) : srt (l.take (k + 1)) = ins (srt (l.take k)) (vx l k) := by
  unfold srt
  rw [List.take_add_one, vx_get h, List.foldl_append]
  rfl
theorem ins_mem {s : List (Int × Int)} {p x : Int × Int} : x ∈ ins s p ↔ x ∈ s ∨ x = p := by
  unfold ins
  rw [List.mem_append, List.mem_append, List.mem_singleton]
  have e := List.take_append_drop (insAt s p) s
  constructor
  · rintro ((h | h) | h)
    · exact Or.inl (List.mem_of_mem_take h)
    · exact Or.inr h
    · exact Or.inl (List.mem_of_mem_drop h)
  · rintro (h | h)
    · rw [← e, List.mem_append] at h
      rcases h with h | h
      · exact Or.inl (Or.inl h)
      · exact Or.inr h
    · exact Or.inl (Or.inr h)
theorem foldl_ins_mem (l : List (Int × Int)) : ∀ (s : List (Int × Int)) (x : Int × Int), x ∈ l.foldl ins s ↔ x ∈ s ∨ x ∈ l := by
  induction l with
  | nil => intro s x; simp
  | cons p l ih =>
    intro s x
    rw [List.foldl_cons, ih, ins_mem, List.mem_cons]
    constructor
    · rintro ((h | h) | h)
      · exact Or.inl h
      · exact Or.inr (Or.inl h)
      · exact Or.inr (Or.inr h)
    · rintro (h | h | h)
      · exact Or.inl (Or.inl h)
      · exact Or.inl (Or.inr h)
      · exact Or.inr h
theorem srt_mem {l : List (Int × Int)} {x : Int × Int} : x ∈ srt l ↔ x ∈ l := by unfold srt; rw [foldl_ins_mem]; simp
def lxP (p q : Int × Int) : Prop := p.1 < q.1 ∨ (p.1 = q.1 ∧ p.2 < q.2)
theorem lxB_iff {p q : Int × Int} : lxB p q = true ↔ lxP p q := by unfold lxB lxP; simp
theorem ins_sorted {s : List (Int × Int)} {p : Int × Int} (hs : s.Pairwise lxP) (hp : p ∉ s) : (ins s p).Pairwise lxP := by
  unfold ins insAt
  induction s with
  | nil => simp
  | cons q s ih =>
    rw [List.takeWhile_cons]
    have h := List.pairwise_cons.1 hs
    by_cases hq : lxB q p = true
    · rw [if_pos hq]
      have ih := ih h.2 (fun hh => hp (List.mem_cons_of_mem _ hh))
      simp only [List.length_cons, List.take_succ_cons, List.drop_succ_cons, List.cons_append]
      refine List.pairwise_cons.2 ⟨fun x hx => ?_, ih⟩
      have hx' : x ∈ ins s p := by unfold ins insAt; exact hx
      rw [ins_mem] at hx'
      rcases hx' with hx' | hx'
      · exact h.1 x hx'
      · subst hx'; exact lxB_iff.1 hq
    · rw [if_neg hq]
      simp only [List.length_nil, List.take_zero, List.drop_zero, List.nil_append]
      have hpq : lxP p q := by
        have h1 : ¬ lxP q p := fun hh => hq (lxB_iff.2 hh)
        have h2 : p ≠ q := fun e => hp (by rw [e]; simp)
        unfold lxP at *
        by_cases e1 : p.1 = q.1
        · by_cases e2 : p.2 = q.2
          · exact absurd (Prod.ext e1 e2) h2
          · omega
        · omega
      show List.Pairwise lxP (p :: q :: s)
      refine List.pairwise_cons.2 ⟨fun x hx => ?_, hs⟩
      rw [List.mem_cons] at hx
      rcases hx with hx | hx
      · subst hx; exact hpq
      · have := h.1 x hx
        unfold lxP at *; omega
theorem srt_sorted {l : List (Int × Int)} (h : l.Nodup) : (srt l).Pairwise lxP := by
  suffices ∀ (m s : List (Int × Int)), s.Pairwise lxP → m.Nodup → (∀ x ∈ m, x ∉ s) → (m.foldl ins s).Pairwise lxP from this l [] List.Pairwise.nil h (by simp)
  intro m
  induction m with
  | nil => intro s hs _ _; exact hs
  | cons p m ih =>
    intro s hs hm hd
    rw [List.foldl_cons]
    have hm' := List.nodup_cons.1 hm
    refine ih _ (ins_sorted hs (hd p (by simp))) hm'.2 (fun x hx h => ?_)
    rw [ins_mem] at h
    rcases h with h | h
    · exact hd x (List.mem_cons_of_mem _ hx) h
    · subst h; exact hm'.1 hx
theorem dif_nodup {l : List (Int × Int)} (h : Dif l) : l.Nodup := by
  rw [List.nodup_iff_pairwise_ne, List.pairwise_iff_getElem]
  intro i j hi hj hij e
  have := (h.fine j hj).2 i hij
  apply this
  have e1 := vx_get hi
  have e2 := vx_get hj
  rw [List.getElem?_eq_getElem hi] at e1
  rw [List.getElem?_eq_getElem hj] at e2
  injection e1 with e1
  injection e2 with e2
  rw [← e1, ← e2, e]
end Go.Proofs.Ytheddoinnakneaa
