/- contract: PutPeg: plain, and the model -/
import Derived.Test.YtacabmbajadbgaaTk4
import Derived.Deep.AppendLies
namespace Go.Proofs.Ytacabmbajadbgaa
open Go.ChangeShapes Go.WideShapes Go.ChangeAt Go.RowKit Go.Joins
set_option linter.unusedVariables false
set_option linter.unusedSimpArgs false
set_option maxRecDepth 4000
/-- a number 1 put in at place k -/
def inF (f : Nat → Int) (k i : Nat) : Int := if i < k then f i else if i = k then 1 else f (i - 1)
def puF (f : Nat → Int) (n k : Nat) : Nat → Int := adB (inF f k) (n + 1) k 1
def puB (f : Nat → Int) (n : Nat) (k : Int) : Bool := numB f n && (decide (0 ≤ k) && (decide (k ≤ (n : Int)) && numB (puF f n k.toNat) (n + 1)))
def puN (f : Nat → Int) (n : Nat) (k : Int) : Nat := if puB f n k = true then n + 1 else 0
theorem pu_f {f : Nat → Int} {n : Nat} {k : Int} (h : puB f n k = false) : puN f n k = 0 := by unfold puN; rw [h]; rfl
theorem pu_t {f : Nat → Int} {n : Nat} {k : Int} (h : puB f n k = true) : puN f n k = n + 1 := by unfold puN; rw [h]; rfl
theorem iL_ins (f : Nat → Int) (n k : Nat) (hk : k ≤ n) : (iL f k ++ [.int .i64 1]) ++ iL (fun i => f (k + i)) (n - k) = iL (inF f k) (n + 1) := by
  apply List.ext_getElem?
  intro i
  rcases Nat.lt_trichotomy i k with h | h | h
  · rw [List.getElem?_append_left (by simp [iL_len]; omega), List.getElem?_append_left (by rw [iL_len]; exact h), iL_get h, iL_get (by omega)]
    unfold inF; rw [if_pos h]
  · subst h
    rw [List.getElem?_append_left (by simp [iL_len]), List.getElem?_append_right (by rw [iL_len]; exact Nat.le_refl _), iL_len, iL_get (by omega), Nat.sub_self]
    unfold inF; rw [if_neg (Nat.lt_irrefl _), if_pos rfl]; rfl
  · rw [List.getElem?_append_right (by simp [iL_len]; omega), show (iL f k ++ [Value.int .i64 1]).length = k + 1 by simp [iL_len]]
    rcases Nat.lt_or_ge i (n + 1) with g | g
    · rw [iL_get (by omega), iL_get g]
      unfold inF
      rw [if_neg (by omega), if_neg (by omega), show k + (i - (k + 1)) = i - 1 by omega]
    · rw [List.getElem?_eq_none (by rw [iL_len]; omega), List.getElem?_eq_none (by rw [iL_len]; exact g)]
theorem puB_9 {f : Nat → Int} {k : Int} : puB f 9 k = false := by
  unfold puB
  have e : numB (puF f 9 k.toNat) (9 + 1) = false := by
    unfold numB
    have : inQ 3 9 ((9 + 1 : Nat) : Int) = false := by unfold inQ; rw [decide_eq_false (show ¬ (((9 + 1 : Nat) : Int) ≤ 9) by omega)]; simp
    rw [this]; rfl
  rw [e]; simp
theorem own_some (b off c n : Nat) (f : Nat → Int) (w : World) (hn : n ≤ 1048576) (hb : b < w.heap.size) (hcell : ∀ i, i < n → w.cell? ⟨b, off + i, none⟩ = some (.int .i64 (f i))) :
    Calls Try.prog 84 #[.slice (some ⟨b, off, none⟩) n c] w fun e w' => (∃ v, e = .returned v ∧ RowI w' w.heap.size v n f) ∧ Below w.heap.size w w' := by
  obtain ⟨i0, hi0, hz0, hz1, hz2⟩ := info_parts int_infoD
  have HI := Lib.hid (And.intro hi0 (And.intro hz0 (And.intro hz1 hz2)))
  have own1 : (w.alloc (.cells #[] 3)).ownsRow w.heap.size 3 1 (.slice (some ⟨w.heap.size, 0, none⟩) 0 0) 0 [] := World.ownsRow_lit w #[] 0 (Nat.le_refl _) (by decide) rfl
  have HO := Lib.hid own1
  have B1 := Lib.hid (Below.alloc (Below.refl w.heap.size w) (Nat.le_refl _) (.cells #[] 3))
  have HN : Hid (∀ j u, (iL f n)[j]? = some u → (w.alloc (.cells #[] 3)).cell? ((⟨b, off, none⟩ : Addr).add j) = some u) := Lib.hid (fun j u hu => by
    have hj : j < n := by
      have := (List.getElem?_eq_some_iff.1 hu).1
      rwa [iL_len] at this
    rw [iL_get hj] at hu
    injection hu with hu
    rw [add_plain, ← hu]
    exact ((bcell B1.out).1 _ _ hb).trans (hcell j hj))
  have hz := B1.out.size
  clear hcell own1 hi0 hz0 hz1 hz2
  go_enter Try.func84, Try.ntmps84
  go_wp2_with (at_builtin; refine wpList_append_own _ rfl (.tmp 3) (.tmp 4) 41 rfl w.heap.size 3 i0 (.int .i64 0) 1 8 Try.underlying41 HI.out.1 HI.out.2.1 HI.out.2.2.1 HI.out.2.2.2 rfl (by decide) (.slice (some ⟨w.heap.size, 0, none⟩) 0 0) 0 [] rfl HO.out ⟨b, off, none⟩ n c (iL f n) rfl (by rw [iL_len, Nat.mul_one]) HN.out (iL_one _ _) (by unfold maxLen; omega) (by omega) hz ?_)
  intro v2 w2 own2 hgr2 _
  have B2 := Lib.hid (B1.out.grown hgr2 B1.out.size (fun g hg => (World.ownsRow.lt HO.out g hg).1))
  have H2 : Hid (RowI w2 w.heap.size v2 n f) := Lib.hid (by unfold RowI; simpa using own2)
  clear own2 hgr2
  go_wp2_with fail
  go_ret
  exact ⟨⟨_, rfl, H2.out⟩, B2.out⟩
end Go.Proofs.Ytacabmbajadbgaa
