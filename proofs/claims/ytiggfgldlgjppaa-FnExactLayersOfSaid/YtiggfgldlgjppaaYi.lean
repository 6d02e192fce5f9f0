/- contracts: LayersOf on both sides; lists of lists of points that a call gives -/
import Derived.Test.YtiggfgldlgjppaaMD
import Derived.Test.YtiggfgldlgjppaaKq
namespace Go.Proofs.Ytiggfgldlgjppaa
open Go.ChangeShapes Go.WideShapes Go.ChangeAt Go.RowKit Go.Joins
set_option linter.unusedVariables false
set_option linter.unusedSimpArgs false
set_option maxRecDepth 4000
def RetQ (w : World) (LL : List (List (Int × Int))) (b : Bool) (e : Ending) (w' : World) : Prop :=
  ∃ A c, e = .returned (.tuple #[.slice A LL.length c, .bool b]) ∧ Below w.heap.size w w' ∧ RwQ w' w.heap.size w'.heap.size A LL.length (lenL LL) (ptL LL)
theorem rwq_of_rows {w : World} {base g n cap : Nat} {LL : List (List (Int × Int))} {cs : List Value} (h : RowsL w base (.slice (some ⟨g, 0, none⟩) n cap) LL cs) (hn : LL.length = n) (hg : base ≤ g) (hne : ∀ m ∈ LL, 0 < m.length) : RwQ w base w.heap.size (some ⟨g, 0, none⟩) n (lenL LL) (ptL LL) := by
  intro _
  subst hn
  have hlen : cs.length = LL.length := by have := h.1.1; omega
  have row : ∀ i, i < LL.length → ∃ m gi ci, LL[i]? = some m ∧ cs[i]? = some (.slice (some ⟨gi, 0, none⟩) m.length ci) ∧ base ≤ gi ∧ gi < w.heap.size ∧ gi ≠ g ∧ Rw w gi (gi + 1) (some ⟨gi, 0, none⟩) m.length (pt m) := fun i hi => by
    obtain ⟨m, hm⟩ : ∃ m, LL[i]? = some m := ⟨_, List.getElem?_eq_getElem hi⟩
    obtain ⟨u, h1, h2⟩ := h.2.1 i m hm
    obtain ⟨gi, ci, rfl, _, _, _⟩ := rd_own h2 (hne m (List.mem_of_getElem? hm))
    obtain ⟨A, c, hv, _, _, hr⟩ := rw_of_own h2
    injection hv with hv1 hv2 hv3
    subst hv1
    have hlt := World.ownsRow.lt h2 gi rfl
    refine ⟨m, gi, ci, hm, h1, hlt.1, hlt.2, ?_, rw_narrow hr⟩
    rcases own_diff h2 h.1 (by decide) with e | e
    · simp [Value.ownBlock] at e
    · simp [Value.ownBlock] at e
      exact e
  refine ⟨g, 0, fun i => (((cs[i]?).getD (.slice none 0 0)).ownBlock).getD 0, rfl, hg, (World.ownsRow.lt h.1 g rfl).2, fun i hi => ?_⟩
  obtain ⟨m, gi, ci, hm, h1, b1, b2, b3, hr⟩ := row i hi
  have hq : (((cs[i]?).getD (.slice none 0 0)).ownBlock).getD 0 = gi := by rw [h1]; rfl
  refine ⟨⟨?_, ?_, ?_, fun j hj => ?_⟩, some ⟨gi, 0, none⟩, ci, ?_, ?_⟩
  · simp only [hq]; exact b1
  · simp only [hq]; exact b2
  · simp only [hq]; exact b3
  · simp only [hq]
    obtain ⟨m', gj, cj, hm', h1', _⟩ := row j (by omega)
    have hqj : (((cs[j]?).getD (.slice none 0 0)).ownBlock).getD 0 = gj := by rw [h1']; rfl
    rw [hqj]
    have hp := List.pairwise_iff_getElem.1 h.2.2 j i (by omega) (by omega) hj
    rw [List.getElem?_eq_getElem (by omega)] at h1 h1'
    injection h1 with h1
    injection h1' with h1'
    rw [h1, h1'] at hp
    have := hp gj gi rfl rfl
    omega
  · rw [Nat.zero_add, World.ownsRow.cellAt h.1 i (by omega), h1]
    unfold lenL
    rw [hm]
    rfl
  · simp only [hq]
    unfold lenL ptL
    rw [hm]
    exact hr
theorem retq_of_LL {w w' : World} {LL : List (List (Int × Int))} {b : Bool} {e : Ending} (h : RetLL w LL b e w') (hne : ∀ m ∈ LL, 0 < m.length) : RetQ w LL b e w' := by
  obtain ⟨⟨v, cs, rfl, hr⟩, hb⟩ := h
  rcases own_val hr.1 with ⟨rfl, h0⟩ | ⟨g, cap, rfl, h1, h2, h3, h4⟩
  · refine ⟨none, 0, by rw [h0], hb, fun hn => absurd hn (by omega)⟩
  · exact ⟨_, _, rfl, hb, rwq_of_rows hr rfl h3 hne⟩
theorem retq_nil {w w' : World} (hb : Below w.heap.size w w') : RetQ w [] false (.returned (.tuple #[.slice none 0 0, .bool false])) w' := ⟨none, 0, rfl, hb, fun hn => absurd hn (by simp)⟩
noncomputable def LLv (l : List (Int × Int)) : List (List (Int × Int)) := if difB l = true then layers l else []
theorem sumN_bd {m : Nat → Nat} {k : Nat} : ∀ n, (∀ i, i < n → m i ≤ k) → sumN m n ≤ k * n
  | 0, _ => Nat.zero_le _
  | n + 1, h => by
    have h1 := sumN_bd n (fun i hi => h i (by omega))
    have h2 := h n (by omega)
    show sumN m n + m n ≤ k * (n + 1)
    rw [Nat.mul_succ]
    omega
theorem LLv_few (l : List (Int × Int)) : (LLv l).length ≤ 30 ∧ ∀ i, lenL (LLv l) i ≤ 30 := by
  unfold LLv
  split
  · rename_i h
    have hd := (dif_of h).few
    refine ⟨Nat.le_trans (lay_few _ _) hd.2, fun i => ?_⟩
    unfold lenL
    cases hm : (layers l)[i]? with
    | none => simp
    | some m => exact Nat.le_trans (lay_len _ _ m (List.mem_of_getElem? hm)) hd.2
  · exact ⟨by simp, fun i => by simp [lenL]⟩
theorem LLv_len (l : List (Int × Int)) : (LLv l).length ≤ 1048576 := Nat.le_trans (LLv_few l).1 (by omega)
theorem LLv_sum (l : List (Int × Int)) : sumN (lenL (LLv l)) (LLv l).length ≤ 1048576 := by
  have h := LLv_few l
  have h2 := sumN_bd (m := lenL (LLv l)) (k := 30) (LLv l).length (fun i _ => h.2 i)
  have h3 := Nat.mul_le_mul_left 30 h.1
  omega
theorem implLayersOf_any (A : Option Addr) (c : Nat) (l : List (Int × Int)) (w : World) (hn : l.length ≤ 1048576) (hcap : l.length ≤ c) (hc2 : c ≤ 9223372036854775807) (hR : Rd w w.heap.size A l) :
    Calls Try.prog 41 #[.slice A l.length c] w (RetQ w (LLv l) (difB l)) := by
  unfold LLv
  by_cases hd : Dif l
  · rw [difB_true hd]
    exact (layersOf_true A c l w hn hcap hc2 hd hR).mono fun e w' h => retq_of_LL h (lay_ne _ _ (fun _ => hd))
  · rw [difB_false hd]
    refine (layersOf_false A c l w hn hcap hc2 hd hR).mono fun e w' h => ?_
    obtain ⟨rfl, hb⟩ := h
    exact retq_nil hb
theorem specLayersOf_any (A : Option Addr) (c : Nat) (l : List (Int × Int)) (w : World) (hn : l.length ≤ 1048576) (hcap : l.length ≤ c) (hc2 : c ≤ 9223372036854775807) (hR : Rd w w.heap.size A l) :
    Calls Try.prog 40 #[.slice A l.length c] w (RetQ w (LLv l) (difB l)) := by
  have K := Lib.hid (bdGood_any A c l w hn hcap hc2 hR)
  unfold LLv
  by_cases hd : Dif l
  · rw [difB_true hd] at K ⊢
    show Calls _ _ _ _ (RetQ w (layers l) true)
    have HQ := Lib.hid (fun w1 (hb1 : Below w.heap.size w w1) e w' (h : RetLL w1 (layers l) true e w') => (show RetQ w (layers l) true e w' from retq_of_LL ⟨by
      obtain ⟨⟨v, cs, he, hr⟩, _⟩ := h
      exact ⟨v, cs, he, rowsL_base hr hb1.size⟩, hb1.trans (h.2.mono hb1.size)⟩ (lay_ne _ _ (fun _ => hd))))
    have K2 := Lib.hid (fun W (hb : Below w.heap.size w W) => bdLayers_any A c l.length l W rfl hd (rd_more (rd_below hR hb (Nat.le_refl _)) hb.size))
    clear hd hR
    go_enter Try.func40, Try.ntmps40
    go_wp2_with fail
    refine K.out.mono ?_; rintro e w1 ⟨rfl, hb1⟩
    go_wp2_with fail
    refine (K2.out w1 hb1).mono ?_; rintro e w2 ⟨⟨v, cs, rfl, hr⟩, hb2⟩
    have HR := Lib.hid hr
    clear hr
    go_wp2_with fail
    go_ret2
    exact HQ.out w1 hb1 _ _ ⟨⟨v, cs, rfl, HR.out⟩, hb2⟩
  · rw [difB_false hd] at K ⊢
    show Calls _ _ _ _ (RetQ w [] false)
    clear hd hR
    go_enter Try.func40, Try.ntmps40
    go_wp2_with fail
    refine K.out.mono ?_; rintro e w1 ⟨rfl, hb1⟩
    go_wp2_with fail
    go_ret2
    exact retq_nil hb1
end Go.Proofs.Ytiggfgldlgjppaa
