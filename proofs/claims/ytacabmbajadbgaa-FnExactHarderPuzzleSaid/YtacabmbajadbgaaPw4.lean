/- contracts: the clues without one: rows of clues of one's own; the model; slices.Grow and slices.Concat; the program -/
import Derived.Test.YtacabmbajadbgaaPw1
import Derived.Test.YtacabmbajadbgaaNbp
import Derived.Lib.AppendZerosOnto
import Derived.Deep.CutRange
import Derived.Deep.RegionWith
import Derived.Deep.DeepMust
namespace Go.Proofs.Ytacabmbajadbgaa
open Go.ChangeShapes Go.WideShapes Go.ChangeAt Go.RowKit Go.Joins
set_option linter.unusedVariables false
set_option linter.unusedSimpArgs false
set_option maxRecDepth 4000
/-- the numbers of n clues as cells -/
def fl4 (f : Nat → Int) (n : Nat) : List Value := (List.range (n * 4)).map fun i => Value.int .i64 (f i)
theorem fl4_len (f : Nat → Int) (n : Nat) : (fl4 f n).length = n * 4 := by unfold fl4; simp
theorem fl4_get {f : Nat → Int} {n i : Nat} (h : i < n * 4) : (fl4 f n)[i]? = some (.int .i64 (f i)) := by
  unfold fl4
  rw [List.getElem?_map, List.getElem?_range h]; rfl
theorem fl4_one (f : Nat → Int) (n : Nat) : ∀ u ∈ fl4 f n, u.oneCell' = true := by
  intro u hu
  unfold fl4 at hu
  rw [List.mem_map] at hu
  obtain ⟨i, _, rfl⟩ := hu
  rfl
theorem fl4_cells {w : World} {b off n : Nat} {f : Nat → Int} (h : ∀ i, i < n * 4 → w.cell? ⟨b, off + i, none⟩ = some (.int .i64 (f i))) :
    ∀ j u, (fl4 f n)[j]? = some u → w.cell? ((⟨b, off, none⟩ : Addr).add j) = some u := by
  intro j u hj
  rw [add_plain]
  have hlt : j < (fl4 f n).length := (List.getElem?_eq_some_iff.1 hj).1
  rw [fl4_len] at hlt
  rw [fl4_get hlt] at hj
  injection hj with hj
  rw [← hj]
  exact h j hlt
theorem fl4_app (f g h : Nat → Int) (n m : Nat) (h1 : ∀ i, i < n * 4 → h i = f i) (h2 : ∀ i, i < m * 4 → h (n * 4 + i) = g i) : fl4 h (n + m) = fl4 f n ++ fl4 g m := by
  apply List.ext_getElem?
  intro i
  rcases Nat.lt_or_ge i (n * 4) with hi | hi
  · rw [fl4_get (by omega), List.getElem?_append_left (by rw [fl4_len]; exact hi), fl4_get hi, h1 i hi]
  · rw [List.getElem?_append_right (by rw [fl4_len]; exact hi), fl4_len]
    rcases Nat.lt_or_ge i ((n + m) * 4) with hj | hj
    · rw [fl4_get hj, fl4_get (by omega)]
      have := h2 (i - n * 4) (by omega)
      rw [show n * 4 + (i - n * 4) = i by omega] at this
      rw [this]
    · rw [List.getElem?_eq_none (by rw [fl4_len]; exact hj), List.getElem?_eq_none (by rw [fl4_len]; omega)]
/-- a row of n clues of one's own -/
def RowC (w : World) (base : Nat) (v : Value) (n : Nat) (f : Nat → Int) : Prop := w.ownsRow base 38 4 v n (fl4 f n)
theorem rowC_below {w w' : World} {base B : Nat} {v : Value} {n : Nat} {f : Nat → Int} (h : RowC w base v n f) (hb : Below B w w') (hB : w.heap.size ≤ B) : RowC w' base v n f := by
  obtain ⟨h1, h2⟩ := h
  rcases h2 with h2 | ⟨g, cap, cur, hv, hg, hh, r⟩
  · exact ⟨h1, .inl h2⟩
  · have hl := World.ownsRow.lt (w := w) (base := base) (e := 38) (size := 4) (v := v) (n := n) (xs := fl4 f n) ⟨h1, .inr ⟨g, cap, cur, hv, hg, hh, r⟩⟩ g (by rw [hv]; rfl)
    exact ⟨h1, .inr ⟨g, cap, cur, hv, hg, (hb.block g (by omega)).trans hh, r⟩⟩
theorem rowC_rwi {w : World} {base : Nat} {v : Value} {n : Nat} {f : Nat → Int} (h : RowC w base v n f) : ∃ A c, v = .slice A n c ∧ n ≤ c ∧ c ≤ 9223372036854775807 ∧ RwI w base w.heap.size A (n * 4) f := by
  have h0 := h
  obtain ⟨h1, h2⟩ := h
  rcases h2 with ⟨hv, hn⟩ | ⟨g, cap, cur, hv, hg, hh, hc, hm, hs, ht⟩
  · exact ⟨none, 0, by rw [hv, hn], by omega, by omega, fun hp => absurd hp (by omega)⟩
  · subst hv
    refine ⟨some ⟨g, 0, none⟩, cap, rfl, hc, by unfold maxLen at hm; omega, fun hp => ⟨g, 0, rfl, hg, (World.ownsRow.lt h0 g rfl).2, fun i hi => ?_⟩⟩
    rw [Nat.zero_add]
    exact ⟨(World.ownsRow.cellAt h0 i (by omega)).trans (fl4_get hi), World.ownsRow.frozenAt h0 _⟩
/-- the clues without number k -/
def woF (f : Nat → Int) (k i : Nat) : Int := if i < k * 4 then f i else f (i + 4)
theorem wo_parts (f : Nat → Int) {n k : Nat} (hk : k < n) : fl4 (woF f k) (n - 1) = fl4 f k ++ fl4 (fun i => f ((k + 1) * 4 + i)) (n - (k + 1)) := by
  rw [show n - 1 = k + (n - (k + 1)) by omega]
  refine fl4_app _ _ _ _ _ (fun i hi => by unfold woF; rw [if_pos hi]) (fun i hi => ?_)
  unfold woF
  rw [if_neg (by omega)]
  congr 1
  omega
theorem puzB_wo {s : Int} {n : Nat} {f : Nat → Int} (h : puzB s n f = true) {k : Nat} (hk : k < n) : puzB s (n - 1) (woF f k) = true := by
  obtain ⟨h1, h2, h3, h4⟩ := puzB_t h
  have e : inQ 1 12 s = true := by unfold inQ; simp [h1, h2]
  have e2 : allC s (woF f k) (n - 1) = true := (allC_iff _ _ _).2 (fun i hi => by
    rcases Nat.lt_or_ge i k with g | g
    · have := h4 i (by omega)
      unfold woF
      rw [if_pos (by omega), if_pos (by omega), if_pos (by omega), if_pos (by omega)]
      exact this
    · have := h4 (i + 1) (by omega)
      unfold woF
      rw [if_neg (by omega), if_neg (by omega), if_neg (by omega), if_neg (by omega), show i * 4 + 4 = (i + 1) * 4 by omega, show i * 4 + 1 + 4 = (i + 1) * 4 + 1 by omega, show i * 4 + 2 + 4 = (i + 1) * 4 + 2 by omega, show i * 4 + 3 + 4 = (i + 1) * 4 + 3 by omega]
      exact this)
  unfold puzB
  rw [e, e2]
  simp
  omega
theorem clue_parts : ∃ i0, Try.prog.info? 38 = some i0 ∧ i0.zero = some (.agg #[.int .i64 0, .int .i64 0, .int .i64 0, .int .i64 0]) ∧ i0.size = 4 ∧ i0.bytes = 32 := by
  obtain ⟨i0, h1, h2, h3, h4⟩ := info_parts clue_info
  exact ⟨i0, h1, h2, h3, h4⟩
theorem wpOp_callC {P : Program} {ops : Array Oper} {i : Nat} {o : Oper} {a : Act} {K : Act → World → Prop} {Q : Exit → Act → World → Prop} {w : World} (f : FuncId) (args : Array Value) (hi : ops[i]? = some o) (hw : Region.wanted o (yielded ops a.tmps) = true)
    (h1 : (execOp a.eval o).run P w = .ok (.enter f args) w) (h2 : o.upon P a K Q (.ok (.enter f args) w)) : wpOp P ops Q i K a w :=
  wpOp_left hi hw (by unfold Oper.wp; rw [h1]; exact h2)
set_option maxHeartbeats 4000000 in
theorem pzWithout_any (bk off c n k : Nat) (f : Nat → Int) (w : World) (hk : k < n) (hn : n ≤ 6) (hnc : n ≤ c) (hc : c ≤ 9223372036854775807) (hR : RdI w w.heap.size (some ⟨bk, off, none⟩) (n * 4) f) :
    Calls Try.prog 56 #[.slice (some ⟨bk, off, none⟩) n c, .int .i64 (k : Int)] w fun e w' => (∃ v, e = .returned v ∧ RowC w' w.heap.size v (n - 1) (woF f k)) ∧ Below w.heap.size w w' := by
  obtain ⟨i0, hi0, hz0, hz1, hz2⟩ := clue_parts
  have HI := Lib.hid (And.intro hi0 (And.intro hz0 (And.intro hz1 hz2)))
  obtain ⟨b', o', e, hb, hcell⟩ := hR (by omega)
  injection e with e
  injection e with e1 e2
  subst e1 e2
  have HW := Lib.hid (wo_parts f hk)
  have hkk : IntKind.i64.wrap ((k : Int) + 1) = (k : Int) + 1 := IntWalk.i64_in _ (by omega)
  have q1 : (k : Int) ≤ (c : Int) := by omega
  have q2 : (k : Int) + 1 ≤ (n : Int) := by omega
  have q3 : 0 ≤ (k : Int) + 1 := by omega
  have q4 : k ≤ c := by omega
  have q5 : k + 1 ≤ n := by omega
  have q6 : (n : Int) ≤ (c : Int) := by omega
  obtain ⟨x2, hx2⟩ : ∃ x : Nat, x = if c = k + 1 then off else off + (k + 1) * 4 := ⟨_, rfl⟩
  have HC2 : Hid (∀ W, Below w.heap.size w W → ∀ j u, (fl4 (fun i => f ((k + 1) * 4 + i)) (n - (k + 1)))[j]? = some u → W.cell? ((⟨bk, x2, none⟩ : Addr).add j) = some u) := Lib.hid (fun W hW => fl4_cells (fun i hi => by
    have : ¬ c = k + 1 := by omega
    rw [hx2, if_neg this]
    have := (hW.cell (p := ⟨bk, off + ((k + 1) * 4 + i), none⟩) hb).trans (hcell ((k + 1) * 4 + i) (by omega))
    rw [← Nat.add_assoc] at this
    exact this))
  have HC1 : Hid (∀ W, Below w.heap.size w W → ∀ j u, (fl4 f k)[j]? = some u → W.cell? ((⟨bk, off, none⟩ : Addr).add j) = some u) := Lib.hid (fun W hW => fl4_cells (fun i hi => (hW.cell (p := ⟨bk, off + i, none⟩) hb).trans (hcell i (by omega))))
  clear hcell hi0 hz0 hz1 hz2
  by_cases hck : c = k + 1
  · rw [if_pos hck] at hx2
    subst hx2
    obtain rfl : n = k + 1 := by omega
    obtain rfl : c = k + 1 := hck
    have hkk1 : k + 1 - (k + 1) = 0 := by omega
    go_enter Try.func56, Try.ntmps56
    go_upto_region 1 with fail
    refine wp_region_any (by kernel_rfl) ?_
    change wpAny _ _ _ _ _ _ _ (World.drew _)
    have BB : Below w.heap.size w w.drew := (Below.refl _ _).drew
    generalize w.drew = W0 at BB ⊢
    refine wpAny_take (i := 1) (v := .slice (some ⟨bk, x2, none⟩) (k + 1) (k + 1)) rfl (by kernel_rfl) (by kernel_rfl) (by kernel_rfl) (fun _ _ _ h => h) (Or.inl ⟨by rfl, fun W => by first | rfl | (go_simp; try (intro h; omega))⟩) ?_
    (try simp only [List.getElem_toArray, List.getElem_cons_zero, List.getElem_cons_succ, Act.put, List.setIfInBounds_toArray, List.set_cons_zero, List.set_cons_succ])
    refine wpAny_take (i := 2) (v := .int .i64 (k : Int)) rfl (by kernel_rfl) (by kernel_rfl) (by kernel_rfl) (fun _ _ _ h => h) (Or.inl ⟨by rfl, fun W => by first | rfl | (go_simp; try (intro h; omega))⟩) ?_
    (try simp only [List.getElem_toArray, List.getElem_cons_zero, List.getElem_cons_succ, Act.put, List.setIfInBounds_toArray, List.set_cons_zero, List.set_cons_succ])
    refine wpAny_take (i := 3) (v := .slice (some ⟨bk, x2, none⟩) k (k + 1)) rfl (by kernel_rfl) (by kernel_rfl) (by kernel_rfl) (fun _ _ _ h => h) (Or.inl ⟨by rfl, fun W => by first | rfl | (go_simp; try (intro h; omega))⟩) ?_
    (try simp only [List.getElem_toArray, List.getElem_cons_zero, List.getElem_cons_succ, Act.put, List.setIfInBounds_toArray, List.set_cons_zero, List.set_cons_succ])
    refine wpAny_take (i := 5) (v := .slice (some ⟨bk, x2, none⟩) (k + 1) (k + 1)) rfl (by kernel_rfl) (by kernel_rfl) (by kernel_rfl) (fun _ _ _ h => h) (Or.inl ⟨by rfl, fun W => by first | rfl | (go_simp; try (intro h; omega))⟩) ?_
    (try simp only [List.getElem_toArray, List.getElem_cons_zero, List.getElem_cons_succ, Act.put, List.setIfInBounds_toArray, List.set_cons_zero, List.set_cons_succ])
    refine wpAny_take (i := 6) (v := .int .i64 (k : Int)) rfl (by kernel_rfl) (by kernel_rfl) (by kernel_rfl) (fun _ _ _ h => h) (Or.inl ⟨by rfl, fun W => by first | rfl | (go_simp; try (intro h; omega))⟩) ?_
    (try simp only [List.getElem_toArray, List.getElem_cons_zero, List.getElem_cons_succ, Act.put, List.setIfInBounds_toArray, List.set_cons_zero, List.set_cons_succ])
    refine wpAny_take (i := 7) (v := .int .i64 ((k : Int) + 1)) rfl (by kernel_rfl) (by kernel_rfl) (by kernel_rfl) (fun _ _ _ h => h) (Or.inl ⟨by rfl, fun W => by first | rfl | (go_simp; try (intro h; omega))⟩) ?_
    (try simp only [List.getElem_toArray, List.getElem_cons_zero, List.getElem_cons_succ, Act.put, List.setIfInBounds_toArray, List.set_cons_zero, List.set_cons_succ])
    refine wpAny_take (i := 8) (v := .slice (some ⟨bk, x2, none⟩) 0 0) rfl (by kernel_rfl) (by kernel_rfl) (by kernel_rfl) (fun _ _ _ h => h) (Or.inl ⟨by rfl, fun W => by first | rfl | (go_simp; try (intro h; omega))⟩) ?_
    (try simp only [List.getElem_toArray, List.getElem_cons_zero, List.getElem_cons_succ, Act.put, List.setIfInBounds_toArray, List.set_cons_zero, List.set_cons_succ])
    refine wpAny_all (rs := [0]) (by kernel_rfl) (by simp) (fun i hi => ?_)
    obtain rfl : i = 0 := by simpa using hi
    refine wpOp_val (v := .slice (some ⟨W0.heap.size, 0, none⟩) 0 0) (w' := W0.alloc (.cells #[] 38)) rfl (by rfl) (by go_simp) ?_
    have own1 : (W0.alloc (.cells #[] 38)).ownsRow w.heap.size 38 4 (.slice (some ⟨W0.heap.size, 0, none⟩) 0 0) 0 [] := World.ownsRow_lit W0 #[] 0 BB.size (by decide) rfl
    have B1 := Below.alloc BB BB.size (.cells #[] 38)
    (try simp only [List.getElem_toArray, List.getElem_cons_zero, List.getElem_cons_succ, Act.put, List.setIfInBounds_toArray, List.set_cons_zero, List.set_cons_succ])
    generalize hW1 : W0.alloc (.cells #[] 38) = W1 at own1 B1 ⊢
    obtain ⟨v1, hv1⟩ : ∃ v, v = Value.slice (some ⟨W0.heap.size, 0, none⟩) 0 0 := ⟨_, rfl⟩
    rw [← hv1] at own1 ⊢
    clear hW1 hv1
    refine wpAny_all (rs := [4]) (by kernel_rfl) (by simp) (fun i hi => ?_)
    obtain rfl : i = 4 := by simpa using hi
    refine wpOp_left rfl (by rfl) (wp_append_own _ (.tmp 5) (.tmp 8) 26 rfl w.heap.size 38 i0 (.agg #[.int .i64 0, .int .i64 0, .int .i64 0, .int .i64 0]) 4 32 Try.underlying26 HI.out.1 HI.out.2.1 HI.out.2.2.1 HI.out.2.2.2 rfl (by decide) v1 0 [] rfl own1 ⟨bk, x2, none⟩ k (k + 1) (fl4 f k) rfl (fl4_len _ _) (HC1.out _ B1) (fl4_one _ _) (by unfold maxLen; omega) (by omega) B1.size ?_)
    intro v2 W2 own2 hgr2 _
    have B2 := B1.grown hgr2 B1.size (fun g hg => (World.ownsRow.lt own1 g hg).1)
    (try simp only [List.getElem_toArray, List.getElem_cons_zero, List.getElem_cons_succ, Act.put, List.setIfInBounds_toArray, List.set_cons_zero, List.set_cons_succ])
    refine wpAny_all (rs := [9]) (by kernel_rfl) (by simp) (fun i hi => ?_)
    obtain rfl : i = 9 := by simpa using hi
    refine wpOp_left rfl (by rfl) (wp_append_own _ (.tmp 9) (.tmp 13) 26 rfl w.heap.size 38 i0 (.agg #[.int .i64 0, .int .i64 0, .int .i64 0, .int .i64 0]) 4 32 Try.underlying26 HI.out.1 HI.out.2.1 HI.out.2.2.1 HI.out.2.2.2 rfl (by decide) v2 (0 + k) ([] ++ fl4 f k) rfl own2 ⟨bk, x2, none⟩ 0 0 (fl4 (fun i => f ((k + 1) * 4 + i)) (k + 1 - (k + 1))) rfl (by rw [fl4_len, hkk1]) (HC2.out _ B2) (fl4_one _ _) (by unfold maxLen; omega) (by omega) B2.size ?_)
    intro v3 W3 own3 hgr3 _
    have B3 := B2.grown hgr3 B2.size (fun g hg => (World.ownsRow.lt own2 g hg).1)
    (try simp only [List.getElem_toArray, List.getElem_cons_zero, List.getElem_cons_succ, Act.put, List.setIfInBounds_toArray, List.set_cons_zero, List.set_cons_succ])
    refine wpAny_all (rs := [10]) (by kernel_rfl) (by simp) (fun i hi => ?_)
    obtain rfl : i = 10 := by simpa using hi
    refine wpOp_val (v := v3) (w' := W3) rfl (by rfl) (by first | rfl | go_simp) ?_
    (try simp only [List.getElem_toArray, List.getElem_cons_zero, List.getElem_cons_succ, Act.put, List.setIfInBounds_toArray, List.set_cons_zero, List.set_cons_succ])
    refine wpAny_done (by kernel_rfl) ?_ _
    go_wp2_with fail
    go_ret
    exact ⟨⟨_, rfl, by have h := HW.out; rw [Nat.add_sub_cancel] at h; have o := own3; rw [show 0 + k + 0 = k from (by omega)] at o; unfold RowC; rw [h]; exact o⟩, B3⟩
  · rw [if_neg hck] at hx2
    subst hx2
    have hck2 : k + 1 ≤ c := by omega
    go_enter Try.func56, Try.ntmps56
    go_upto_region 1 with fail
    refine wp_region_any (by kernel_rfl) ?_
    change wpAny _ _ _ _ _ _ _ (World.drew _)
    have BB : Below w.heap.size w w.drew := (Below.refl _ _).drew
    generalize w.drew = W0 at BB ⊢
    refine wpAny_take (i := 1) (v := .slice (some ⟨bk, off, none⟩) n c) rfl (by kernel_rfl) (by kernel_rfl) (by kernel_rfl) (fun _ _ _ h => h) (Or.inl ⟨by rfl, fun W => by first | rfl | (go_simp; try (intro h; omega))⟩) ?_
    (try simp only [List.getElem_toArray, List.getElem_cons_zero, List.getElem_cons_succ, Act.put, List.setIfInBounds_toArray, List.set_cons_zero, List.set_cons_succ])
    refine wpAny_take (i := 2) (v := .int .i64 (k : Int)) rfl (by kernel_rfl) (by kernel_rfl) (by kernel_rfl) (fun _ _ _ h => h) (Or.inl ⟨by rfl, fun W => by first | rfl | (go_simp; try (intro h; omega))⟩) ?_
    (try simp only [List.getElem_toArray, List.getElem_cons_zero, List.getElem_cons_succ, Act.put, List.setIfInBounds_toArray, List.set_cons_zero, List.set_cons_succ])
    refine wpAny_take (i := 3) (v := .slice (some ⟨bk, off, none⟩) k c) rfl (by kernel_rfl) (by kernel_rfl) (by kernel_rfl) (fun _ _ _ h => h) (Or.inl ⟨by rfl, fun W => by first | rfl | (go_simp; try (intro h; omega))⟩) ?_
    (try simp only [List.getElem_toArray, List.getElem_cons_zero, List.getElem_cons_succ, Act.put, List.setIfInBounds_toArray, List.set_cons_zero, List.set_cons_succ])
    refine wpAny_take (i := 5) (v := .slice (some ⟨bk, off, none⟩) n c) rfl (by kernel_rfl) (by kernel_rfl) (by kernel_rfl) (fun _ _ _ h => h) (Or.inl ⟨by rfl, fun W => by first | rfl | (go_simp; try (intro h; omega))⟩) ?_
    (try simp only [List.getElem_toArray, List.getElem_cons_zero, List.getElem_cons_succ, Act.put, List.setIfInBounds_toArray, List.set_cons_zero, List.set_cons_succ])
    refine wpAny_take (i := 6) (v := .int .i64 (k : Int)) rfl (by kernel_rfl) (by kernel_rfl) (by kernel_rfl) (fun _ _ _ h => h) (Or.inl ⟨by rfl, fun W => by first | rfl | (go_simp; try (intro h; omega))⟩) ?_
    (try simp only [List.getElem_toArray, List.getElem_cons_zero, List.getElem_cons_succ, Act.put, List.setIfInBounds_toArray, List.set_cons_zero, List.set_cons_succ])
    refine wpAny_take (i := 7) (v := .int .i64 ((k : Int) + 1)) rfl (by kernel_rfl) (by kernel_rfl) (by kernel_rfl) (fun _ _ _ h => h) (Or.inl ⟨by rfl, fun W => by first | rfl | (go_simp; try (intro h; omega))⟩) ?_
    (try simp only [List.getElem_toArray, List.getElem_cons_zero, List.getElem_cons_succ, Act.put, List.setIfInBounds_toArray, List.set_cons_zero, List.set_cons_succ])
    refine wpAny_take (i := 8) (v := .slice (some ⟨bk, off + (k + 1) * 4, none⟩) (n - (k + 1)) (c - (k + 1))) rfl (by kernel_rfl) (by kernel_rfl) (by kernel_rfl) (fun _ _ _ h => h) (Or.inl ⟨by rfl, fun W => by first | rfl | (go_simp; try (intro h; omega))⟩) ?_
    (try simp only [List.getElem_toArray, List.getElem_cons_zero, List.getElem_cons_succ, Act.put, List.setIfInBounds_toArray, List.set_cons_zero, List.set_cons_succ])
    refine wpAny_all (rs := [0]) (by kernel_rfl) (by simp) (fun i hi => ?_)
    obtain rfl : i = 0 := by simpa using hi
    refine wpOp_val (v := .slice (some ⟨W0.heap.size, 0, none⟩) 0 0) (w' := W0.alloc (.cells #[] 38)) rfl (by rfl) (by go_simp) ?_
    have own1 : (W0.alloc (.cells #[] 38)).ownsRow w.heap.size 38 4 (.slice (some ⟨W0.heap.size, 0, none⟩) 0 0) 0 [] := World.ownsRow_lit W0 #[] 0 BB.size (by decide) rfl
    have B1 := Below.alloc BB BB.size (.cells #[] 38)
    (try simp only [List.getElem_toArray, List.getElem_cons_zero, List.getElem_cons_succ, Act.put, List.setIfInBounds_toArray, List.set_cons_zero, List.set_cons_succ])
    generalize hW1 : W0.alloc (.cells #[] 38) = W1 at own1 B1 ⊢
    obtain ⟨v1, hv1⟩ : ∃ v, v = Value.slice (some ⟨W0.heap.size, 0, none⟩) 0 0 := ⟨_, rfl⟩
    rw [← hv1] at own1 ⊢
    clear hW1 hv1
    refine wpAny_all (rs := [4]) (by kernel_rfl) (by simp) (fun i hi => ?_)
    obtain rfl : i = 4 := by simpa using hi
    refine wpOp_left rfl (by rfl) (wp_append_own _ (.tmp 5) (.tmp 8) 26 rfl w.heap.size 38 i0 (.agg #[.int .i64 0, .int .i64 0, .int .i64 0, .int .i64 0]) 4 32 Try.underlying26 HI.out.1 HI.out.2.1 HI.out.2.2.1 HI.out.2.2.2 rfl (by decide) v1 0 [] rfl own1 ⟨bk, off, none⟩ k c (fl4 f k) rfl (fl4_len _ _) (HC1.out _ B1) (fl4_one _ _) (by unfold maxLen; omega) (by omega) B1.size ?_)
    intro v2 W2 own2 hgr2 _
    have B2 := B1.grown hgr2 B1.size (fun g hg => (World.ownsRow.lt own1 g hg).1)
    (try simp only [List.getElem_toArray, List.getElem_cons_zero, List.getElem_cons_succ, Act.put, List.setIfInBounds_toArray, List.set_cons_zero, List.set_cons_succ])
    refine wpAny_all (rs := [9]) (by kernel_rfl) (by simp) (fun i hi => ?_)
    obtain rfl : i = 9 := by simpa using hi
    refine wpOp_left rfl (by rfl) (wp_append_own _ (.tmp 9) (.tmp 13) 26 rfl w.heap.size 38 i0 (.agg #[.int .i64 0, .int .i64 0, .int .i64 0, .int .i64 0]) 4 32 Try.underlying26 HI.out.1 HI.out.2.1 HI.out.2.2.1 HI.out.2.2.2 rfl (by decide) v2 (0 + k) ([] ++ fl4 f k) rfl own2 ⟨bk, off + (k + 1) * 4, none⟩ (n - (k + 1)) (c - (k + 1)) (fl4 (fun i => f ((k + 1) * 4 + i)) (n - (k + 1))) rfl (by rw [fl4_len]) (HC2.out _ B2) (fl4_one _ _) (by unfold maxLen; omega) (by omega) B2.size ?_)
    intro v3 W3 own3 hgr3 _
    have B3 := B2.grown hgr3 B2.size (fun g hg => (World.ownsRow.lt own2 g hg).1)
    (try simp only [List.getElem_toArray, List.getElem_cons_zero, List.getElem_cons_succ, Act.put, List.setIfInBounds_toArray, List.set_cons_zero, List.set_cons_succ])
    refine wpAny_all (rs := [10]) (by kernel_rfl) (by simp) (fun i hi => ?_)
    obtain rfl : i = 10 := by simpa using hi
    refine wpOp_val (v := v3) (w' := W3) rfl (by rfl) (by first | rfl | go_simp) ?_
    (try simp only [List.getElem_toArray, List.getElem_cons_zero, List.getElem_cons_succ, Act.put, List.setIfInBounds_toArray, List.set_cons_zero, List.set_cons_succ])
    refine wpAny_done (by kernel_rfl) ?_ _
    go_wp2_with fail
    go_ret
    exact ⟨⟨_, rfl, by unfold RowC; rw [HW.out, show n - 1 = 0 + k + (n - (k + 1)) by omega]; exact own3⟩, B3⟩
end Go.Proofs.Ytacabmbajadbgaa
