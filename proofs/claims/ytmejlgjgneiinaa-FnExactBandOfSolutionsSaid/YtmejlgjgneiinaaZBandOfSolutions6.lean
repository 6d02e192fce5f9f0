/- joined: Bk Bl Bm PzG Km Lx Kh Lw -/
import Derived.Test.YtmejlgjgneiinaaZBandOfSolutions5
import Derived.Maps.AppendAt
import Derived.LoopTactic
/- contract: the next corner, the program's side -/
namespace Go.Proofs.Ytmejlgjgneiinaa
open Go.ChangeShapes Go.WideShapes Go.ChangeAt Go.RowKit Go.Joins
set_option linter.unusedVariables false
set_option linter.unusedSimpArgs false
set_option maxRecDepth 4000
theorem fold_step {l : List (Int × Int)} {k : Nat} (f a : Int × Int) (h : k < l.length) : (l.take (k + 1)).foldl (MH.stepN f) a = MH.stepN f ((l.take k).foldl (MH.stepN f) a) (vx l k) := by
  rw [List.take_add_one, vx_get h, List.foldl_append]
  rfl
theorem step_yes {f n p : Int × Int} (h : MH.tw f n p < 0 ∨ (MH.tw f n p = 0 ∧ MH.sq n f < MH.sq p f)) : MH.stepN f n p = p := by unfold MH.stepN; rw [if_pos h]
theorem step_no {f n p : Int × Int} (h : ¬ (MH.tw f n p < 0 ∨ (MH.tw f n p = 0 ∧ MH.sq n f < MH.sq p f))) : MH.stepN f n p = n := by unfold MH.stepN; rw [if_neg h]
theorem step_or {f n p : Int × Int} : MH.stepN f n p = p ∨ MH.stepN f n p = n := by unfold MH.stepN; split <;> simp
theorem isPg_bd {p : Int × Int} (h : isPg p = true) : (-40 ≤ p.1 ∧ p.1 ≤ 40) ∧ (-40 ≤ p.2 ∧ p.2 ≤ 40) := by unfold isPg isPegB at h; simp at h; omega
/-- how memory stands while the next corner is sought: from, the result, the next one -/
structure NcS (w W : World) (f1 f2 n1 n2 : Int) : Prop where
  bel : Below w.heap.size w W
  size : w.heap.size + 2 < W.heap.size
  c30 : W.cell? ⟨w.heap.size, 0, none⟩ = some (.int .i64 f1)
  c31 : W.cell? ⟨w.heap.size, 1, none⟩ = some (.int .i64 f2)
  c40 : ∃ u, W.cell? ⟨w.heap.size + 1, 0, none⟩ = some u
  c41 : ∃ u, W.cell? ⟨w.heap.size + 1, 1, none⟩ = some u
  c50 : W.cell? ⟨w.heap.size + 2, 0, none⟩ = some (.int .i64 n1)
  c51 : W.cell? ⟨w.heap.size + 2, 1, none⟩ = some (.int .i64 n2)
  f4 : ∀ o, W.frozen? ⟨w.heap.size + 1, o, none⟩ = false
  f5 : ∀ o, W.frozen? ⟨w.heap.size + 2, o, none⟩ = false
theorem NcS.up {w W W' : World} {f1 f2 n1 n2 : Int} (h : NcS w W f1 f2 n1 n2) (hb : Below W.heap.size W W') : NcS w W' f1 f2 n1 n2 := by
  obtain ⟨hc, hf⟩ := bcell hb
  have hz := h.size
  obtain ⟨u, hu⟩ := h.c40
  obtain ⟨v, hv⟩ := h.c41
  exact ⟨h.bel.trans (hb.mono h.bel.size), Nat.lt_of_lt_of_le hz hb.size, (hc _ _ (by omega)).trans h.c30, (hc _ _ (by omega)).trans h.c31, ⟨u, (hc _ _ (by omega)).trans hu⟩, ⟨v, (hc _ _ (by omega)).trans hv⟩, (hc _ _ (by omega)).trans h.c50, (hc _ _ (by omega)).trans h.c51, fun o => (hf _ _ (by omega)).trans (h.f4 o), fun o => (hf _ _ (by omega)).trans (h.f5 o)⟩
theorem NcS.store {w W : World} {f1 f2 n1 n2 : Int} (h : NcS w W f1 f2 n1 n2) (p1 p2 : Int) : NcS w ((W.setCell ⟨w.heap.size + 2, 0, none⟩ (.int .i64 p1)).setCell ⟨w.heap.size + 2, 1, none⟩ (.int .i64 p2)) f1 f2 p1 p2 := by
  have ne : ∀ (V : World) (b b' o o' : Nat) (v : Value), ¬ (b = b' ∧ o = o') → (V.setCell ⟨b, o, none⟩ v).cell? ⟨b', o', none⟩ = V.cell? ⟨b', o', none⟩ := fun V b b' o o' v h => World.cell?_setCell_other V _ _ _ (fun e => h (by injection e with e1 e2; exact ⟨e1, e2⟩))
  have sm : ∀ (V : World) (b o : Nat) (u v : Value), V.cell? ⟨b, o, none⟩ = some u → (V.setCell ⟨b, o, none⟩ v).cell? ⟨b, o, none⟩ = some v := fun V b o u v h => World.cell?_setCell_same V _ _ h
  have hz := h.size
  obtain ⟨u, hu⟩ := h.c40
  obtain ⟨v, hv⟩ := h.c41
  refine ⟨(h.bel.setCell (p := ⟨w.heap.size + 2, 0, none⟩) (by show w.heap.size ≤ w.heap.size + 2; omega) _).setCell (p := ⟨w.heap.size + 2, 1, none⟩) (by show w.heap.size ≤ w.heap.size + 2; omega) _, by simpa [World.setCell] using hz, ?_, ?_, ⟨u, ?_⟩, ⟨v, ?_⟩, ?_, ?_, fun o => ?_, fun o => ?_⟩
  · rw [ne _ _ _ _ _ _ (by omega), ne _ _ _ _ _ _ (by omega)]; exact h.c30
  · rw [ne _ _ _ _ _ _ (by omega), ne _ _ _ _ _ _ (by omega)]; exact h.c31
  · rw [ne _ _ _ _ _ _ (by omega), ne _ _ _ _ _ _ (by omega)]; exact hu
  · rw [ne _ _ _ _ _ _ (by omega), ne _ _ _ _ _ _ (by omega)]; exact hv
  · rw [ne _ _ _ _ _ _ (by omega)]; exact sm _ _ _ _ _ h.c50
  · exact sm _ _ _ _ _ ((ne _ _ _ _ _ _ (by omega)).trans h.c51)
  · rw [World.frozen?_setCell, World.frozen?_setCell]; exact h.f4 o
  · rw [World.frozen?_setCell, World.frozen?_setCell]; exact h.f5 o
set_option maxHeartbeats 16000000 in
theorem nextCorner_any (A : Option Addr) (c n : Nat) (l : List (Int × Int)) (f1 f2 : Int) (w : World) (hln : l.length = n) (hn : n ≤ 169) (hpg : ∀ x ∈ l, isPg x = true) (hf : isPg (f1, f2) = true) (hR : Rd w w.heap.size A l) :
    Calls Try.prog 33 #[.slice A n c, .agg #[.int .i64 f1, .int .i64 f2]] w fun e w' => e = .returned (.agg #[.int .i64 (l.foldl (MH.stepN (f1, f2)) (f1, f2)).1, .int .i64 (l.foldl (MH.stepN (f1, f2)) (f1, f2)).2]) ∧ Below w.heap.size w w' := by
  have HN := Lib.hid hln
  have HC : Hid (∀ W, Below w.heap.size w W → ∀ i, i < n → ∃ b off, A = some ⟨b, off, none⟩ ∧ b < w.heap.size ∧ W.cell? ⟨b, off + i * 2, none⟩ = some (.int .i64 (vx l i).1) ∧ W.cell? ⟨b, off + i * 2 + 1, none⟩ = some (.int .i64 (vx l i).2)) := Lib.hid (fun W hW i hi => by
    obtain ⟨b, off, e, hb, hc⟩ := hR (by omega)
    obtain ⟨h1, h2⟩ := hc i _ (vx_get (by omega))
    exact ⟨b, off, e, hb, (hW.cell (p := ⟨b, off + i * 2, none⟩) hb).trans h1, (hW.cell (p := ⟨b, off + i * 2 + 1, none⟩) hb).trans h2⟩)
  have HP : Hid (∀ i, i < n → isPg (vx l i) = true) := Lib.hid (fun i hi => hpg _ (List.mem_of_getElem? (vx_get (by omega))))
  have HF := Lib.hid hf
  clear hR hln hpg hf
  go_enter Try.func33, Try.ntmps33
  go_wp2_with fail
  obtain ⟨W1, hW1⟩ : ∃ W1, W1 = (((w.alloc (.cells #[.int .i64 f1, .int .i64 f2] 45)).alloc (.cells #[.int .i64 0, .int .i64 0] 45)).alloc (.cells #[.int .i64 f1, .int .i64 f2] 45)) := ⟨_, rfl⟩
  rw [← hW1]
  have yW10_0 : W1.cell? ⟨w.heap.size, 0, none⟩ = some (.int .i64 f1) := by rw [hW1]; go_simp
  have yW10_1 : W1.cell? ⟨w.heap.size, 1, none⟩ = some (.int .i64 f2) := by rw [hW1]; go_simp
  have fW10 : ∀ o, W1.frozen? ⟨w.heap.size, o, none⟩ = false := by intro o; rw [hW1]; (repeat rw [frozen?_alloc_cells]); simp [World.frozen?]
  have zW10 : w.heap.size < W1.heap.size := by rw [hW1]; simp <;> omega
  have yW11_0 : W1.cell? ⟨w.heap.size + 1, 0, none⟩ = some (.int .i64 0) := by rw [hW1]; go_simp
  have yW11_1 : W1.cell? ⟨w.heap.size + 1, 1, none⟩ = some (.int .i64 0) := by rw [hW1]; go_simp
  have fW11 : ∀ o, W1.frozen? ⟨w.heap.size + 1, o, none⟩ = false := by intro o; rw [hW1]; (repeat rw [frozen?_alloc_cells]); simp [World.frozen?]
  have zW11 : w.heap.size + 1 < W1.heap.size := by rw [hW1]; simp <;> omega
  have yW12_0 : W1.cell? ⟨w.heap.size + 2, 0, none⟩ = some (.int .i64 f1) := by rw [hW1]; go_simp
  have yW12_1 : W1.cell? ⟨w.heap.size + 2, 1, none⟩ = some (.int .i64 f2) := by rw [hW1]; go_simp
  have fW12 : ∀ o, W1.frozen? ⟨w.heap.size + 2, o, none⟩ = false := by intro o; rw [hW1]; (repeat rw [frozen?_alloc_cells]); simp [World.frozen?]
  have zW12 : w.heap.size + 2 < W1.heap.size := by rw [hW1]; simp <;> omega
  have BW1 : Below w.heap.size w W1 := by rw [hW1]; exact (Below.alloc (Below.alloc (Below.alloc (Below.refl _ _) (by simp <;> omega) _) (by simp <;> omega) _) (by simp <;> omega) _)
  have eW1 : Hid (W1.heap.size = w.heap.size + 3) := Lib.hid (by rw [hW1]; simp)
  clear hW1
  have HS1 : NcS w W1 f1 f2 f1 f2 := ⟨BW1, zW12, yW10_0, yW10_1, ⟨_, yW11_0⟩, ⟨_, yW11_1⟩, yW12_0, yW12_1, fW11, fW12⟩
  go_loopg [12] n (fun g i wr => ∃ (k : Nat) (n1 n2 : Int), k ≤ n ∧ g = n - k ∧ i = .int .i64 k ∧ Hid ((l.take k).foldl (MH.stepN (f1, f2)) (f1, f2) = (n1, n2)) ∧ Hid (isPg (n1, n2) = true) ∧ Hid (NcS w wr f1 f2 n1 n2))
  case atStart => exact ⟨0, f1, f2, Nat.zero_le _, rfl, rfl, Lib.hid rfl, HF, Lib.hid HS1⟩
  case round =>
    obtain ⟨k, n1, n2, hk, hg, rfl, hfo, hnp, hS⟩ := hrel
    rename World => wo
    have HGK := Lib.hid hg
    clear hg yW10_0 yW10_1 fW10 zW10 yW11_0 yW11_1 fW11 zW11 yW12_0 yW12_1 fW12 zW12 BW1 eW1 HS1
    by_cases hlt : k < n
    · obtain ⟨b, off, hA, hb, x0, x1⟩ := HC.out wo hS.out.bel k hlt
      subst hA
      have hpp := HP.out k hlt
      have HFS := Lib.hid (fold_step (l := l) (k := k) (f1, f2) (f1, f2) (by rw [HN.out]; exact hlt))
      obtain ⟨p1, p2, hpe⟩ : ∃ p1 p2, vx l k = (p1, p2) := ⟨_, _, rfl⟩
      rw [hpe] at x0 x1 hpp HFS
      rw [hfo.out] at HFS
      clear hpe
      have bp := isPg_bd hpp
      have bn := isPg_bd hnp.out
      have bf := isPg_bd HF.out
      simp only at bp bn bf
      have KT := Lib.hid (fun W => twiceThree_any f1 f2 n1 n2 p1 p2 W (by unfold Sz; omega) (by unfold Sz; omega) (by unfold Sz; omega))
      have KM1 := Lib.hid (fun W => minus_any p1 p2 f1 f2 W (by unfold Mid; omega) (by unfold Mid; omega) (by unfold Mid; omega) (by unfold Mid; omega))
      have KM2 := Lib.hid (fun W => minus_any n1 n2 f1 f2 W (by unfold Mid; omega) (by unfold Mid; omega) (by unfold Mid; omega) (by unfold Mid; omega))
      have KS1 := Lib.hid (fun W => square_any (p1 - f1) (p2 - f2) W (by omega) (by omega))
      have KS2 := Lib.hid (fun W => square_any (n1 - f1) (n2 - f2) W (by omega) (by omega))
      have HPP := Lib.hid hpp
      have HTW : Hid (MH.tw (f1, f2) (n1, n2) (p1, p2) = twI f1 f2 n1 n2 p1 p2) := Lib.hid rfl
      have HSP : Hid (MH.sq (p1, p2) (f1, f2) = (p1 - f1) * (p1 - f1) + (p2 - f2) * (p2 - f2)) := Lib.hid rfl
      have HSN : Hid (MH.sq (n1, n2) (f1, f2) = (n1 - f1) * (n1 - f1) + (n2 - f2) * (n2 - f2)) := Lib.hid rfl
      clear hpp bp bn bf
      generalize twI f1 f2 n1 n2 p1 p2 = tw at *
      generalize (p1 - f1) * (p1 - f1) + (p2 - f2) * (p2 - f2) = sp at *
      generalize (n1 - f1) * (n1 - f1) + (n2 - f2) * (n2 - f2) = sn at *
      generalize p1 - f1 = pf1 at *
      generalize p2 - f2 = pf2 at *
      generalize n1 - f1 = nf1 at *
      generalize n2 - f2 = nf2 at *
      have hSz := hS.out.size
      obtain ⟨q30, q31, q50, q51⟩ : wo.cell? ⟨w.heap.size, 0, none⟩ = some (.int .i64 f1) ∧ wo.cell? ⟨w.heap.size, 1, none⟩ = some (.int .i64 f2) ∧ wo.cell? ⟨w.heap.size + 2, 0, none⟩ = some (.int .i64 n1) ∧ wo.cell? ⟨w.heap.size + 2, 1, none⟩ = some (.int .i64 n2) := ⟨hS.out.c30, hS.out.c31, hS.out.c50, hS.out.c51⟩
      have hz0 : w.heap.size < wo.heap.size := by omega
      go_wp2_with fail
      refine (KT.out _).mono ?_; rintro e w2 ⟨rfl, hb2⟩
      have hb1 : Below wo.heap.size wo (wo.alloc (.cells #[.int .i64 p1, .int .i64 p2] 45)) := (Below.refl _ _).alloc (Nat.le_refl _) _
      have y0 : w2.cell? ⟨wo.heap.size, 0, none⟩ = some (.int .i64 p1) := ((bcell hb2).1 _ _ (by simp)).trans (by go_simp)
      have y1 : w2.cell? ⟨wo.heap.size, 1, none⟩ = some (.int .i64 p2) := ((bcell hb2).1 _ _ (by simp)).trans (by go_simp)
      have zy : wo.heap.size < w2.heap.size := by (have := hb2.size; simp at this; omega)
      have S2 := (hS.out.up hb1).up hb2
      have B2 := hb1.trans (hb2.mono hb1.size)
      have hz2 := B2.size
      obtain ⟨c30, c31, c50, c51⟩ : w2.cell? ⟨w.heap.size, 0, none⟩ = some (.int .i64 f1) ∧ w2.cell? ⟨w.heap.size, 1, none⟩ = some (.int .i64 f2) ∧ w2.cell? ⟨w.heap.size + 2, 0, none⟩ = some (.int .i64 n1) ∧ w2.cell? ⟨w.heap.size + 2, 1, none⟩ = some (.int .i64 n2) := ⟨S2.c30, S2.c31, S2.c50, S2.c51⟩
      have zz0 : w.heap.size < w2.heap.size := by omega
      have zz2 : w.heap.size + 2 < w2.heap.size := by omega
      have HS2 := Lib.hid S2
      clear hb1 hb2 S2 hS x0 x1 KT
      clear q30 q31 q50 q51
      by_cases ht : tw < 0
      · have hstep : Hid (MH.stepN (f1, f2) (n1, n2) (p1, p2) = (p1, p2)) := Lib.hid (step_yes (Or.inl (by rw [HTW.out]; exact ht)))
        go_wp2_with fail
        refine wp_region_B (fun W => Below w2.heap.size w2 W) (by kernel_rfl) (by repeat (first | exact Below.refl _ _ | apply Below.drew)) ?_
        first | refine wpB_skip 0 rfl (by kernel_rfl) (by kernel_rfl) (by kernel_rfl) (by rfl) ?_ | (refine wpB_text 0 (v := ?_) rfl (by kernel_rfl) (by kernel_rfl) (by kernel_rfl) (by rfl) (fun W hW => ?_) ?_; rotate_left; (have k1 := hW; obtain ⟨hc1, hf1⟩ := bcell k1; go_simp; refine comes_v ?_; exact k1))
        (try simp only [Act.put, List.setIfInBounds_toArray, List.set_cons_zero, List.set_cons_succ])
        first | refine wpB_skip 1 rfl (by kernel_rfl) (by kernel_rfl) (by kernel_rfl) (by rfl) ?_ | (refine wpB_text 1 (v := ?_) rfl (by kernel_rfl) (by kernel_rfl) (by kernel_rfl) (by rfl) (fun W hW => ?_) ?_; rotate_left; (have k1 := hW; obtain ⟨hc1, hf1⟩ := bcell k1; go_simp; refine comes_v ?_; exact k1))
        (try simp only [Act.put, List.setIfInBounds_toArray, List.set_cons_zero, List.set_cons_succ])
        first | refine wpB_skip 2 rfl (by kernel_rfl) (by kernel_rfl) (by kernel_rfl) (by rfl) ?_ | (refine wpB_text 2 (v := ?_) rfl (by kernel_rfl) (by kernel_rfl) (by kernel_rfl) (by rfl) (fun W hW => ?_) ?_; rotate_left; (have k1 := hW; obtain ⟨hc1, hf1⟩ := bcell k1; go_simp; refine comes_v ?_; exact k1))
        (try simp only [Act.put, List.setIfInBounds_toArray, List.set_cons_zero, List.set_cons_succ])
        first | refine wpB_skip 3 rfl (by kernel_rfl) (by kernel_rfl) (by kernel_rfl) (by rfl) ?_ | (refine wpB_text 3 (v := ?_) rfl (by kernel_rfl) (by kernel_rfl) (by kernel_rfl) (by rfl) (fun W hW => ?_) ?_; rotate_left; (have k1 := hW; obtain ⟨hc1, hf1⟩ := bcell k1; go_simp; refine comes_v ?_; exact k1))
        (try simp only [Act.put, List.setIfInBounds_toArray, List.set_cons_zero, List.set_cons_succ])
        first | refine wpB_skip 4 rfl (by kernel_rfl) (by kernel_rfl) (by kernel_rfl) (by rfl) ?_ | (refine wpB_text 4 (v := ?_) rfl (by kernel_rfl) (by kernel_rfl) (by kernel_rfl) (by rfl) (fun W hW => ?_) ?_; rotate_left; (have k1 := hW; obtain ⟨hc1, hf1⟩ := bcell k1; go_simp; refine comes_v ?_; exact k1))
        (try simp only [Act.put, List.setIfInBounds_toArray, List.set_cons_zero, List.set_cons_succ])
        first | refine wpB_skip 5 rfl (by kernel_rfl) (by kernel_rfl) (by kernel_rfl) (by rfl) ?_ | (refine wpB_text 5 (v := ?_) rfl (by kernel_rfl) (by kernel_rfl) (by kernel_rfl) (by rfl) (fun W hW => ?_) ?_; rotate_left; (have k1 := hW; obtain ⟨hc1, hf1⟩ := bcell k1; go_simp; refine comes_v ?_; exact k1))
        (try simp only [Act.put, List.setIfInBounds_toArray, List.set_cons_zero, List.set_cons_succ])
        first | refine wpB_skip 6 rfl (by kernel_rfl) (by kernel_rfl) (by kernel_rfl) (by rfl) ?_ | (refine wpB_text 6 (v := ?_) rfl (by kernel_rfl) (by kernel_rfl) (by kernel_rfl) (by rfl) (fun W hW => ?_) ?_; rotate_left; (have k1 := hW; obtain ⟨hc1, hf1⟩ := bcell k1; go_simp; refine comes_v ?_; exact k1))
        (try simp only [Act.put, List.setIfInBounds_toArray, List.set_cons_zero, List.set_cons_succ])
        first | refine wpB_skip 7 rfl (by kernel_rfl) (by kernel_rfl) (by kernel_rfl) (by rfl) ?_ | (refine wpB_text 7 (v := ?_) rfl (by kernel_rfl) (by kernel_rfl) (by kernel_rfl) (by rfl) (fun W hW => ?_) ?_; rotate_left; (have k1 := hW; obtain ⟨hc1, hf1⟩ := bcell k1; go_simp; refine comes_v ?_; exact k1))
        (try simp only [Act.put, List.setIfInBounds_toArray, List.set_cons_zero, List.set_cons_succ])
        first | refine wpB_skip 8 rfl (by kernel_rfl) (by kernel_rfl) (by kernel_rfl) (by rfl) ?_ | (refine wpB_text 8 (v := ?_) rfl (by kernel_rfl) (by kernel_rfl) (by kernel_rfl) (by rfl) (fun W hW => ?_) ?_; rotate_left; (have k1 := hW; obtain ⟨hc1, hf1⟩ := bcell k1; go_simp; refine comes_v ?_; exact k1))
        (try simp only [Act.put, List.setIfInBounds_toArray, List.set_cons_zero, List.set_cons_succ])
        first | refine wpB_skip 9 rfl (by kernel_rfl) (by kernel_rfl) (by kernel_rfl) (by rfl) ?_ | (refine wpB_text 9 (v := ?_) rfl (by kernel_rfl) (by kernel_rfl) (by kernel_rfl) (by rfl) (fun W hW => ?_) ?_; rotate_left; (have k1 := hW; obtain ⟨hc1, hf1⟩ := bcell k1; go_simp; refine comes_v ?_; exact k1))
        (try simp only [Act.put, List.setIfInBounds_toArray, List.set_cons_zero, List.set_cons_succ])
        first | refine wpB_skip 10 rfl (by kernel_rfl) (by kernel_rfl) (by kernel_rfl) (by rfl) ?_ | (refine wpB_text 10 (v := ?_) rfl (by kernel_rfl) (by kernel_rfl) (by kernel_rfl) (by rfl) (fun W hW => ?_) ?_; rotate_left; (have k1 := hW; obtain ⟨hc1, hf1⟩ := bcell k1; go_simp; refine comes_v ?_; exact k1))
        (try simp only [Act.put, List.setIfInBounds_toArray, List.set_cons_zero, List.set_cons_succ])
        first | refine wpB_skip 11 rfl (by kernel_rfl) (by kernel_rfl) (by kernel_rfl) (by rfl) ?_ | (refine wpB_text 11 (v := ?_) rfl (by kernel_rfl) (by kernel_rfl) (by kernel_rfl) (by rfl) (fun W hW => ?_) ?_; rotate_left; (have k1 := hW; obtain ⟨hc1, hf1⟩ := bcell k1; go_simp; refine comes_v ?_; exact k1))
        (try simp only [Act.put, List.setIfInBounds_toArray, List.set_cons_zero, List.set_cons_succ])
        first | refine wpB_skip 12 rfl (by kernel_rfl) (by kernel_rfl) (by kernel_rfl) (by rfl) ?_ | (refine wpB_text 12 (v := ?_) rfl (by kernel_rfl) (by kernel_rfl) (by kernel_rfl) (by rfl) (fun W hW => ?_) ?_; rotate_left; (have k1 := hW; obtain ⟨hc1, hf1⟩ := bcell k1; go_simp; refine comes_v ?_; exact k1))
        (try simp only [Act.put, List.setIfInBounds_toArray, List.set_cons_zero, List.set_cons_succ])
        first | refine wpB_skip 13 rfl (by kernel_rfl) (by kernel_rfl) (by kernel_rfl) (by rfl) ?_ | (refine wpB_text 13 (v := ?_) rfl (by kernel_rfl) (by kernel_rfl) (by kernel_rfl) (by rfl) (fun W hW => ?_) ?_; rotate_left; (have k1 := hW; obtain ⟨hc1, hf1⟩ := bcell k1; go_simp; refine comes_v ?_; exact k1))
        (try simp only [Act.put, List.setIfInBounds_toArray, List.set_cons_zero, List.set_cons_succ])
        first | refine wpB_skip 14 rfl (by kernel_rfl) (by kernel_rfl) (by kernel_rfl) (by rfl) ?_ | (refine wpB_text 14 (v := ?_) rfl (by kernel_rfl) (by kernel_rfl) (by kernel_rfl) (by rfl) (fun W hW => ?_) ?_; rotate_left; (have k1 := hW; obtain ⟨hc1, hf1⟩ := bcell k1; go_simp; refine comes_v ?_; exact k1))
        (try simp only [Act.put, List.setIfInBounds_toArray, List.set_cons_zero, List.set_cons_succ])
        first | refine wpB_skip 15 rfl (by kernel_rfl) (by kernel_rfl) (by kernel_rfl) (by rfl) ?_ | (refine wpB_text 15 (v := ?_) rfl (by kernel_rfl) (by kernel_rfl) (by kernel_rfl) (by rfl) (fun W hW => ?_) ?_; rotate_left; (have k1 := hW; obtain ⟨hc1, hf1⟩ := bcell k1; go_simp; refine comes_v ?_; exact k1))
        (try simp only [Act.put, List.setIfInBounds_toArray, List.set_cons_zero, List.set_cons_succ])
        first | refine wpB_skip 16 rfl (by kernel_rfl) (by kernel_rfl) (by kernel_rfl) (by rfl) ?_ | (refine wpB_text 16 (v := ?_) rfl (by kernel_rfl) (by kernel_rfl) (by kernel_rfl) (by rfl) (fun W hW => ?_) ?_; rotate_left; (have k1 := hW; obtain ⟨hc1, hf1⟩ := bcell k1; go_simp; refine comes_v ?_; exact k1))
        (try simp only [Act.put, List.setIfInBounds_toArray, List.set_cons_zero, List.set_cons_succ])
        refine wpB_done (by kernel_rfl) ?_ _
        intro W hW; have k1 := hW
        rename World => w3
        have S3 := HS2.out.up k1
        have e0 := ((bcell k1).1 _ 0 zy).trans y0
        have e1 := ((bcell k1).1 _ 1 zy).trans y1
        have g5 := S3.f5
        have g50 := S3.c50
        have g51 := S3.c51
        have HS3 := Lib.hid (S3.store p1 p2)
        clear c30 c31 c50 c51 y0 y1 S3
        go_wp2_with fail
        go_roundg (n - (k + 1))
        case measure => have := HGK.out; omega
        case rel => exact ⟨k + 1, p1, p2, by omega, rfl, by go_num, Lib.hid (by rw [HFS.out, hstep.out]), HPP, HS3⟩
      · by_cases ht0 : tw = 0
        · subst ht0
          have d0 : decide ((0 : Int) < 0) = false := by decide
          by_cases hsq : sn < sp
          · have hstep : Hid (MH.stepN (f1, f2) (n1, n2) (p1, p2) = (p1, p2)) := Lib.hid (step_yes (Or.inr ⟨HTW.out, by rw [HSN.out, HSP.out]; exact hsq⟩))
            go_wp2_with fail
            refine wp_region_B (fun W => Below w2.heap.size w2 W) (by kernel_rfl) (by repeat (first | exact Below.refl _ _ | apply Below.drew)) ?_
            first | refine wpB_skip 0 rfl (by kernel_rfl) (by kernel_rfl) (by kernel_rfl) (by rfl) ?_ | (refine wpB_text 0 (v := ?_) rfl (by kernel_rfl) (by kernel_rfl) (by kernel_rfl) (by rfl) (fun W hW => ?_) ?_; rotate_left; (have k1 := hW; obtain ⟨hc1, hf1⟩ := bcell k1; go_simp; refine comes_v ?_; exact k1))
            (try simp only [Act.put, List.setIfInBounds_toArray, List.set_cons_zero, List.set_cons_succ])
            first | refine wpB_skip 1 rfl (by kernel_rfl) (by kernel_rfl) (by kernel_rfl) (by rfl) ?_ | (refine wpB_text 1 (v := ?_) rfl (by kernel_rfl) (by kernel_rfl) (by kernel_rfl) (by rfl) (fun W hW => ?_) ?_; rotate_left; (have k1 := hW; obtain ⟨hc1, hf1⟩ := bcell k1; go_simp; refine comes_v ?_; exact k1))
            (try simp only [Act.put, List.setIfInBounds_toArray, List.set_cons_zero, List.set_cons_succ])
            first | refine wpB_skip 2 rfl (by kernel_rfl) (by kernel_rfl) (by kernel_rfl) (by rfl) ?_ | (refine wpB_text 2 (v := ?_) rfl (by kernel_rfl) (by kernel_rfl) (by kernel_rfl) (by rfl) (fun W hW => ?_) ?_; rotate_left; (have k1 := hW; obtain ⟨hc1, hf1⟩ := bcell k1; go_simp; refine comes_v ?_; exact k1))
            (try simp only [Act.put, List.setIfInBounds_toArray, List.set_cons_zero, List.set_cons_succ])
            first | refine wpB_skip 3 rfl (by kernel_rfl) (by kernel_rfl) (by kernel_rfl) (by rfl) ?_ | (refine wpB_text 3 (v := ?_) rfl (by kernel_rfl) (by kernel_rfl) (by kernel_rfl) (by rfl) (fun W hW => ?_) ?_; rotate_left; (have k1 := hW; obtain ⟨hc1, hf1⟩ := bcell k1; go_simp; refine comes_v ?_; exact k1))
            (try simp only [Act.put, List.setIfInBounds_toArray, List.set_cons_zero, List.set_cons_succ])
            first | refine wpB_skip 4 rfl (by kernel_rfl) (by kernel_rfl) (by kernel_rfl) (by rfl) ?_ | (refine wpB_text 4 (v := ?_) rfl (by kernel_rfl) (by kernel_rfl) (by kernel_rfl) (by rfl) (fun W hW => ?_) ?_; rotate_left; (have k1 := hW; obtain ⟨hc1, hf1⟩ := bcell k1; go_simp; refine comes_v ?_; exact k1))
            (try simp only [Act.put, List.setIfInBounds_toArray, List.set_cons_zero, List.set_cons_succ])
            first | refine wpB_skip 5 rfl (by kernel_rfl) (by kernel_rfl) (by kernel_rfl) (by rfl) ?_ | (refine wpB_text 5 (v := ?_) rfl (by kernel_rfl) (by kernel_rfl) (by kernel_rfl) (by rfl) (fun W hW => ?_) ?_; rotate_left; (have k1 := hW; obtain ⟨hc1, hf1⟩ := bcell k1; go_simp; refine comes_v ?_; exact k1))
            (try simp only [Act.put, List.setIfInBounds_toArray, List.set_cons_zero, List.set_cons_succ])
            first | refine wpB_skip 6 rfl (by kernel_rfl) (by kernel_rfl) (by kernel_rfl) (by rfl) ?_ | (refine wpB_text 6 (v := ?_) rfl (by kernel_rfl) (by kernel_rfl) (by kernel_rfl) (by rfl) (fun W hW => ?_) ?_; rotate_left; (have k1 := hW; obtain ⟨hc1, hf1⟩ := bcell k1; go_simp; refine comes_v ?_; exact k1))
            (try simp only [Act.put, List.setIfInBounds_toArray, List.set_cons_zero, List.set_cons_succ])
            first | refine wpB_skip 7 rfl (by kernel_rfl) (by kernel_rfl) (by kernel_rfl) (by rfl) ?_ | (refine wpB_text 7 (v := ?_) rfl (by kernel_rfl) (by kernel_rfl) (by kernel_rfl) (by rfl) (fun W hW => ?_) ?_; rotate_left; (have k1 := hW; obtain ⟨hc1, hf1⟩ := bcell k1; go_simp; refine comes_v ?_; exact k1))
            (try simp only [Act.put, List.setIfInBounds_toArray, List.set_cons_zero, List.set_cons_succ])
            first | refine wpB_skip 8 rfl (by kernel_rfl) (by kernel_rfl) (by kernel_rfl) (by rfl) ?_ | (refine wpB_text 8 (v := .agg #[.int .i64 pf1, .int .i64 pf2]) rfl (by kernel_rfl) (by kernel_rfl) (by kernel_rfl) (by rfl) (fun W hW => ?_) ?_; (have k1 := hW; obtain ⟨hc1, hf1⟩ := bcell k1; go_simp; exact comes_c ( KM1.out _) (fun wn hbn => bt_keep k1 hbn)))
            (try simp only [Act.put, List.setIfInBounds_toArray, List.set_cons_zero, List.set_cons_succ])
            first | refine wpB_skip 9 rfl (by kernel_rfl) (by kernel_rfl) (by kernel_rfl) (by rfl) ?_ | (refine wpB_text 9 (v := .int .i64 sp) rfl (by kernel_rfl) (by kernel_rfl) (by kernel_rfl) (by rfl) (fun W hW => ?_) ?_; (have k1 := hW; obtain ⟨hc1, hf1⟩ := bcell k1; go_simp; exact comes_c ( KS1.out _) (fun wn hbn => bt_keep k1 hbn)))
            (try simp only [Act.put, List.setIfInBounds_toArray, List.set_cons_zero, List.set_cons_succ])
            first | refine wpB_skip 10 rfl (by kernel_rfl) (by kernel_rfl) (by kernel_rfl) (by rfl) ?_ | (refine wpB_text 10 (v := ?_) rfl (by kernel_rfl) (by kernel_rfl) (by kernel_rfl) (by rfl) (fun W hW => ?_) ?_; rotate_left; (have k1 := hW; obtain ⟨hc1, hf1⟩ := bcell k1; go_simp; refine comes_v ?_; exact k1))
            (try simp only [Act.put, List.setIfInBounds_toArray, List.set_cons_zero, List.set_cons_succ])
            first | refine wpB_skip 11 rfl (by kernel_rfl) (by kernel_rfl) (by kernel_rfl) (by rfl) ?_ | (refine wpB_text 11 (v := ?_) rfl (by kernel_rfl) (by kernel_rfl) (by kernel_rfl) (by rfl) (fun W hW => ?_) ?_; rotate_left; (have k1 := hW; obtain ⟨hc1, hf1⟩ := bcell k1; go_simp; refine comes_v ?_; exact k1))
            (try simp only [Act.put, List.setIfInBounds_toArray, List.set_cons_zero, List.set_cons_succ])
            first | refine wpB_skip 12 rfl (by kernel_rfl) (by kernel_rfl) (by kernel_rfl) (by rfl) ?_ | (refine wpB_text 12 (v := .agg #[.int .i64 nf1, .int .i64 nf2]) rfl (by kernel_rfl) (by kernel_rfl) (by kernel_rfl) (by rfl) (fun W hW => ?_) ?_; (have k1 := hW; obtain ⟨hc1, hf1⟩ := bcell k1; go_simp; exact comes_c ( KM2.out _) (fun wn hbn => bt_keep k1 hbn)))
            (try simp only [Act.put, List.setIfInBounds_toArray, List.set_cons_zero, List.set_cons_succ])
            first | refine wpB_skip 13 rfl (by kernel_rfl) (by kernel_rfl) (by kernel_rfl) (by rfl) ?_ | (refine wpB_text 13 (v := .int .i64 sn) rfl (by kernel_rfl) (by kernel_rfl) (by kernel_rfl) (by rfl) (fun W hW => ?_) ?_; (have k1 := hW; obtain ⟨hc1, hf1⟩ := bcell k1; go_simp; exact comes_c ( KS2.out _) (fun wn hbn => bt_keep k1 hbn)))
            (try simp only [Act.put, List.setIfInBounds_toArray, List.set_cons_zero, List.set_cons_succ])
            first | refine wpB_skip 14 rfl (by kernel_rfl) (by kernel_rfl) (by kernel_rfl) (by rfl) ?_ | (refine wpB_text 14 (v := ?_) rfl (by kernel_rfl) (by kernel_rfl) (by kernel_rfl) (by rfl) (fun W hW => ?_) ?_; rotate_left; (have k1 := hW; obtain ⟨hc1, hf1⟩ := bcell k1; go_simp; refine comes_v ?_; exact k1))
            (try simp only [Act.put, List.setIfInBounds_toArray, List.set_cons_zero, List.set_cons_succ])
            first | refine wpB_skip 15 rfl (by kernel_rfl) (by kernel_rfl) (by kernel_rfl) (by rfl) ?_ | (refine wpB_text 15 (v := ?_) rfl (by kernel_rfl) (by kernel_rfl) (by kernel_rfl) (by rfl) (fun W hW => ?_) ?_; rotate_left; (have k1 := hW; obtain ⟨hc1, hf1⟩ := bcell k1; go_simp; refine comes_v ?_; exact k1))
            (try simp only [Act.put, List.setIfInBounds_toArray, List.set_cons_zero, List.set_cons_succ])
            first | refine wpB_skip 16 rfl (by kernel_rfl) (by kernel_rfl) (by kernel_rfl) (by rfl) ?_ | (refine wpB_text 16 (v := ?_) rfl (by kernel_rfl) (by kernel_rfl) (by kernel_rfl) (by rfl) (fun W hW => ?_) ?_; rotate_left; (have k1 := hW; obtain ⟨hc1, hf1⟩ := bcell k1; go_simp; refine comes_v ?_; exact k1))
            (try simp only [Act.put, List.setIfInBounds_toArray, List.set_cons_zero, List.set_cons_succ])
            refine wpB_done (by kernel_rfl) ?_ _
            intro W hW; have k1 := hW
            rename World => w3
            have S3 := HS2.out.up k1
            have e0 := ((bcell k1).1 _ 0 zy).trans y0
            have e1 := ((bcell k1).1 _ 1 zy).trans y1
            have g5 := S3.f5
            have g50 := S3.c50
            have g51 := S3.c51
            have HS3 := Lib.hid (S3.store p1 p2)
            clear c30 c31 c50 c51 y0 y1 S3
            go_wp2_with fail
            go_roundg (n - (k + 1))
            case measure => have := HGK.out; omega
            case rel => exact ⟨k + 1, p1, p2, by omega, rfl, by go_num, Lib.hid (by rw [HFS.out, hstep.out]), HPP, HS3⟩
          · have hstep : Hid (MH.stepN (f1, f2) (n1, n2) (p1, p2) = (n1, n2)) := Lib.hid (step_no (by rw [HTW.out, HSN.out, HSP.out]; omega))
            have dsq : decide (sn < sp) = false := by simp; omega
            go_wp2_with fail
            refine wp_region_B (fun W => Below w2.heap.size w2 W) (by kernel_rfl) (by repeat (first | exact Below.refl _ _ | apply Below.drew)) ?_
            first | refine wpB_skip 0 rfl (by kernel_rfl) (by kernel_rfl) (by kernel_rfl) (by rfl) ?_ | (refine wpB_text 0 (v := ?_) rfl (by kernel_rfl) (by kernel_rfl) (by kernel_rfl) (by rfl) (fun W hW => ?_) ?_; rotate_left; (have k1 := hW; obtain ⟨hc1, hf1⟩ := bcell k1; go_simp; refine comes_v ?_; exact k1))
            (try simp only [Act.put, List.setIfInBounds_toArray, List.set_cons_zero, List.set_cons_succ])
            first | refine wpB_skip 1 rfl (by kernel_rfl) (by kernel_rfl) (by kernel_rfl) (by rfl) ?_ | (refine wpB_text 1 (v := ?_) rfl (by kernel_rfl) (by kernel_rfl) (by kernel_rfl) (by rfl) (fun W hW => ?_) ?_; rotate_left; (have k1 := hW; obtain ⟨hc1, hf1⟩ := bcell k1; go_simp; refine comes_v ?_; exact k1))
            (try simp only [Act.put, List.setIfInBounds_toArray, List.set_cons_zero, List.set_cons_succ])
            first | refine wpB_skip 2 rfl (by kernel_rfl) (by kernel_rfl) (by kernel_rfl) (by rfl) ?_ | (refine wpB_text 2 (v := ?_) rfl (by kernel_rfl) (by kernel_rfl) (by kernel_rfl) (by rfl) (fun W hW => ?_) ?_; rotate_left; (have k1 := hW; obtain ⟨hc1, hf1⟩ := bcell k1; go_simp; refine comes_v ?_; exact k1))
            (try simp only [Act.put, List.setIfInBounds_toArray, List.set_cons_zero, List.set_cons_succ])
            first | refine wpB_skip 3 rfl (by kernel_rfl) (by kernel_rfl) (by kernel_rfl) (by rfl) ?_ | (refine wpB_text 3 (v := ?_) rfl (by kernel_rfl) (by kernel_rfl) (by kernel_rfl) (by rfl) (fun W hW => ?_) ?_; rotate_left; (have k1 := hW; obtain ⟨hc1, hf1⟩ := bcell k1; go_simp; refine comes_v ?_; exact k1))
            (try simp only [Act.put, List.setIfInBounds_toArray, List.set_cons_zero, List.set_cons_succ])
            first | refine wpB_skip 4 rfl (by kernel_rfl) (by kernel_rfl) (by kernel_rfl) (by rfl) ?_ | (refine wpB_text 4 (v := ?_) rfl (by kernel_rfl) (by kernel_rfl) (by kernel_rfl) (by rfl) (fun W hW => ?_) ?_; rotate_left; (have k1 := hW; obtain ⟨hc1, hf1⟩ := bcell k1; go_simp; refine comes_v ?_; exact k1))
            (try simp only [Act.put, List.setIfInBounds_toArray, List.set_cons_zero, List.set_cons_succ])
            first | refine wpB_skip 5 rfl (by kernel_rfl) (by kernel_rfl) (by kernel_rfl) (by rfl) ?_ | (refine wpB_text 5 (v := ?_) rfl (by kernel_rfl) (by kernel_rfl) (by kernel_rfl) (by rfl) (fun W hW => ?_) ?_; rotate_left; (have k1 := hW; obtain ⟨hc1, hf1⟩ := bcell k1; go_simp; refine comes_v ?_; exact k1))
            (try simp only [Act.put, List.setIfInBounds_toArray, List.set_cons_zero, List.set_cons_succ])
            first | refine wpB_skip 6 rfl (by kernel_rfl) (by kernel_rfl) (by kernel_rfl) (by rfl) ?_ | (refine wpB_text 6 (v := ?_) rfl (by kernel_rfl) (by kernel_rfl) (by kernel_rfl) (by rfl) (fun W hW => ?_) ?_; rotate_left; (have k1 := hW; obtain ⟨hc1, hf1⟩ := bcell k1; go_simp; refine comes_v ?_; exact k1))
            (try simp only [Act.put, List.setIfInBounds_toArray, List.set_cons_zero, List.set_cons_succ])
            first | refine wpB_skip 7 rfl (by kernel_rfl) (by kernel_rfl) (by kernel_rfl) (by rfl) ?_ | (refine wpB_text 7 (v := ?_) rfl (by kernel_rfl) (by kernel_rfl) (by kernel_rfl) (by rfl) (fun W hW => ?_) ?_; rotate_left; (have k1 := hW; obtain ⟨hc1, hf1⟩ := bcell k1; go_simp; refine comes_v ?_; exact k1))
            (try simp only [Act.put, List.setIfInBounds_toArray, List.set_cons_zero, List.set_cons_succ])
            first | refine wpB_skip 8 rfl (by kernel_rfl) (by kernel_rfl) (by kernel_rfl) (by rfl) ?_ | (refine wpB_text 8 (v := .agg #[.int .i64 pf1, .int .i64 pf2]) rfl (by kernel_rfl) (by kernel_rfl) (by kernel_rfl) (by rfl) (fun W hW => ?_) ?_; (have k1 := hW; obtain ⟨hc1, hf1⟩ := bcell k1; go_simp; exact comes_c ( KM1.out _) (fun wn hbn => bt_keep k1 hbn)))
            (try simp only [Act.put, List.setIfInBounds_toArray, List.set_cons_zero, List.set_cons_succ])
            first | refine wpB_skip 9 rfl (by kernel_rfl) (by kernel_rfl) (by kernel_rfl) (by rfl) ?_ | (refine wpB_text 9 (v := .int .i64 sp) rfl (by kernel_rfl) (by kernel_rfl) (by kernel_rfl) (by rfl) (fun W hW => ?_) ?_; (have k1 := hW; obtain ⟨hc1, hf1⟩ := bcell k1; go_simp; exact comes_c ( KS1.out _) (fun wn hbn => bt_keep k1 hbn)))
            (try simp only [Act.put, List.setIfInBounds_toArray, List.set_cons_zero, List.set_cons_succ])
            first | refine wpB_skip 10 rfl (by kernel_rfl) (by kernel_rfl) (by kernel_rfl) (by rfl) ?_ | (refine wpB_text 10 (v := ?_) rfl (by kernel_rfl) (by kernel_rfl) (by kernel_rfl) (by rfl) (fun W hW => ?_) ?_; rotate_left; (have k1 := hW; obtain ⟨hc1, hf1⟩ := bcell k1; go_simp; refine comes_v ?_; exact k1))
            (try simp only [Act.put, List.setIfInBounds_toArray, List.set_cons_zero, List.set_cons_succ])
            first | refine wpB_skip 11 rfl (by kernel_rfl) (by kernel_rfl) (by kernel_rfl) (by rfl) ?_ | (refine wpB_text 11 (v := ?_) rfl (by kernel_rfl) (by kernel_rfl) (by kernel_rfl) (by rfl) (fun W hW => ?_) ?_; rotate_left; (have k1 := hW; obtain ⟨hc1, hf1⟩ := bcell k1; go_simp; refine comes_v ?_; exact k1))
            (try simp only [Act.put, List.setIfInBounds_toArray, List.set_cons_zero, List.set_cons_succ])
            first | refine wpB_skip 12 rfl (by kernel_rfl) (by kernel_rfl) (by kernel_rfl) (by rfl) ?_ | (refine wpB_text 12 (v := .agg #[.int .i64 nf1, .int .i64 nf2]) rfl (by kernel_rfl) (by kernel_rfl) (by kernel_rfl) (by rfl) (fun W hW => ?_) ?_; (have k1 := hW; obtain ⟨hc1, hf1⟩ := bcell k1; go_simp; exact comes_c ( KM2.out _) (fun wn hbn => bt_keep k1 hbn)))
            (try simp only [Act.put, List.setIfInBounds_toArray, List.set_cons_zero, List.set_cons_succ])
            first | refine wpB_skip 13 rfl (by kernel_rfl) (by kernel_rfl) (by kernel_rfl) (by rfl) ?_ | (refine wpB_text 13 (v := .int .i64 sn) rfl (by kernel_rfl) (by kernel_rfl) (by kernel_rfl) (by rfl) (fun W hW => ?_) ?_; (have k1 := hW; obtain ⟨hc1, hf1⟩ := bcell k1; go_simp; exact comes_c ( KS2.out _) (fun wn hbn => bt_keep k1 hbn)))
            (try simp only [Act.put, List.setIfInBounds_toArray, List.set_cons_zero, List.set_cons_succ])
            first | refine wpB_skip 14 rfl (by kernel_rfl) (by kernel_rfl) (by kernel_rfl) (by rfl) ?_ | (refine wpB_text 14 (v := ?_) rfl (by kernel_rfl) (by kernel_rfl) (by kernel_rfl) (by rfl) (fun W hW => ?_) ?_; rotate_left; (have k1 := hW; obtain ⟨hc1, hf1⟩ := bcell k1; go_simp; refine comes_v ?_; exact k1))
            (try simp only [Act.put, List.setIfInBounds_toArray, List.set_cons_zero, List.set_cons_succ])
            first | refine wpB_skip 15 rfl (by kernel_rfl) (by kernel_rfl) (by kernel_rfl) (by rfl) ?_ | (refine wpB_text 15 (v := ?_) rfl (by kernel_rfl) (by kernel_rfl) (by kernel_rfl) (by rfl) (fun W hW => ?_) ?_; rotate_left; (have k1 := hW; obtain ⟨hc1, hf1⟩ := bcell k1; go_simp; refine comes_v ?_; exact k1))
            (try simp only [Act.put, List.setIfInBounds_toArray, List.set_cons_zero, List.set_cons_succ])
            first | refine wpB_skip 16 rfl (by kernel_rfl) (by kernel_rfl) (by kernel_rfl) (by rfl) ?_ | (refine wpB_text 16 (v := ?_) rfl (by kernel_rfl) (by kernel_rfl) (by kernel_rfl) (by rfl) (fun W hW => ?_) ?_; rotate_left; (have k1 := hW; obtain ⟨hc1, hf1⟩ := bcell k1; go_simp; refine comes_v ?_; exact k1))
            (try simp only [Act.put, List.setIfInBounds_toArray, List.set_cons_zero, List.set_cons_succ])
            refine wpB_done (by kernel_rfl) ?_ _
            intro W hW; have k1 := hW
            rename World => w3
            have HS3 := Lib.hid (HS2.out.up k1)
            clear c30 c31 c50 c51 y0 y1
            go_wp2_with fail
            go_roundg (n - (k + 1))
            case measure => have := HGK.out; omega
            case rel => exact ⟨k + 1, n1, n2, by omega, rfl, by go_num, Lib.hid (by rw [HFS.out, hstep.out]), hnp, HS3⟩
        · have hstep : Hid (MH.stepN (f1, f2) (n1, n2) (p1, p2) = (n1, n2)) := Lib.hid (step_no (by rw [HTW.out]; omega))
          have dt : decide (tw < 0) = false := by simp; omega
          have dt0 : (tw == 0) = false := by simp; omega
          go_wp2_with fail
          refine wp_region_B (fun W => Below w2.heap.size w2 W) (by kernel_rfl) (by repeat (first | exact Below.refl _ _ | apply Below.drew)) ?_
          first | refine wpB_skip 0 rfl (by kernel_rfl) (by kernel_rfl) (by kernel_rfl) (by rfl) ?_ | (refine wpB_text 0 (v := ?_) rfl (by kernel_rfl) (by kernel_rfl) (by kernel_rfl) (by rfl) (fun W hW => ?_) ?_; rotate_left; (have k1 := hW; obtain ⟨hc1, hf1⟩ := bcell k1; go_simp; refine comes_v ?_; exact k1))
          (try simp only [Act.put, List.setIfInBounds_toArray, List.set_cons_zero, List.set_cons_succ])
          first | refine wpB_skip 1 rfl (by kernel_rfl) (by kernel_rfl) (by kernel_rfl) (by rfl) ?_ | (refine wpB_text 1 (v := ?_) rfl (by kernel_rfl) (by kernel_rfl) (by kernel_rfl) (by rfl) (fun W hW => ?_) ?_; rotate_left; (have k1 := hW; obtain ⟨hc1, hf1⟩ := bcell k1; go_simp; refine comes_v ?_; exact k1))
          (try simp only [Act.put, List.setIfInBounds_toArray, List.set_cons_zero, List.set_cons_succ])
          first | refine wpB_skip 2 rfl (by kernel_rfl) (by kernel_rfl) (by kernel_rfl) (by rfl) ?_ | (refine wpB_text 2 (v := ?_) rfl (by kernel_rfl) (by kernel_rfl) (by kernel_rfl) (by rfl) (fun W hW => ?_) ?_; rotate_left; (have k1 := hW; obtain ⟨hc1, hf1⟩ := bcell k1; go_simp; refine comes_v ?_; exact k1))
          (try simp only [Act.put, List.setIfInBounds_toArray, List.set_cons_zero, List.set_cons_succ])
          first | refine wpB_skip 3 rfl (by kernel_rfl) (by kernel_rfl) (by kernel_rfl) (by rfl) ?_ | (refine wpB_text 3 (v := ?_) rfl (by kernel_rfl) (by kernel_rfl) (by kernel_rfl) (by rfl) (fun W hW => ?_) ?_; rotate_left; (have k1 := hW; obtain ⟨hc1, hf1⟩ := bcell k1; go_simp; refine comes_v ?_; exact k1))
          (try simp only [Act.put, List.setIfInBounds_toArray, List.set_cons_zero, List.set_cons_succ])
          first | refine wpB_skip 4 rfl (by kernel_rfl) (by kernel_rfl) (by kernel_rfl) (by rfl) ?_ | (refine wpB_text 4 (v := ?_) rfl (by kernel_rfl) (by kernel_rfl) (by kernel_rfl) (by rfl) (fun W hW => ?_) ?_; rotate_left; (have k1 := hW; obtain ⟨hc1, hf1⟩ := bcell k1; go_simp; refine comes_v ?_; exact k1))
          (try simp only [Act.put, List.setIfInBounds_toArray, List.set_cons_zero, List.set_cons_succ])
          first | refine wpB_skip 5 rfl (by kernel_rfl) (by kernel_rfl) (by kernel_rfl) (by rfl) ?_ | (refine wpB_text 5 (v := ?_) rfl (by kernel_rfl) (by kernel_rfl) (by kernel_rfl) (by rfl) (fun W hW => ?_) ?_; rotate_left; (have k1 := hW; obtain ⟨hc1, hf1⟩ := bcell k1; go_simp; refine comes_v ?_; exact k1))
          (try simp only [Act.put, List.setIfInBounds_toArray, List.set_cons_zero, List.set_cons_succ])
          first | refine wpB_skip 6 rfl (by kernel_rfl) (by kernel_rfl) (by kernel_rfl) (by rfl) ?_ | (refine wpB_text 6 (v := ?_) rfl (by kernel_rfl) (by kernel_rfl) (by kernel_rfl) (by rfl) (fun W hW => ?_) ?_; rotate_left; (have k1 := hW; obtain ⟨hc1, hf1⟩ := bcell k1; go_simp; refine comes_v ?_; exact k1))
          (try simp only [Act.put, List.setIfInBounds_toArray, List.set_cons_zero, List.set_cons_succ])
          first | refine wpB_skip 7 rfl (by kernel_rfl) (by kernel_rfl) (by kernel_rfl) (by rfl) ?_ | (refine wpB_text 7 (v := ?_) rfl (by kernel_rfl) (by kernel_rfl) (by kernel_rfl) (by rfl) (fun W hW => ?_) ?_; rotate_left; (have k1 := hW; obtain ⟨hc1, hf1⟩ := bcell k1; go_simp; refine comes_v ?_; exact k1))
          (try simp only [Act.put, List.setIfInBounds_toArray, List.set_cons_zero, List.set_cons_succ])
          first | refine wpB_skip 8 rfl (by kernel_rfl) (by kernel_rfl) (by kernel_rfl) (by rfl) ?_ | (refine wpB_text 8 (v := ?_) rfl (by kernel_rfl) (by kernel_rfl) (by kernel_rfl) (by rfl) (fun W hW => ?_) ?_; rotate_left; (have k1 := hW; obtain ⟨hc1, hf1⟩ := bcell k1; go_simp; refine comes_v ?_; exact k1))
          (try simp only [Act.put, List.setIfInBounds_toArray, List.set_cons_zero, List.set_cons_succ])
          first | refine wpB_skip 9 rfl (by kernel_rfl) (by kernel_rfl) (by kernel_rfl) (by rfl) ?_ | (refine wpB_text 9 (v := ?_) rfl (by kernel_rfl) (by kernel_rfl) (by kernel_rfl) (by rfl) (fun W hW => ?_) ?_; rotate_left; (have k1 := hW; obtain ⟨hc1, hf1⟩ := bcell k1; go_simp; refine comes_v ?_; exact k1))
          (try simp only [Act.put, List.setIfInBounds_toArray, List.set_cons_zero, List.set_cons_succ])
          first | refine wpB_skip 10 rfl (by kernel_rfl) (by kernel_rfl) (by kernel_rfl) (by rfl) ?_ | (refine wpB_text 10 (v := ?_) rfl (by kernel_rfl) (by kernel_rfl) (by kernel_rfl) (by rfl) (fun W hW => ?_) ?_; rotate_left; (have k1 := hW; obtain ⟨hc1, hf1⟩ := bcell k1; go_simp; refine comes_v ?_; exact k1))
          (try simp only [Act.put, List.setIfInBounds_toArray, List.set_cons_zero, List.set_cons_succ])
          first | refine wpB_skip 11 rfl (by kernel_rfl) (by kernel_rfl) (by kernel_rfl) (by rfl) ?_ | (refine wpB_text 11 (v := ?_) rfl (by kernel_rfl) (by kernel_rfl) (by kernel_rfl) (by rfl) (fun W hW => ?_) ?_; rotate_left; (have k1 := hW; obtain ⟨hc1, hf1⟩ := bcell k1; go_simp; refine comes_v ?_; exact k1))
          (try simp only [Act.put, List.setIfInBounds_toArray, List.set_cons_zero, List.set_cons_succ])
          first | refine wpB_skip 12 rfl (by kernel_rfl) (by kernel_rfl) (by kernel_rfl) (by rfl) ?_ | (refine wpB_text 12 (v := ?_) rfl (by kernel_rfl) (by kernel_rfl) (by kernel_rfl) (by rfl) (fun W hW => ?_) ?_; rotate_left; (have k1 := hW; obtain ⟨hc1, hf1⟩ := bcell k1; go_simp; refine comes_v ?_; exact k1))
          (try simp only [Act.put, List.setIfInBounds_toArray, List.set_cons_zero, List.set_cons_succ])
          first | refine wpB_skip 13 rfl (by kernel_rfl) (by kernel_rfl) (by kernel_rfl) (by rfl) ?_ | (refine wpB_text 13 (v := ?_) rfl (by kernel_rfl) (by kernel_rfl) (by kernel_rfl) (by rfl) (fun W hW => ?_) ?_; rotate_left; (have k1 := hW; obtain ⟨hc1, hf1⟩ := bcell k1; go_simp; refine comes_v ?_; exact k1))
          (try simp only [Act.put, List.setIfInBounds_toArray, List.set_cons_zero, List.set_cons_succ])
          first | refine wpB_skip 14 rfl (by kernel_rfl) (by kernel_rfl) (by kernel_rfl) (by rfl) ?_ | (refine wpB_text 14 (v := ?_) rfl (by kernel_rfl) (by kernel_rfl) (by kernel_rfl) (by rfl) (fun W hW => ?_) ?_; rotate_left; (have k1 := hW; obtain ⟨hc1, hf1⟩ := bcell k1; go_simp; refine comes_v ?_; exact k1))
          (try simp only [Act.put, List.setIfInBounds_toArray, List.set_cons_zero, List.set_cons_succ])
          first | refine wpB_skip 15 rfl (by kernel_rfl) (by kernel_rfl) (by kernel_rfl) (by rfl) ?_ | (refine wpB_text 15 (v := ?_) rfl (by kernel_rfl) (by kernel_rfl) (by kernel_rfl) (by rfl) (fun W hW => ?_) ?_; rotate_left; (have k1 := hW; obtain ⟨hc1, hf1⟩ := bcell k1; go_simp; refine comes_v ?_; exact k1))
          (try simp only [Act.put, List.setIfInBounds_toArray, List.set_cons_zero, List.set_cons_succ])
          first | refine wpB_skip 16 rfl (by kernel_rfl) (by kernel_rfl) (by kernel_rfl) (by rfl) ?_ | (refine wpB_text 16 (v := ?_) rfl (by kernel_rfl) (by kernel_rfl) (by kernel_rfl) (by rfl) (fun W hW => ?_) ?_; rotate_left; (have k1 := hW; obtain ⟨hc1, hf1⟩ := bcell k1; go_simp; refine comes_v ?_; exact k1))
          (try simp only [Act.put, List.setIfInBounds_toArray, List.set_cons_zero, List.set_cons_succ])
          refine wpB_done (by kernel_rfl) ?_ _
          intro W hW; have k1 := hW
          rename World => w3
          have HS3 := Lib.hid (HS2.out.up k1)
          clear c30 c31 c50 c51 y0 y1
          go_wp2_with fail
          go_roundg (n - (k + 1))
          case measure => have := HGK.out; omega
          case rel => exact ⟨k + 1, n1, n2, by omega, rfl, by go_num, Lib.hid (by rw [HFS.out, hstep.out]), hnp, HS3⟩
    · have hkn : n = k := by omega
      subst hkn
      have HT : Hid (l.take n = l) := Lib.hid (List.take_of_length_le (by have := HN.out; omega))
      rw [HT.out] at hfo
      have S0 := hS.out
      obtain ⟨u, hu⟩ := S0.c40
      obtain ⟨v, hv⟩ := S0.c41
      have g4 := S0.f4
      have g50 := S0.c50
      have g51 := S0.c51
      have hz := S0.size
      have hz0 : w.heap.size + 1 < wo.heap.size := by omega
      have BF := Below.setCell (Below.setCell S0.bel (p := ⟨w.heap.size + 1, 0, none⟩) (by show w.heap.size ≤ w.heap.size + 1; omega) (.int .i64 n1)) (p := ⟨w.heap.size + 1, 1, none⟩) (by show w.heap.size ≤ w.heap.size + 1; omega) (.int .i64 n2)
      have r0 : ((wo.setCell ⟨w.heap.size + 1, 0, none⟩ (.int .i64 n1)).setCell ⟨w.heap.size + 1, 1, none⟩ (.int .i64 n2)).cell? ⟨w.heap.size + 1, 0, none⟩ = some (.int .i64 n1) := by
        rw [World.cell?_setCell_other _ _ _ _ (by intro e; injection e with e1 e2; omega)]
        exact World.cell?_setCell_same _ _ _ hu
      have r1 : ((wo.setCell ⟨w.heap.size + 1, 0, none⟩ (.int .i64 n1)).setCell ⟨w.heap.size + 1, 1, none⟩ (.int .i64 n2)).cell? ⟨w.heap.size + 1, 1, none⟩ = some (.int .i64 n2) := by
        refine World.cell?_setCell_same _ _ _ (u := v) ?_
        rw [World.cell?_setCell_other _ _ _ _ (by intro e; injection e with e1 e2; omega)]
        exact hv
      clear S0 hS
      go_wp2_with fail
      rw [hfo.out]
      refine bodyPost_ret (v := .agg #[.int .i64 n1, .int .i64 n2]) (by simp [results, Try.results33, go_sem, r0, r1]) rfl ⟨rfl, BF⟩
end Go.Proofs.Ytmejlgjgneiinaa
/- contract: the first of some points, by the library -/
namespace Go.Proofs.Ytmejlgjgneiinaa
open Go.ChangeShapes Go.WideShapes Go.ChangeAt Go.RowKit Go.Joins
set_option linter.unusedVariables false
set_option linter.unusedSimpArgs false
set_option maxRecDepth 4000
/-- how memory stands while the least point is sought: the result, the least one till now -/
structure MnS (w W : World) (n1 n2 : Int) : Prop where
  bel : Below w.heap.size w W
  size : w.heap.size + 1 < W.heap.size
  c40 : ∃ u, W.cell? ⟨w.heap.size, 0, none⟩ = some u
  c41 : ∃ u, W.cell? ⟨w.heap.size, 1, none⟩ = some u
  c50 : W.cell? ⟨w.heap.size + 1, 0, none⟩ = some (.int .i64 n1)
  c51 : W.cell? ⟨w.heap.size + 1, 1, none⟩ = some (.int .i64 n2)
  f4 : ∀ o, W.frozen? ⟨w.heap.size, o, none⟩ = false
  f5 : ∀ o, W.frozen? ⟨w.heap.size + 1, o, none⟩ = false
theorem MnS.up {w W W' : World} {n1 n2 : Int} (h : MnS w W n1 n2) (hb : Below W.heap.size W W') : MnS w W' n1 n2 := by
  obtain ⟨hc, hf⟩ := bcell hb
  have hz := h.size
  obtain ⟨u, hu⟩ := h.c40
  obtain ⟨v, hv⟩ := h.c41
  exact ⟨h.bel.trans (hb.mono h.bel.size), Nat.lt_of_lt_of_le hz hb.size, ⟨u, (hc _ _ (by omega)).trans hu⟩, ⟨v, (hc _ _ (by omega)).trans hv⟩, (hc _ _ (by omega)).trans h.c50, (hc _ _ (by omega)).trans h.c51, fun o => (hf _ _ (by omega)).trans (h.f4 o), fun o => (hf _ _ (by omega)).trans (h.f5 o)⟩
theorem MnS.store {w W : World} {n1 n2 : Int} (h : MnS w W n1 n2) (p1 p2 : Int) : MnS w ((W.setCell ⟨w.heap.size + 1, 0, none⟩ (.int .i64 p1)).setCell ⟨w.heap.size + 1, 1, none⟩ (.int .i64 p2)) p1 p2 := by
  have ne : ∀ (V : World) (b b' o o' : Nat) (v : Value), ¬ (b = b' ∧ o = o') → (V.setCell ⟨b, o, none⟩ v).cell? ⟨b', o', none⟩ = V.cell? ⟨b', o', none⟩ := fun V b b' o o' v h => World.cell?_setCell_other V _ _ _ (fun e => h (by injection e with e1 e2; exact ⟨e1, e2⟩))
  have sm : ∀ (V : World) (b o : Nat) (u v : Value), V.cell? ⟨b, o, none⟩ = some u → (V.setCell ⟨b, o, none⟩ v).cell? ⟨b, o, none⟩ = some v := fun V b o u v h => World.cell?_setCell_same V _ _ h
  have hz := h.size
  obtain ⟨u, hu⟩ := h.c40
  obtain ⟨v, hv⟩ := h.c41
  refine ⟨(h.bel.setCell (p := ⟨w.heap.size + 1, 0, none⟩) (by show w.heap.size ≤ w.heap.size + 1; omega) _).setCell (p := ⟨w.heap.size + 1, 1, none⟩) (by show w.heap.size ≤ w.heap.size + 1; omega) _, by simpa [World.setCell] using hz, ⟨u, ?_⟩, ⟨v, ?_⟩, ?_, ?_, fun o => ?_, fun o => ?_⟩
  · rw [ne _ _ _ _ _ _ (by omega), ne _ _ _ _ _ _ (by omega)]; exact hu
  · rw [ne _ _ _ _ _ _ (by omega), ne _ _ _ _ _ _ (by omega)]; exact hv
  · rw [ne _ _ _ _ _ _ (by omega)]; exact sm _ _ _ _ _ h.c50
  · exact sm _ _ _ _ _ ((ne _ _ _ _ _ _ (by omega)).trans h.c51)
  · rw [World.frozen?_setCell, World.frozen?_setCell]; exact h.f4 o
  · rw [World.frozen?_setCell, World.frozen?_setCell]; exact h.f5 o
set_option maxHeartbeats 8000000 in
theorem minFunc_any (A : Option Addr) (c n : Nat) (l : List (Int × Int)) (w : World) (hln : l.length = n) (h1n : 1 ≤ n) (hn : n ≤ 169) (hpg : ∀ x ∈ l, isPg x = true) (hR : Rd w w.heap.size A l) :
    Calls Try.prog 31 #[.slice A n c, .func (.func 32) #[] #[]] w fun e w' => (∃ m1 m2, e = .returned (.agg #[.int .i64 m1, .int .i64 m2]) ∧ (m1, m2) ∈ l ∧ ∀ x ∈ l, ¬ lxP x (m1, m2)) ∧ Below w.heap.size w w' := by
  have HN := Lib.hid hln
  have HC : Hid (∀ W, Below w.heap.size w W → ∀ i, i < n → ∃ b off, A = some ⟨b, off, none⟩ ∧ b < w.heap.size ∧ W.cell? ⟨b, off + i * 2, none⟩ = some (.int .i64 (vx l i).1) ∧ W.cell? ⟨b, off + i * 2 + 1, none⟩ = some (.int .i64 (vx l i).2)) := Lib.hid (fun W hW i hi => by
    obtain ⟨b, off, e, hb, hc⟩ := hR (by omega)
    obtain ⟨h1, h2⟩ := hc i _ (vx_get (by omega))
    exact ⟨b, off, e, hb, (hW.cell (p := ⟨b, off + i * 2, none⟩) hb).trans h1, (hW.cell (p := ⟨b, off + i * 2 + 1, none⟩) hb).trans h2⟩)
  have HP : Hid (∀ i, i < n → isPg (vx l i) = true) := Lib.hid (fun i hi => hpg _ (List.mem_of_getElem? (vx_get (by omega))))
  have HM : Hid (∀ i, i < n → vx l i ∈ l) := Lib.hid (fun i hi => List.mem_of_getElem? (vx_get (by omega)))
  have HI := Lib.hid (fun x => in_iff (l := l) (p := x))
  clear hR hln hpg
  have e1 : ¬ ((n : Int) < 1) := by omega
  have d1 : decide ((n : Int) < 1) = false := by simp; omega
  obtain ⟨b, off, hA, hb, x0, x1⟩ := HC.out w (Below.refl _ _) 0 (by omega)
  subst hA
  simp only [Nat.zero_mul, Nat.add_zero] at x0 x1
  have hm0 := HM.out 0 (by omega)
  have HC0 : Hid (∀ W, Below w.heap.size w W → ∀ i, i < n → W.cell? ⟨b, off + i * 2, none⟩ = some (.int .i64 (vx l i).1) ∧ W.cell? ⟨b, off + i * 2 + 1, none⟩ = some (.int .i64 (vx l i).2)) := Lib.hid (fun W hW i hi => by
    obtain ⟨b', off', e, _, h1, h2⟩ := HC.out W hW i hi
    injection e with e
    injection e with e1 e2
    subst e1; subst e2
    exact ⟨h1, h2⟩)
  obtain ⟨a1, a2, hae⟩ : ∃ a1 a2, vx l 0 = (a1, a2) := ⟨_, _, rfl⟩
  rw [hae] at x0 x1 hm0
  have HA := Lib.hid (And.intro hae hm0)
  clear hae hm0 HC
  go_enter Try.func31, Try.ntmps31
  go_wp2_with fail
  obtain ⟨W1, hW1⟩ : ∃ W1, W1 = ((w.alloc (.cells #[.int .i64 0, .int .i64 0] 45)).alloc (.cells #[.int .i64 a1, .int .i64 a2] 45)) := ⟨_, rfl⟩
  rw [← hW1]
  have yW10_0 : W1.cell? ⟨w.heap.size, 0, none⟩ = some (.int .i64 0) := by rw [hW1]; go_simp
  have yW10_1 : W1.cell? ⟨w.heap.size, 1, none⟩ = some (.int .i64 0) := by rw [hW1]; go_simp
  have fW10 : ∀ o, W1.frozen? ⟨w.heap.size, o, none⟩ = false := by intro o; rw [hW1]; (repeat rw [frozen?_alloc_cells]); simp [World.frozen?]
  have zW10 : w.heap.size < W1.heap.size := by rw [hW1]; simp <;> omega
  have yW11_0 : W1.cell? ⟨w.heap.size + 1, 0, none⟩ = some (.int .i64 a1) := by rw [hW1]; go_simp
  have yW11_1 : W1.cell? ⟨w.heap.size + 1, 1, none⟩ = some (.int .i64 a2) := by rw [hW1]; go_simp
  have fW11 : ∀ o, W1.frozen? ⟨w.heap.size + 1, o, none⟩ = false := by intro o; rw [hW1]; (repeat rw [frozen?_alloc_cells]); simp [World.frozen?]
  have zW11 : w.heap.size + 1 < W1.heap.size := by rw [hW1]; simp <;> omega
  have BW1 : Below w.heap.size w W1 := by rw [hW1]; exact (Below.alloc (Below.alloc (Below.refl _ _) (by simp <;> omega) _) (by simp <;> omega) _)
  have eW1 : Hid (W1.heap.size = w.heap.size + 2) := Lib.hid (by rw [hW1]; simp)
  clear hW1
  have HS1 : MnS w W1 a1 a2 := ⟨BW1, zW11, ⟨_, yW10_0⟩, ⟨_, yW10_1⟩, yW11_0, yW11_1, fW10, fW11⟩
  go_loopg [6] (n - 1) (fun g i wr => ∃ (k : Nat) (n1 n2 : Int), k ≤ n ∧ 1 ≤ k ∧ g = n - k ∧ i = .int .i64 k ∧ Hid ((n1, n2) ∈ l ∧ ∀ j, j < k → ¬ lxP (vx l j) (n1, n2)) ∧ Hid (MnS w wr n1 n2))
  case atStart =>
    refine ⟨1, a1, a2, h1n, Nat.le_refl _, rfl, rfl, Lib.hid ⟨HA.out.2, ?_⟩, Lib.hid HS1⟩
    intro j hj
    have hj0 : j = 0 := by omega
    subst hj0
    rw [HA.out.1]
    unfold lxP
    omega
  case round =>
    obtain ⟨k, n1, n2, hk, hk1, hg, rfl, hmin, hS⟩ := hrel
    rename World => wo
    have HGK := Lib.hid hg
    clear hg yW10_0 yW10_1 fW10 zW10 yW11_0 yW11_1 fW11 zW11 BW1 eW1 HS1 x0 x1
    by_cases hlt : k < n
    · obtain ⟨x0, x1⟩ := HC0.out wo hS.out.bel k hlt
      have hpp := HP.out k hlt
      have HMK := Lib.hid (HM.out k hlt)
      obtain ⟨p1, p2, hpe⟩ : ∃ p1 p2, vx l k = (p1, p2) := ⟨_, _, rfl⟩
      rw [hpe] at x0 x1 hpp HMK
      have HPE := Lib.hid hpe
      clear hpe
      have hnn : isPg (n1, n2) = true := by
        obtain ⟨i, hi, e⟩ := (HI.out _).1 hmin.out.1
        rw [← e]; exact HP.out i (by rw [← HN.out]; exact hi)
      have KC := Lib.hid (fun W => pegCompare_any p1 p2 n1 n2 W (sz_of hpp) (sz_of hnn))
      have HLT := Lib.hid (cmpP_lt (p := (p1, p2)) (q := (n1, n2)))
      clear hpp hnn
      generalize cmpP (p1, p2) (n1, n2) = cc at *
      have zb := Nat.lt_of_lt_of_le hb hS.out.bel.size
      have hz := hS.out.size
      have c50 := hS.out.c50
      have c51 := hS.out.c51
      by_cases hcc : cc < 0
      · have hmin2 : Hid ((p1, p2) ∈ l ∧ ∀ j, j < k + 1 → ¬ lxP (vx l j) (p1, p2)) := Lib.hid ⟨HMK.out, fun j hj => by
          by_cases hjk : j = k
          · subst hjk; rw [HPE.out]; unfold lxP; omega
          · have h1 := hmin.out.2 j (by omega)
            have h2 := HLT.out.1 hcc
            unfold lxP at *; omega⟩
        go_wp2_with fail
        refine wp_region_B (fun W => Below wo.heap.size wo W) (by kernel_rfl) (by repeat (first | exact Below.refl _ _ | apply Below.drew)) ?_
        first | refine wpB_skip 0 rfl (by kernel_rfl) (by kernel_rfl) (by kernel_rfl) (by rfl) ?_ | (refine wpB_text 0 (v := ?_) rfl (by kernel_rfl) (by kernel_rfl) (by kernel_rfl) (by rfl) (fun W hW => ?_) ?_; rotate_left; (have k1 := hW; obtain ⟨hc1, hf1⟩ := bcell k1; go_simp; refine comes_v ?_; exact k1))
        (try simp only [Act.put, List.setIfInBounds_toArray, List.set_cons_zero, List.set_cons_succ])
        first | refine wpB_skip 1 rfl (by kernel_rfl) (by kernel_rfl) (by kernel_rfl) (by rfl) ?_ | (refine wpB_text 1 (v := ?_) rfl (by kernel_rfl) (by kernel_rfl) (by kernel_rfl) (by rfl) (fun W hW => ?_) ?_; rotate_left; (have k1 := hW; obtain ⟨hc1, hf1⟩ := bcell k1; go_simp; refine comes_v ?_; exact k1))
        (try simp only [Act.put, List.setIfInBounds_toArray, List.set_cons_zero, List.set_cons_succ])
        first | refine wpB_skip 2 rfl (by kernel_rfl) (by kernel_rfl) (by kernel_rfl) (by rfl) ?_ | (refine wpB_text 2 (v := ?_) rfl (by kernel_rfl) (by kernel_rfl) (by kernel_rfl) (by rfl) (fun W hW => ?_) ?_; rotate_left; (have k1 := hW; obtain ⟨hc1, hf1⟩ := bcell k1; go_simp; refine comes_v ?_; exact k1))
        (try simp only [Act.put, List.setIfInBounds_toArray, List.set_cons_zero, List.set_cons_succ])
        first | refine wpB_skip 3 rfl (by kernel_rfl) (by kernel_rfl) (by kernel_rfl) (by rfl) ?_ | (refine wpB_text 3 (v := ?_) rfl (by kernel_rfl) (by kernel_rfl) (by kernel_rfl) (by rfl) (fun W hW => ?_) ?_; rotate_left; (have k1 := hW; obtain ⟨hc1, hf1⟩ := bcell k1; go_simp; refine comes_v ?_; exact k1))
        (try simp only [Act.put, List.setIfInBounds_toArray, List.set_cons_zero, List.set_cons_succ])
        first | refine wpB_skip 4 rfl (by kernel_rfl) (by kernel_rfl) (by kernel_rfl) (by rfl) ?_ | (refine wpB_text 4 (v := ?_) rfl (by kernel_rfl) (by kernel_rfl) (by kernel_rfl) (by rfl) (fun W hW => ?_) ?_; rotate_left; (have k1 := hW; obtain ⟨hc1, hf1⟩ := bcell k1; go_simp; refine comes_v ?_; exact k1))
        (try simp only [Act.put, List.setIfInBounds_toArray, List.set_cons_zero, List.set_cons_succ])
        first | refine wpB_skip 5 rfl (by kernel_rfl) (by kernel_rfl) (by kernel_rfl) (by rfl) ?_ | (refine wpB_text 5 (v := ?_) rfl (by kernel_rfl) (by kernel_rfl) (by kernel_rfl) (by rfl) (fun W hW => ?_) ?_; rotate_left; (have k1 := hW; obtain ⟨hc1, hf1⟩ := bcell k1; go_simp; refine comes_v ?_; exact k1))
        (try simp only [Act.put, List.setIfInBounds_toArray, List.set_cons_zero, List.set_cons_succ])
        first | refine wpB_skip 6 rfl (by kernel_rfl) (by kernel_rfl) (by kernel_rfl) (by rfl) ?_ | (refine wpB_text 6 (v := .int .i64 cc) rfl (by kernel_rfl) (by kernel_rfl) (by kernel_rfl) (by rfl) (fun W hW => ?_) ?_; (have k1 := hW; obtain ⟨hc1, hf1⟩ := bcell k1; go_simp; exact comes_c ( KC.out _) (fun wn hbn => bt_keep k1 hbn)))
        (try simp only [Act.put, List.setIfInBounds_toArray, List.set_cons_zero, List.set_cons_succ])
        first | refine wpB_skip 7 rfl (by kernel_rfl) (by kernel_rfl) (by kernel_rfl) (by rfl) ?_ | (refine wpB_text 7 (v := ?_) rfl (by kernel_rfl) (by kernel_rfl) (by kernel_rfl) (by rfl) (fun W hW => ?_) ?_; rotate_left; (have k1 := hW; obtain ⟨hc1, hf1⟩ := bcell k1; go_simp; refine comes_v ?_; exact k1))
        (try simp only [Act.put, List.setIfInBounds_toArray, List.set_cons_zero, List.set_cons_succ])
        refine wpB_done (by kernel_rfl) ?_ _
        intro W hW; have k1 := hW
        rename World => w3
        have S3 := hS.out.up k1
        have e0 := ((bcell k1).1 _ (off + k * 2) zb).trans x0
        have e1 := ((bcell k1).1 _ (off + k * 2 + 1) zb).trans x1
        have g5 := S3.f5
        have g50 := S3.c50
        have g51 := S3.c51
        have HS3 := Lib.hid (S3.store p1 p2)
        clear c50 c51 x0 x1 S3
        go_wp2_with fail
        go_roundg (n - (k + 1))
        case measure => have := HGK.out; omega
        case rel => exact ⟨k + 1, p1, p2, by omega, by omega, rfl, by go_num, hmin2, HS3⟩
      · have hmin2 : Hid ((n1, n2) ∈ l ∧ ∀ j, j < k + 1 → ¬ lxP (vx l j) (n1, n2)) := Lib.hid ⟨hmin.out.1, fun j hj => by
          by_cases hjk : j = k
          · subst hjk; rw [HPE.out]; exact fun h => hcc (HLT.out.2 h)
          · exact hmin.out.2 j (by omega)⟩
        go_wp2_with fail
        refine wp_region_B (fun W => Below wo.heap.size wo W) (by kernel_rfl) (by repeat (first | exact Below.refl _ _ | apply Below.drew)) ?_
        first | refine wpB_skip 0 rfl (by kernel_rfl) (by kernel_rfl) (by kernel_rfl) (by rfl) ?_ | (refine wpB_text 0 (v := ?_) rfl (by kernel_rfl) (by kernel_rfl) (by kernel_rfl) (by rfl) (fun W hW => ?_) ?_; rotate_left; (have k1 := hW; obtain ⟨hc1, hf1⟩ := bcell k1; go_simp; refine comes_v ?_; exact k1))
        (try simp only [Act.put, List.setIfInBounds_toArray, List.set_cons_zero, List.set_cons_succ])
        first | refine wpB_skip 1 rfl (by kernel_rfl) (by kernel_rfl) (by kernel_rfl) (by rfl) ?_ | (refine wpB_text 1 (v := ?_) rfl (by kernel_rfl) (by kernel_rfl) (by kernel_rfl) (by rfl) (fun W hW => ?_) ?_; rotate_left; (have k1 := hW; obtain ⟨hc1, hf1⟩ := bcell k1; go_simp; refine comes_v ?_; exact k1))
        (try simp only [Act.put, List.setIfInBounds_toArray, List.set_cons_zero, List.set_cons_succ])
        first | refine wpB_skip 2 rfl (by kernel_rfl) (by kernel_rfl) (by kernel_rfl) (by rfl) ?_ | (refine wpB_text 2 (v := ?_) rfl (by kernel_rfl) (by kernel_rfl) (by kernel_rfl) (by rfl) (fun W hW => ?_) ?_; rotate_left; (have k1 := hW; obtain ⟨hc1, hf1⟩ := bcell k1; go_simp; refine comes_v ?_; exact k1))
        (try simp only [Act.put, List.setIfInBounds_toArray, List.set_cons_zero, List.set_cons_succ])
        first | refine wpB_skip 3 rfl (by kernel_rfl) (by kernel_rfl) (by kernel_rfl) (by rfl) ?_ | (refine wpB_text 3 (v := ?_) rfl (by kernel_rfl) (by kernel_rfl) (by kernel_rfl) (by rfl) (fun W hW => ?_) ?_; rotate_left; (have k1 := hW; obtain ⟨hc1, hf1⟩ := bcell k1; go_simp; refine comes_v ?_; exact k1))
        (try simp only [Act.put, List.setIfInBounds_toArray, List.set_cons_zero, List.set_cons_succ])
        first | refine wpB_skip 4 rfl (by kernel_rfl) (by kernel_rfl) (by kernel_rfl) (by rfl) ?_ | (refine wpB_text 4 (v := ?_) rfl (by kernel_rfl) (by kernel_rfl) (by kernel_rfl) (by rfl) (fun W hW => ?_) ?_; rotate_left; (have k1 := hW; obtain ⟨hc1, hf1⟩ := bcell k1; go_simp; refine comes_v ?_; exact k1))
        (try simp only [Act.put, List.setIfInBounds_toArray, List.set_cons_zero, List.set_cons_succ])
        first | refine wpB_skip 5 rfl (by kernel_rfl) (by kernel_rfl) (by kernel_rfl) (by rfl) ?_ | (refine wpB_text 5 (v := ?_) rfl (by kernel_rfl) (by kernel_rfl) (by kernel_rfl) (by rfl) (fun W hW => ?_) ?_; rotate_left; (have k1 := hW; obtain ⟨hc1, hf1⟩ := bcell k1; go_simp; refine comes_v ?_; exact k1))
        (try simp only [Act.put, List.setIfInBounds_toArray, List.set_cons_zero, List.set_cons_succ])
        first | refine wpB_skip 6 rfl (by kernel_rfl) (by kernel_rfl) (by kernel_rfl) (by rfl) ?_ | (refine wpB_text 6 (v := .int .i64 cc) rfl (by kernel_rfl) (by kernel_rfl) (by kernel_rfl) (by rfl) (fun W hW => ?_) ?_; (have k1 := hW; obtain ⟨hc1, hf1⟩ := bcell k1; go_simp; exact comes_c ( KC.out _) (fun wn hbn => bt_keep k1 hbn)))
        (try simp only [Act.put, List.setIfInBounds_toArray, List.set_cons_zero, List.set_cons_succ])
        first | refine wpB_skip 7 rfl (by kernel_rfl) (by kernel_rfl) (by kernel_rfl) (by rfl) ?_ | (refine wpB_text 7 (v := ?_) rfl (by kernel_rfl) (by kernel_rfl) (by kernel_rfl) (by rfl) (fun W hW => ?_) ?_; rotate_left; (have k1 := hW; obtain ⟨hc1, hf1⟩ := bcell k1; go_simp; refine comes_v ?_; exact k1))
        (try simp only [Act.put, List.setIfInBounds_toArray, List.set_cons_zero, List.set_cons_succ])
        refine wpB_done (by kernel_rfl) ?_ _
        intro W hW; have k1 := hW
        rename World => w3
        have HS3 := Lib.hid (hS.out.up k1)
        clear c50 c51 x0 x1
        go_wp2_with fail
        go_roundg (n - (k + 1))
        case measure => have := HGK.out; omega
        case rel => exact ⟨k + 1, n1, n2, by omega, by omega, rfl, by go_num, hmin2, HS3⟩
    · have hkn : n = k := by omega
      subst hkn
      have S0 := hS.out
      obtain ⟨u, hu⟩ := S0.c40
      obtain ⟨v, hv⟩ := S0.c41
      have g4 := S0.f4
      have g50 := S0.c50
      have g51 := S0.c51
      have hz := S0.size
      have hz0 : w.heap.size < wo.heap.size := by omega
      have BF := Below.setCell (Below.setCell S0.bel (p := ⟨w.heap.size, 0, none⟩) (by show w.heap.size ≤ w.heap.size; omega) (.int .i64 n1)) (p := ⟨w.heap.size, 1, none⟩) (by show w.heap.size ≤ w.heap.size; omega) (.int .i64 n2)
      have r0 : ((wo.setCell ⟨w.heap.size, 0, none⟩ (.int .i64 n1)).setCell ⟨w.heap.size, 1, none⟩ (.int .i64 n2)).cell? ⟨w.heap.size, 0, none⟩ = some (.int .i64 n1) := by
        rw [World.cell?_setCell_other _ _ _ _ (by intro e; injection e with e1 e2; omega)]
        exact World.cell?_setCell_same _ _ _ hu
      have r1 : ((wo.setCell ⟨w.heap.size, 0, none⟩ (.int .i64 n1)).setCell ⟨w.heap.size, 1, none⟩ (.int .i64 n2)).cell? ⟨w.heap.size, 1, none⟩ = some (.int .i64 n2) := by
        refine World.cell?_setCell_same _ _ _ (u := v) ?_
        rw [World.cell?_setCell_other _ _ _ _ (by intro e; injection e with e1 e2; omega)]
        exact hv
      have hfin : Hid ((n1, n2) ∈ l ∧ ∀ x ∈ l, ¬ lxP x (n1, n2)) := Lib.hid ⟨hmin.out.1, fun x hx => by
        obtain ⟨i, hi, e⟩ := (HI.out x).1 hx
        rw [← e]; exact hmin.out.2 i (by rw [← HN.out]; exact hi)⟩
      clear S0 hS
      go_wp2_with fail
      refine bodyPost_ret (v := .agg #[.int .i64 n1, .int .i64 n2]) (by simp [results, Try.results31, go_sem, r0, r1]) rfl ⟨⟨n1, n2, rfl, hfin.out⟩, BF⟩
end Go.Proofs.Ytmejlgjgneiinaa
/- contract: the program goes from corner to corner around the pegs -/
namespace Go.Proofs.Ytmejlgjgneiinaa
open Go.ChangeShapes Go.WideShapes Go.ChangeAt Go.RowKit Go.Joins
set_option linter.unusedVariables false
set_option linter.unusedSimpArgs false
set_option maxRecDepth 4000
set_option maxHeartbeats 16000000 in
theorem bandAround_any (A : Option Addr) (c n : Nat) (l : List (Int × Int)) (w : World) (hln : l.length = n) (h1n : 1 ≤ n) (hn : n ≤ 169) (hnd : l.Nodup) (hpg : ∀ x ∈ l, isPg x = true) (hR : Rd w w.heap.size A l) :
    Calls Try.prog 19 #[.slice A n c] w fun e w' => (∃ v, e = .returned v ∧ w'.ownsRow w.heap.size 45 2 v (MH.hull (srt l)).length (flat (MH.hull (srt l)))) ∧ Below w.heap.size w w' := by
  obtain ⟨i0, hi0, hz0, hz1, hz2⟩ := info_parts peg_info
  have HI := Lib.hid (And.intro hi0 (And.intro hz0 (And.intro hz1 hz2)))
  obtain ⟨h0, hAr⟩ := around_of hnd (by omega) (by omega)
  have KM := Lib.hid (minFunc_any A c n l w hln h1n hn hpg hR)
  have KN := Lib.hid (fun q1 q2 W (hq : (q1, q2) ∈ l) (hb : Below w.heap.size w W) => nextCorner_any A c n l q1 q2 W hln hn hpg (hpg _ hq) (rd_more (rd_below hR hb (Nat.le_refl _)) hb.size))
  have HA := Lib.hid hAr
  clear hR hln hpg hnd hAr hi0 hz0 hz1 hz2
  generalize MH.hull (srt l) ++ [h0] = HH at *
  generalize MH.hull (srt l) = H at *
  obtain ⟨m, hm⟩ : ∃ m, m = H.length := ⟨_, rfl⟩
  have HM := Lib.hid hm
  have hm60 : m ≤ 400 := by rw [hm]; exact HA.out.few
  have hmp : 0 < m := by rw [hm]; exact HA.out.pos
  clear hm
  obtain ⟨a1, a2⟩ := h0
  go_enter Try.func19, Try.ntmps19
  go_wp2_with fail
  refine KM.out.mono ?_; rintro e w1 ⟨⟨m1, m2, rfl, hmm, hmin⟩, hb1⟩
  have hme := HA.out.least.2 _ hmm hmin
  injection hme with e1 e2
  subst e1; subst e2
  clear hmm hmin KM
  go_wp2_with fail
  obtain ⟨W2, hW2⟩ : ∃ W, W = (w1.alloc (.cells #[.int .i64 m1, .int .i64 m2] 45)).alloc (.cells #[.int .i64 m1, .int .i64 m2] 45) := ⟨_, rfl⟩
  rw [← hW2]
  have own2 : W2.ownsRow w.heap.size 45 2 (.slice (some ⟨w1.heap.size + 1, 0, none⟩) 1 1) 1 (flat [(m1, m2)]) := by
    rw [hW2]
    have h := World.ownsRow_lit (base := w.heap.size) (e := 45) (size := 2) (w1.alloc (.cells #[.int .i64 m1, .int .i64 m2] 45)) #[.int .i64 m1, .int .i64 m2] 1 (by have := hb1.size; simp; omega) (by decide) rfl
    rw [show flat [(m1, m2)] = [.int .i64 m1, .int .i64 m2] from rfl]
    simpa using h
  have x30 : W2.cell? ⟨w1.heap.size, 0, none⟩ = some (.int .i64 m1) := by rw [hW2]; go_simp
  have x31 : W2.cell? ⟨w1.heap.size, 1, none⟩ = some (.int .i64 m2) := by rw [hW2]; go_simp
  have z3 : w1.heap.size + 1 < W2.heap.size := by rw [hW2]; simp
  have BW2 : Below w1.heap.size w1 W2 := by rw [hW2]; exact ((Below.refl _ _).alloc (Nat.le_refl _) _).alloc (by simp) _
  clear hW2
  have BW := hb1.trans (BW2.mono hb1.size)
  refine (KN.out m1 m2 _ HA.out.least.1 BW).mono ?_; rintro e w3 ⟨rfl, hb3⟩
  have hnx := HA.out.next 0 HA.out.pos
  rw [HA.out.first] at hnx
  rw [hnx]
  obtain ⟨q1, q2, hqe⟩ : ∃ q1 q2, pt HH (0 + 1) = (q1, q2) := ⟨_, _, rfl⟩
  rw [hqe]
  have HQE := Lib.hid hqe
  have hz13 := hb1.size
  have hz33 := hb3.size
  have HT1 : Hid (H.take 1 = [(m1, m2)]) := Lib.hid (by
    have e1 := HA.out.same 0 HA.out.pos
    rw [HA.out.first] at e1
    rw [show (1 : Nat) = 0 + 1 from rfl, List.take_add_one, pt_get HA.out.pos, ← e1]
    rfl)
  have HS0 : Hid (BdS w (w3.alloc (.cells #[.int .i64 q1, .int .i64 q2] 45)) (.slice (some ⟨w1.heap.size + 1, 0, none⟩) 1 1) (0 + 1) (H.take (0 + 1)) w1.heap.size w3.heap.size m1 m2 q1 q2) := Lib.hid (by
    have B3 := BW.trans (hb3.mono BW.size)
    obtain ⟨hc, _⟩ := bcell hb3
    rw [show H.take (0 + 1) = [(m1, m2)] from HT1.out]
    exact ⟨Below.alloc B3 B3.size _, (ownB own2 hb3 (Nat.le_refl _)).alloc _, by omega, by omega, by simp; omega, by simp, (World.cell?_alloc_lt w3 _ ⟨w1.heap.size, 0, none⟩ (by show w1.heap.size < w3.heap.size; omega)).trans ((hc _ _ (by omega)).trans x30), (World.cell?_alloc_lt w3 _ ⟨w1.heap.size, 1, none⟩ (by show w1.heap.size < w3.heap.size; omega)).trans ((hc _ _ (by omega)).trans x31), by go_simp, by go_simp, fun o => by rw [frozen?_alloc_cells]; simp [World.frozen?], by simp [Value.ownBlock], by simp [Value.ownBlock]; omega, by omega⟩)
  clear hnx hqe own2 x30 x31 hb3 BW BW2 z3
  go_wp2_with fail
  go_loopg [4, 5] m (fun g o p wr => ∃ (i : Nat) (v : Value) (g5 : Nat) (q1 q2 : Int), v = o ∧ i < m ∧ g = m - i ∧ p = .pointer (some ⟨g5, 0, none⟩) ∧ Hid (pt HH (i + 1) = (q1, q2)) ∧ Hid (BdS w wr v (i + 1) (H.take (i + 1)) w1.heap.size g5 m1 m2 q1 q2))
  case atStart => exact ⟨0, _, w3.heap.size, q1, q2, rfl, hmp, rfl, rfl, HQE, HS0⟩
  case round =>
    clear HS0 HQE
    obtain ⟨i, v, g5, q1, q2, rfl, hi, hg, rfl, hq, hS⟩ := hrel
    rename World => wo
    have HGK := Lib.hid hg
    clear hg
    have c30 := hS.out.c30
    have c31 := hS.out.c31
    have c50 := hS.out.c50
    have c51 := hS.out.c51
    have z5 := hS.out.z5
    have z3 := hS.out.z3
    have hbz := hS.out.bel.size
    by_cases hi2 : i + 1 < m
    · have hne := HA.out.diff (i + 1) (by omega) (by rw [← HM.out]; exact hi2)
      rw [hq.out] at hne
      have hql := HA.out.mem (i + 1) (by rw [← HM.out]; omega)
      rw [hq.out] at hql
      have HTK : Hid (H.take (i + 1 + 1) = H.take (i + 1) ++ [(q1, q2)]) := Lib.hid (by
        have e1 := HA.out.same (i + 1) (by rw [← HM.out]; exact hi2)
        rw [List.take_add_one (i := i + 1), pt_get (by rw [← HM.out]; exact hi2), ← e1, hq.out]
        rfl)
      have HBU : Hid (BdS w (wo.alloc (.cells #[.int .i64 q1, .int .i64 q2] 45)) v (i + 1) (H.take (i + 1)) w1.heap.size g5 m1 m2 q1 q2) := Lib.hid (hS.out.up ((Below.refl _ _).alloc (Nat.le_refl _) _))
      have HO1 := Lib.hid HBU.out.own
      have hz1 := HBU.out.bel.size
      by_cases h1 : q1 = m1
      · have h2 : ¬ q2 = m2 := fun h => hne (by rw [h1, h])
        subst h1
        clear hne
        go_wp2_with (at_builtin; refine wpList_append_own_at _ rfl (.tmp 19) (.tmp 21) 26 rfl w.heap.size 45 i0 (.agg #[.int .i64 0, .int .i64 0]) 2 16 Try.underlying26 HI.out.1 HI.out.2.1 HI.out.2.2.1 HI.out.2.2.2 rfl (by decide) v (i + 1) (flat (H.take (i + 1))) rfl HO1.out ⟨wo.heap.size, 0, none⟩ 1 1 [.int .i64 q1, .int .i64 q2] rfl rfl (two_cells (by go_simp) (by go_simp)) (two_one _ _) (by unfold maxLen; omega) (by omega) hz1 ?_)
        intro v' w9 own9 hgr9 _ hat
        have BU := HBU.out
        have hsz9 := hgr9.size
        have hsw : wo.heap.size < (wo.alloc (.cells #[.int .i64 q1, .int .i64 q2] 45)).heap.size := by simp
        have d30 := hgr9.cell BU.c30 (fun e => BU.n3 e.symm)
        have d31 := hgr9.cell BU.c31 (fun e => BU.n3 e.symm)
        have d50 := hgr9.cell BU.c50 (fun e => BU.n5 e.symm)
        have d51 := hgr9.cell BU.c51 (fun e => BU.n5 e.symm)
        have z3' := Nat.lt_of_lt_of_le BU.z3 hsz9
        have z5' := Nat.lt_of_lt_of_le BU.z5 hsz9
        have B9 := BU.bel.grown hgr9 BU.bel.size (fun g hg => (World.ownsRow.lt BU.own g hg).1)
        have n3' : v'.ownBlock ≠ some w1.heap.size := by
          rcases hat with h | h
          · rw [h]; exact BU.n3
          · rw [h]; intro e; injection e with e; have := BU.z3; omega
        have nl9 : ∀ g, v'.ownBlock = some g → g < w9.heap.size := fun g hg => (World.ownsRow.lt own9 g hg).2
        have HO9 : Hid (w9.ownsRow w.heap.size 45 2 v' (i + 1 + 1) (flat (H.take (i + 1 + 1)))) := Lib.hid (by
          rw [HTK.out, flat_snoc]
          exact own9)
        have HL3 := Lib.hid BU.l3
        clear own9 hgr9 hat BU HBU HO1 hS
        go_wp2_with fail
        obtain ⟨Wq, hWq⟩ : ∃ W, W = w9.alloc (.cells #[.int .i64 q1, .int .i64 q2] 45) := ⟨_, rfl⟩
        rw [← hWq]
        have SQ : BdS w Wq v' (i + 1 + 1) (H.take (i + 1 + 1)) w1.heap.size w9.heap.size q1 m2 q1 q2 := by
          rw [hWq]
          exact ⟨Below.alloc B9 B9.size _, HO9.out.alloc _, HL3.out, B9.size, by simp; omega, by simp, (World.cell?_alloc_lt w9 _ ⟨w1.heap.size, 0, none⟩ z3').trans d30, (World.cell?_alloc_lt w9 _ ⟨w1.heap.size, 1, none⟩ z3').trans d31, by go_simp, by go_simp, fun o => by rw [frozen?_alloc_cells]; simp [World.frozen?], n3', fun e => absurd (nl9 _ e) (Nat.lt_irrefl _), Nat.ne_of_lt z3'⟩
        have x50 := SQ.c50
        have x51 := SQ.c51
        have HSQ := Lib.hid SQ
        clear hWq SQ d30 d31 d50 d51 HO9 B9
        refine (KN.out q1 q2 _ hql HSQ.out.bel).mono ?_; rintro e w10 ⟨rfl, hb10⟩
        have S10 := HSQ.out.up hb10
        have y50 := S10.c50
        have y51 := S10.c51
        have yf := S10.f5
        obtain ⟨r1, r2, hre⟩ : ∃ r1 r2, pt HH (i + 1 + 1) = (r1, r2) := ⟨_, _, rfl⟩
        have hnx := HA.out.next (i + 1) (by rw [← HM.out]; exact hi2)
        rw [hq.out, hre] at hnx
        rw [hnx]
        have HS11 := Lib.hid (S10.store r1 r2)
        have HRE := Lib.hid hre
        clear S10 x50 x51 hre hnx hb10
        go_wp2_with fail
        go_roundg (m - (i + 1))
        case measure => have := HGK.out; omega
        case rel => exact ⟨i + 1, v', w9.heap.size, r1, r2, rfl, hi2, rfl, rfl, HRE, HS11⟩

      · clear hne
        go_wp2_with (at_builtin; refine wpList_append_own_at _ rfl (.tmp 19) (.tmp 21) 26 rfl w.heap.size 45 i0 (.agg #[.int .i64 0, .int .i64 0]) 2 16 Try.underlying26 HI.out.1 HI.out.2.1 HI.out.2.2.1 HI.out.2.2.2 rfl (by decide) v (i + 1) (flat (H.take (i + 1))) rfl HO1.out ⟨wo.heap.size, 0, none⟩ 1 1 [.int .i64 q1, .int .i64 q2] rfl rfl (two_cells (by go_simp) (by go_simp)) (two_one _ _) (by unfold maxLen; omega) (by omega) hz1 ?_)
        intro v' w9 own9 hgr9 _ hat
        have BU := HBU.out
        have hsz9 := hgr9.size
        have hsw : wo.heap.size < (wo.alloc (.cells #[.int .i64 q1, .int .i64 q2] 45)).heap.size := by simp
        have d30 := hgr9.cell BU.c30 (fun e => BU.n3 e.symm)
        have d31 := hgr9.cell BU.c31 (fun e => BU.n3 e.symm)
        have d50 := hgr9.cell BU.c50 (fun e => BU.n5 e.symm)
        have d51 := hgr9.cell BU.c51 (fun e => BU.n5 e.symm)
        have z3' := Nat.lt_of_lt_of_le BU.z3 hsz9
        have z5' := Nat.lt_of_lt_of_le BU.z5 hsz9
        have B9 := BU.bel.grown hgr9 BU.bel.size (fun g hg => (World.ownsRow.lt BU.own g hg).1)
        have n3' : v'.ownBlock ≠ some w1.heap.size := by
          rcases hat with h | h
          · rw [h]; exact BU.n3
          · rw [h]; intro e; injection e with e; have := BU.z3; omega
        have nl9 : ∀ g, v'.ownBlock = some g → g < w9.heap.size := fun g hg => (World.ownsRow.lt own9 g hg).2
        have HO9 : Hid (w9.ownsRow w.heap.size 45 2 v' (i + 1 + 1) (flat (H.take (i + 1 + 1)))) := Lib.hid (by
          rw [HTK.out, flat_snoc]
          exact own9)
        have HL3 := Lib.hid BU.l3
        clear own9 hgr9 hat BU HBU HO1 hS
        go_wp2_with fail
        obtain ⟨Wq, hWq⟩ : ∃ W, W = w9.alloc (.cells #[.int .i64 q1, .int .i64 q2] 45) := ⟨_, rfl⟩
        rw [← hWq]
        have SQ : BdS w Wq v' (i + 1 + 1) (H.take (i + 1 + 1)) w1.heap.size w9.heap.size m1 m2 q1 q2 := by
          rw [hWq]
          exact ⟨Below.alloc B9 B9.size _, HO9.out.alloc _, HL3.out, B9.size, by simp; omega, by simp, (World.cell?_alloc_lt w9 _ ⟨w1.heap.size, 0, none⟩ z3').trans d30, (World.cell?_alloc_lt w9 _ ⟨w1.heap.size, 1, none⟩ z3').trans d31, by go_simp, by go_simp, fun o => by rw [frozen?_alloc_cells]; simp [World.frozen?], n3', fun e => absurd (nl9 _ e) (Nat.lt_irrefl _), Nat.ne_of_lt z3'⟩
        have x50 := SQ.c50
        have x51 := SQ.c51
        have HSQ := Lib.hid SQ
        clear hWq SQ d30 d31 d50 d51 HO9 B9
        refine (KN.out q1 q2 _ hql HSQ.out.bel).mono ?_; rintro e w10 ⟨rfl, hb10⟩
        have S10 := HSQ.out.up hb10
        have y50 := S10.c50
        have y51 := S10.c51
        have yf := S10.f5
        obtain ⟨r1, r2, hre⟩ : ∃ r1 r2, pt HH (i + 1 + 1) = (r1, r2) := ⟨_, _, rfl⟩
        have hnx := HA.out.next (i + 1) (by rw [← HM.out]; exact hi2)
        rw [hq.out, hre] at hnx
        rw [hnx]
        have HS11 := Lib.hid (S10.store r1 r2)
        have HRE := Lib.hid hre
        clear S10 x50 x51 hre hnx hb10
        go_wp2_with fail
        go_roundg (m - (i + 1))
        case measure => have := HGK.out; omega
        case rel => exact ⟨i + 1, v', w9.heap.size, r1, r2, rfl, hi2, rfl, rfl, HRE, HS11⟩

    · have him : m = i + 1 := by omega
      have hql : pt HH m = (m1, m2) := by rw [HM.out]; exact HA.out.last
      rw [him] at hql
      have hqq := hq.out
      rw [hql] at hqq
      injection hqq with e1 e2
      subst e1; subst e2
      have HTL : Hid (H.take (i + 1) = H) := Lib.hid (List.take_of_length_le (by rw [← HM.out]; omega))
      have HLN : Hid (H.length = i + 1) := Lib.hid (by rw [← HM.out]; exact him)
      clear hql
      go_wp2_with fail
      go_ret
      exact ⟨⟨_, rfl, by have h := hS.out.own; rw [HTL.out] at h; rw [HLN.out]; exact h⟩, hS.out.bel⟩
end Go.Proofs.Ytmejlgjgneiinaa
/- contracts: BandOfSolutions, on both sides -/
namespace Go.Proofs.Ytmejlgjgneiinaa
open Go.ChangeShapes Go.WideShapes Go.ChangeAt Go.RowKit Go.Joins
set_option linter.unusedVariables false
set_option linter.unusedSimpArgs false
set_option maxRecDepth 4000
theorem bX_inj {m a b : Nat} (h : bX m a = bX m b) : a = b := by
  unfold bX at h
  injection h with h1 h2
  have e1 : a / m = b / m := by omega
  have e2 : a % m = b % m := by omega
  rw [← Nat.div_add_mod a m, ← Nat.div_add_mod b m, e1, e2]
theorem solK_nodup (f : Nat → Int) (n m k : Nat) : (solK f n m k).Nodup := by
  unfold solK firsts
  refine List.Pairwise.filter _ ?_
  rw [List.pairwise_map]
  exact (List.nodup_range (n := k)).imp fun hab he => hab (bX_inj he)
theorem solK_pg {f : Nat → Int} {n m k : Nat} (hm : m ≤ 13) (hk : k ≤ m * m) : ∀ x ∈ solK f n m k, isPg x = true := by
  intro x hx
  unfold solK firsts at hx
  obtain ⟨i, hi, rfl⟩ := List.mem_map.1 (List.mem_filter.1 hx).1
  have hi2 := List.mem_range.1 hi
  have hmp : 0 < m := by
    rcases Nat.eq_zero_or_pos m with h | h
    · subst h; omega
    · exact h
  have h1 : i / m < m := Nat.div_lt_of_lt_mul (by omega)
  have h2 := Nat.mod_lt i hmp
  unfold isPg isPegB bX
  generalize i / m = d at *
  generalize i % m = r at *
  simp only [Bool.and_eq_true, decide_eq_true_eq]
  omega
theorem solP_facts (s : Int) (n : Nat) (f : Nat → Int) : (solP s n f).length ≤ 169 ∧ (solP s n f).Nodup ∧ ∀ x ∈ solP s n f, isPg x = true := by
  cases h : puzB s n f
  · rw [solP_f h]; simp
  · obtain ⟨ns, rfl⟩ := nat_of h
    have h12 := puzB_t h
    rw [solP_t h]
    have h1 := solK_len f n (ns + 1) ((ns + 1) * (ns + 1))
    have h2 : (ns + 1) * (ns + 1) ≤ 169 := Nat.le_trans (Nat.mul_le_mul (show ns + 1 ≤ 13 by omega) (show ns + 1 ≤ 13 by omega)) (Nat.le_refl _)
    exact ⟨by omega, solK_nodup _ _ _ _, solK_pg (by omega) (Nat.le_refl _)⟩
/-- the band of a list; of none, nothing -/
noncomputable def bsP (l : List (Int × Int)) : List (Int × Int) := if 0 < l.length then MH.hull (srt l) else []
theorem bsP_pos {l : List (Int × Int)} (h : 0 < l.length) : bsP l = MH.hull (srt l) := if_pos h
theorem bsP_nil : bsP [] = [] := rfl
theorem bsP_len (s : Int) (n : Nat) (f : Nat → Int) : (bsP (solP s n f)).length ≤ 1048576 := by
  have h := (solP_facts s n f).1
  unfold bsP
  split
  · have h1 := hull_len (s := srt (solP s n f))
    rw [srt_len] at h1
    omega
  · simp
theorem retL_own2 {w w' : World} {v : Value} {m : List (Int × Int)} (h : w'.ownsRow w.heap.size 45 2 v m.length (flat m)) (hb : Below w.heap.size w w') : RetL w m true (.returned (.tuple #[v, .bool true])) w' := by
  obtain ⟨A, c, rfl, h1, h2, h3⟩ := rw_of_own h
  exact ⟨A, c, rfl, h1, h2, hb, h3⟩
theorem bs_false : decide (0 < ([] : List (Int × Int)).length) = false := rfl
theorem implBandOfSolutions_any (s : Int) (A : Option Addr) (c n : Nat) (f : Nat → Int) (w : World) (hm : n ≤ 1048576) (hR : RdI w w.heap.size A (n * 4) f) :
    Calls Try.prog 7 #[.agg #[.int .i64 s, .slice A n c]] w (RetL w (bsP (solP s n f)) (decide (0 < (solP s n f).length))) := by
  have HB := Lib.hid (Below.alloc (Below.refl w.heap.size w) (Nat.le_refl _) (.cells #[.int .i64 s, .slice A n c] 31))
  have K := Lib.hid (fun W (hb : Below w.heap.size w W) => implSolutions_any s A c n f W hm (rdi_below hR hb (Nat.le_refl _)))
  have HF := Lib.hid (solP_facts s n f)
  clear hR
  generalize puzB s n f = b at *
  generalize solP s n f = m at *
  rcases Nat.eq_zero_or_pos m.length with h0 | h0
  · obtain rfl := List.eq_nil_of_length_eq_zero h0
    clear h0 HF
    rw [bsP_nil, bs_false]
    go_enter Try.func7, Try.ntmps7
    go_wp2_with fail
    refine (K.out _ HB.out).mono ?_; rintro e w1 ⟨A2, c2, rfl, q1, q2, hb2, q3⟩
    have B1 := HB.out.trans (hb2.mono HB.out.size)
    clear hb2 K
    clear q3 q1 q2
    simp only [List.length_nil]
    go_wp2_with fail
    go_ret2
    exact retL_nil B1
  · rw [bsP_pos h0, decide_eq_true h0]
    have hnz : ¬ ((m.length : Nat) : Int) = 0 := by omega
    have KB := Lib.hid (fun W A2 c2 (hR : Rd W W.heap.size A2 m) => bandAround_any A2 c2 m.length m W rfl h0 HF.out.1 HF.out.2.1 HF.out.2.2 hR)
    generalize MH.hull (srt m) = H at *
    go_enter Try.func7, Try.ntmps7
    go_wp2_with fail
    refine (K.out _ HB.out).mono ?_; rintro e w1 ⟨A2, c2, rfl, q1, q2, hb2, q3⟩
    have B1 := HB.out.trans (hb2.mono HB.out.size)
    clear hb2 K
    have hR1 := Lib.hid (rw_rd q3)
    clear q1 q2 q3
    go_wp2_with fail
    refine (KB.out _ _ _ hR1.out).mono ?_; rintro e w9 ⟨⟨v, rfl, ho⟩, hb3⟩
    have HO := Lib.hid ho
    clear ho
    go_wp2_with fail
    go_ret2
    exact retL_up B1 (retL_own2 HO.out hb3)
theorem specBandOfSolutions_any (s : Int) (A : Option Addr) (c n : Nat) (f : Nat → Int) (w : World) (hm : n ≤ 1048576) (hR : RdI w w.heap.size A (n * 4) f) :
    Calls Try.prog 5 #[.agg #[.int .i64 s, .slice A n c]] w (RetL w (bsP (solP s n f)) (decide (0 < (solP s n f).length))) := by
  have HB := Lib.hid (Below.alloc (Below.refl w.heap.size w) (Nat.le_refl _) (.cells #[.int .i64 s, .slice A n c] 31))
  have K := Lib.hid (fun W (hb : Below w.heap.size w W) => pzGood_any s A c n f W hm (rdi_below hR hb (Nat.le_refl _)))
  have P0 := Lib.hid (pbx_new w s A n c 31)
  cases hp : puzB s n f
  · rw [solP_f hp, bsP_nil, bs_false]
    rw [hp] at K
    clear hp hR
    go_enter Try.func5, Try.ntmps5
    go_wp2_with fail
    refine (K.out _ HB.out).mono ?_; rintro e w1 ⟨rfl, hb1⟩
    go_wp2_with fail
    go_ret2
    exact retL_nil (HB.out.trans (hb1.mono HB.out.size))
  · have HF := Lib.hid (solP_facts s n f)
    obtain ⟨ns, rfl⟩ := nat_of hp
    rw [solP_t hp] at HF ⊢
    have K2 := Lib.hid (fun W (hb : Below w.heap.size w W) => pzAll_any ns A c n f W hp (rdi_below hR hb (Nat.le_refl _)))
    rw [hp] at K
    clear hp hR
    generalize solK f n (ns + 1) ((ns + 1) * (ns + 1)) = m at *
    rcases Nat.eq_zero_or_pos m.length with h0 | h0
    · obtain rfl := List.eq_nil_of_length_eq_zero h0
      clear h0 HF
      rw [bsP_nil, bs_false]
      go_enter Try.func5, Try.ntmps5
      go_wp2_with fail
      refine (K.out _ HB.out).mono ?_; rintro e w1 ⟨rfl, hb1⟩
      have P1 := pbx_below P0.out hb1
      have B0 := HB.out.trans (hb1.mono HB.out.size)
      have p0 := P1.c0
      have p1 := P1.c1
      have pz := P1.z
      clear hb1 P1 K
      go_wp2_with fail
      refine (K2.out _ B0).mono ?_; rintro e w2 ⟨A2, c2, rfl, q1, q2, hb2, q3⟩
      have B1 := B0.trans (hb2.mono B0.size)
      clear hb2 K2 p0 p1 pz B0
      clear q3 q1 q2
      simp only [List.length_nil]
      go_wp2_with fail
      go_ret2
      exact retL_nil B1
    · rw [bsP_pos h0, decide_eq_true h0]
      have hnz : ¬ ((m.length : Nat) : Int) = 0 := by omega
      have KB := Lib.hid (fun W A2 c2 (hR : Rd W W.heap.size A2 m) => bdBand_any A2 c2 m.length m W rfl HF.out.1 HF.out.2.2 hR)
      generalize MH.hull (srt m) = H at *
      go_enter Try.func5, Try.ntmps5
      go_wp2_with fail
      refine (K.out _ HB.out).mono ?_; rintro e w1 ⟨rfl, hb1⟩
      have P1 := pbx_below P0.out hb1
      have B0 := HB.out.trans (hb1.mono HB.out.size)
      have p0 := P1.c0
      have p1 := P1.c1
      have pz := P1.z
      clear hb1 P1 K
      go_wp2_with fail
      refine (K2.out _ B0).mono ?_; rintro e w2 ⟨A2, c2, rfl, q1, q2, hb2, q3⟩
      have B1 := B0.trans (hb2.mono B0.size)
      clear hb2 K2 p0 p1 pz B0
      have hR1 := Lib.hid (rw_rd q3)
      clear q1 q2 q3
      go_wp2_with fail
      refine (KB.out _ _ _ hR1.out).mono ?_; rintro e w9 ⟨⟨v, rfl, ho⟩, hb3⟩
      have HO := Lib.hid ho
      clear ho
      go_wp2_with fail
      go_ret2
      exact retL_up B1 (retL_own2 HO.out hb3)
end Go.Proofs.Ytmejlgjgneiinaa
/- contracts: points that are marked, marks that are held -/
namespace Go.Proofs.Ytmejlgjgneiinaa
open Go.ChangeShapes Go.WideShapes Go.ChangeAt Go.RowKit Go.Joins
set_option linter.unusedVariables false
set_option linter.unusedSimpArgs false
set_option maxRecDepth 4000
/-- what marks write: number after number -/
def mk (k : Int) (i : Nat) : Int × Int := (k + 2 * (i : Int), k + 2 * (i : Int) + 1)
def mix (k : Int) (i : Nat) (f : Nat → Int × Int) (j : Nat) : Int × Int := if j < i then mk k j else f j
theorem mix_step (k : Int) (i : Nat) (f : Nat → Int × Int) : (fun j => if j = i then mk k i else mix k i f j) = mix k (i + 1) f := by
  funext j
  unfold mix
  by_cases h : j = i
  · subst h; rw [if_pos rfl, if_pos (by omega)]
  · rw [if_neg h]
    by_cases h2 : j < i
    · rw [if_pos h2, if_pos (by omega)]
    · rw [if_neg h2, if_neg (by omega)]
/-- behind a mark -/
structure Marked (w w' : World) (lo B : Nat) (A : Option Addr) (n : Nat) (k : Int) (i : Nat) (f : Nat → Int × Int) : Prop where
  only : Only lo B w w'
  row : Rw w' lo B A n (mix k i f)
theorem marked_step {w w' : World} {lo B b off n i : Nat} {k : Int} {f : Nat → Int × Int} (h : Marked w w' lo B (some ⟨b, off, none⟩) n k i f) (hi : i < n) (hb : lo ≤ b) (hB : b < B) :
    Marked w ((w'.setCell ⟨b, off + i * 2, none⟩ (.int .i64 (k + 2 * (i : Int)))).setCell ⟨b, off + i * 2 + 1, none⟩ (.int .i64 (k + 2 * (i : Int) + 1))) lo B (some ⟨b, off, none⟩) n k (i + 1) f :=
  ⟨(h.only.set hb hB _).set hb hB _, by
    have := rw_store h.row hi (k + 2 * (i : Int)) (k + 2 * (i : Int) + 1)
    rw [show (fun j => if j = i then (k + 2 * (i : Int), k + 2 * (i : Int) + 1) else mix k i f j) = mix k (i + 1) f from mix_step k i f] at this
    exact this⟩
set_option maxHeartbeats 1000000 in
theorem markPegS_any (A : Option Addr) (c n : Nat) (k : Int) (lo B : Nat) (f : Nat → Int × Int) (w : World) (hn : n ≤ 1048576) (hk1 : 1 ≤ k) (hk2 : k ≤ 1000000000) (hR : Rw w lo B A n f) :
    Calls Try.prog 11 #[.slice A n c, .int .i64 k] w fun e w' => e = .returned (.int .i64 (k + 2 * (n : Int))) ∧ Only lo B w w' ∧ Rw w' lo B A n (mk k) := by
  have HM := Lib.hid (show Marked w w lo B A n k 0 f from ⟨Only.refl _ _ _, rw_same hR fun i hi => by unfold mix; rw [if_neg (by omega)]⟩)
  clear hR
  go_enter Try.func11, Try.ntmps11
  go_wp2_with fail
  go_loopg [1, 5] n (fun g u i wr => ∃ j : Nat, j ≤ n ∧ g = n - j ∧ i = .int .i64 j ∧ u = .int .i64 (k + 2 * (j : Int)) ∧ Hid (Marked w wr lo B A n k j f))
  case atStart => exact ⟨0, Nat.zero_le _, rfl, rfl, by simp, HM⟩
  case round =>
    obtain ⟨j, hj, hg, rfl, rfl, hM⟩ := hrel
    rename World => wo
    have HGK := Lib.hid hg
    clear hg HM
    by_cases hlt : j < n
    · obtain ⟨b, off, hA, hb1, hb2, hc⟩ := hM.out.row (by omega)
      subst hA
      obtain ⟨⟨c1, c2⟩, z1, z2⟩ := hc j hlt
      have M2 := Lib.hid (marked_step hM.out hlt hb1 hb2)
      clear hc hM
      have e1 : IntKind.i64.wrap (k + 2 * (j : Int) + 1) = k + 2 * (j : Int) + 1 := IntWalk.i64_in _ (by omega)
      go_wp2_with fail
      go_roundg (n - (j + 1))
      case measure => have := HGK.out; omega
      case rel => exact ⟨j + 1, by omega, rfl, by go_num, by go_num, M2⟩
    · have hjn : n = j := by omega
      subst hjn
      go_wp2_with fail
      go_ret
      exact ⟨rfl, hM.out.only, rw_same hM.out.row fun i hi => by unfold mix; rw [if_pos hi]⟩
end Go.Proofs.Ytmejlgjgneiinaa
/- what the laws look at in their arguments, step by step -/
namespace Go.Proofs.Ytmejlgjgneiinaa
open Go.ChangeShapes Go.WideShapes Go.ChangeAt Go.RowKit Go.Joins
set_option linter.unusedVariables false
set_option linter.unusedSimpArgs false
set_option maxRecDepth 4000
theorem law_eqX (l : List (Int × Int)) (hl : l.length ≤ 1048576) (W : World) (g g' c c' : Nat) (h : Set W g l.length l.length l) (h' : Set W g' l.length l.length l) :
    Calls Try.prog 8 #[.slice (some ⟨g, 0, none⟩) l.length c, .slice (some ⟨g', 0, none⟩) l.length c'] W fun e w' => e = .returned (.bool true) ∧ Below W.heap.size W w' :=
  (eqPegS_any _ _ c c' l l W hl hl (rd_of_set h) (rd_of_set h')).mono fun e w' hh => ⟨hh.1.trans (ret_bool (by simp)), hh.2⟩
theorem law_mark (l : List (Int × Int)) (hl : l.length ≤ 1048576) (W : World) (g c : Nat) (h : Set W g l.length l.length l) :
    Calls Try.prog 11 #[.slice (some ⟨g, 0, none⟩) l.length c, .int .i64 1] W fun e w' => e = .returned (.int .i64 (1 + 2 * (l.length : Int))) ∧ Only g (g + 1) W w' :=
  (markPegS_any _ c l.length 1 g (g + 1) (pt l) W hl (by omega) (by omega) (rw_of_set h)).mono fun e w' hh => ⟨hh.1, hh.2.1⟩
theorem only_grow {w W W' : World} {lo B : Nat} (h : Below w.heap.size w W) (ho : Only lo B W W') (hl : w.heap.size ≤ lo) : Below w.heap.size w W' := h.trans (ho.below.mono hl)
theorem below_grow {w W W' : World} (h : Below w.heap.size w W) (hb : Below W.heap.size W W') : Below w.heap.size w W' := h.trans (hb.mono h.size)
end Go.Proofs.Ytmejlgjgneiinaa
/- contract: marks that are held -/
namespace Go.Proofs.Ytmejlgjgneiinaa
open Go.ChangeShapes Go.WideShapes Go.ChangeAt Go.RowKit Go.Joins
set_option linter.unusedVariables false
set_option linter.unusedSimpArgs false
set_option maxRecDepth 4000
set_option maxHeartbeats 1000000 in
theorem heldPegS_any (A : Option Addr) (c n : Nat) (k : Int) (lo B : Nat) (w : World) (hn : n ≤ 1048576) (hk1 : 1 ≤ k) (hk2 : k ≤ 1000000000) (hR : Rw w lo B A n (mk k)) :
    Calls Try.prog 12 #[.slice A n c, .int .i64 k] w fun e w' => e = .returned (.int .i64 (k + 2 * (n : Int))) ∧ w = w' := by
  have HR := Lib.hid hR
  clear hR
  go_enter Try.func12, Try.ntmps12
  go_wp2_with fail
  go_loopg [1, 5] n (fun g u i wr => ∃ j : Nat, j ≤ n ∧ g = n - j ∧ i = .int .i64 j ∧ u = .int .i64 (k + 2 * (j : Int)) ∧ w = wr)
  case atStart => exact ⟨0, Nat.zero_le _, rfl, rfl, by simp, rfl⟩
  case round =>
    obtain ⟨j, hj, hg, rfl, rfl, rfl⟩ := hrel
    have HGK := Lib.hid hg
    clear hg
    by_cases hlt : j < n
    · obtain ⟨b, off, hA, hb1, hb2, hc⟩ := HR.out (by omega)
      subst hA
      obtain ⟨⟨c1, c2⟩, z1, z2⟩ := hc j hlt
      have c1' : w.cell? ⟨b, off + j * 2, none⟩ = some (.int .i64 (k + 2 * (j : Int))) := c1
      have c2' : w.cell? ⟨b, off + j * 2 + 1, none⟩ = some (.int .i64 (k + 2 * (j : Int) + 1)) := c2
      clear hc c1 c2
      go_wp2_with fail
      go_roundg (n - (j + 1))
      case measure => have := HGK.out; omega
      case rel => exact ⟨j + 1, by omega, rfl, by go_num, by go_num, rfl⟩
    · have hjn : n = j := by omega
      subst hjn
      go_wp2_with fail
      go_ret
      exact ⟨rfl, rfl⟩
end Go.Proofs.Ytmejlgjgneiinaa
/- what the laws of functions that give a list of points look at, step by step -/
namespace Go.Proofs.Ytmejlgjgneiinaa
open Go.ChangeShapes Go.WideShapes Go.ChangeAt Go.RowKit Go.Joins
set_option linter.unusedVariables false
set_option linter.unusedSimpArgs false
set_option maxRecDepth 4000
/-- a call that gives p points F and says whether there are such -/
def RetN (w : World) (p : Nat) (F : Nat → Int × Int) (b : Bool) (e : Ending) (w' : World) : Prop :=
  ∃ A c, e = .returned (.tuple #[.slice A p c, .bool b]) ∧ Below w.heap.size w w' ∧ Rw w' w.heap.size w'.heap.size A p F
theorem retN_of_L {w w' : World} {m : List (Int × Int)} {b : Bool} {e : Ending} (h : RetL w m b e w') : RetN w m.length (pt m) b e w' := by
  obtain ⟨A, c, h1, _, _, h4, h5⟩ := h
  exact ⟨A, c, h1, h4, h5⟩
theorem law_eq (m : List (Int × Int)) (hm : m.length ≤ 1048576) (W : World) (lo B lo' B' c c' : Nat) (A A' : Option Addr) (h : Rw W lo B A m.length (pt m)) (hB : B ≤ W.heap.size) (h' : Rw W lo' B' A' m.length (pt m)) (hB' : B' ≤ W.heap.size) :
    Calls Try.prog 8 #[.slice A m.length c, .slice A' m.length c'] W fun e w' => e = .returned (.bool true) ∧ Below W.heap.size W w' :=
  (eqPegS_any A A' c c' m m W hm hm (rd_more (rw_rd h) hB) (rd_more (rw_rd h') hB')).mono fun e w' hh => ⟨hh.1.trans (ret_bool (by simp)), hh.2⟩
end Go.Proofs.Ytmejlgjgneiinaa

