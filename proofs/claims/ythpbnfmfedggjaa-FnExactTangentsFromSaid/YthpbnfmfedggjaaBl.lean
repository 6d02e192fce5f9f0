/- contract: the first of some points, by the library -/
import Derived.Test.YthpbnfmfedggjaaBk
import Derived.Test.YthpbnfmfedggjaaBb
namespace Go.Proofs.Ythpbnfmfedggjaa
open Go.ChangeShapes Go.WideShapes Go.ChangeAt Go.RowKit Go.Joins
set_option linter.unusedVariables false
set_option linter.unusedSimpArgs false
set_option maxRecDepth 4000
/-- how memory stands while the least point is sought: the result, the least one till now -/
structure MnS (w W : World) (n1 n2 : Int) : Prop where
  bel : Below w.heap.size w W
  size : w.heap.size + 1 < W.heap.size
  c40 : ∃ u, W.cell? ⟨w.heap.size, 0, none⟩ = some u
  c41 : ∃ u, W.cell? ⟨w.heap.size, 1, none⟩ = some u
  c50 : W.cell? ⟨w.heap.size + 1, 0, none⟩ = some (.int .i64 n1)
  c51 : W.cell? ⟨w.heap.size + 1, 1, none⟩ = some (.int .i64 n2)
  f4 : ∀ o, W.frozen? ⟨w.heap.size, o, none⟩ = false
  f5 : ∀ o, W.frozen? ⟨w.heap.size + 1, o, none⟩ = false
theorem MnS.up {w W W' : World} {n1 n2 : Int} (h : MnS w W n1 n2) (hb : Below W.heap.size W W') : MnS w W' n1 n2 := by
  obtain ⟨hc, hf⟩ := bcell hb
  have hz := h.size
  obtain ⟨u, hu⟩ := h.c40
  obtain ⟨v, hv⟩ := h.c41
  exact ⟨h.bel.trans (hb.mono h.bel.size), Nat.lt_of_lt_of_le hz hb.size, ⟨u, (hc _ _ (by omega)).trans hu⟩, ⟨v, (hc _ _ (by omega)).trans hv⟩, (hc _ _ (by omega)).trans h.c50, (hc _ _ (by omega)).trans h.c51, fun o => (hf _ _ (by omega)).trans (h.f4 o), fun o => (hf _ _ (by omega)).trans (h.f5 o)⟩
theorem MnS.store {w W : World} {n1 n2 : Int} (h : MnS w W n1 n2) (p1 p2 : Int) : MnS w ((W.setCell ⟨w.heap.size + 1, 0, none⟩ (.int .i64 p1)).setCell ⟨w.heap.size + 1, 1, none⟩ (.int .i64 p2)) p1 p2 := by
  have ne : ∀ (V : World) (b b' o o' : Nat) (v : Value), ¬ (b = b' ∧ o = o') → (V.setCell ⟨b, o, none⟩ v).cell? ⟨b', o', none⟩ = V.cell? ⟨b', o', none⟩ := fun V b b' o o' v h => World.cell?_setCell_other V _ _ _ (fun e => h (by injection e with e1 e2; exact ⟨e1, e2⟩))
  have sm : ∀ (V : World) (b o : Nat) (u v : Value), V.cell? ⟨b, o, none⟩ = some u → (V.setCell ⟨b, o, none⟩ v).cell? ⟨b, o, none⟩ = some v := fun V b o u v h => World.cell?_setCell_same V _ _ h
  have hz := h.size
  obtain ⟨u, hu⟩ := h.c40
  obtain ⟨v, hv⟩ := h.c41
  refine ⟨(h.bel.setCell (p := ⟨w.heap.size + 1, 0, none⟩) (by show w.heap.size ≤ w.heap.size + 1; omega) _).setCell (p := ⟨w.heap.size + 1, 1, none⟩) (by show w.heap.size ≤ w.heap.size + 1; omega) _, by simpa [World.setCell] using hz, ⟨u, ?_⟩, ⟨v, ?_⟩, ?_, ?_, fun o => ?_, fun o => ?_⟩
  · rw [ne _ _ _ _ _ _ (by omega), ne _ _ _ _ _ _ (by omega)]; exact hu
  · rw [ne _ _ _ _ _ _ (by omega), ne _ _ _ _ _ _ (by omega)]; exact hv
  · rw [ne _ _ _ _ _ _ (by omega)]; exact sm _ _ _ _ _ h.c50
  · exact sm _ _ _ _ _ ((ne _ _ _ _ _ _ (by omega)).trans h.c51)
  · rw [World.frozen?_setCell, World.frozen?_setCell]; exact h.f4 o
  · rw [World.frozen?_setCell, World.frozen?_setCell]; exact h.f5 o
set_option maxHeartbeats 8000000 in
theorem minFunc_any (A : Option Addr) (c n : Nat) (l : List (Int × Int)) (w : World) (hln : l.length = n) (h1n : 1 ≤ n) (hn : n ≤ 30) (hpg : ∀ x ∈ l, isPg x = true) (hR : Rd w w.heap.size A l) :
    Calls Try.prog 78 #[.slice A n c, .func (.func 79) #[] #[]] w fun e w' => (∃ m1 m2, e = .returned (.agg #[.int .i64 m1, .int .i64 m2]) ∧ (m1, m2) ∈ l ∧ ∀ x ∈ l, ¬ lxP x (m1, m2)) ∧ Below w.heap.size w w' := by
  have HN := Lib.hid hln
  have HC : Hid (∀ W, Below w.heap.size w W → ∀ i, i < n → ∃ b off, A = some ⟨b, off, none⟩ ∧ b < w.heap.size ∧ W.cell? ⟨b, off + i * 2, none⟩ = some (.int .i64 (vx l i).1) ∧ W.cell? ⟨b, off + i * 2 + 1, none⟩ = some (.int .i64 (vx l i).2)) := Lib.hid (fun W hW i hi => by
    obtain ⟨b, off, e, hb, hc⟩ := hR (by omega)
    obtain ⟨h1, h2⟩ := hc i _ (vx_get (by omega))
    exact ⟨b, off, e, hb, (hW.cell (p := ⟨b, off + i * 2, none⟩) hb).trans h1, (hW.cell (p := ⟨b, off + i * 2 + 1, none⟩) hb).trans h2⟩)
  have HP : Hid (∀ i, i < n → isPg (vx l i) = true) := Lib.hid (fun i hi => hpg _ (List.mem_of_getElem? (vx_get (by omega))))
  have HM : Hid (∀ i, i < n → vx l i ∈ l) := Lib.hid (fun i hi => List.mem_of_getElem? (vx_get (by omega)))
  have HI := Lib.hid (fun x => in_iff (l := l) (p := x))
  clear hR hln hpg
  have e1 : ¬ ((n : Int) < 1) := by omega
  have d1 : decide ((n : Int) < 1) = false := by simp; omega
  obtain ⟨b, off, hA, hb, x0, x1⟩ := HC.out w (Below.refl _ _) 0 (by omega)
  subst hA
  simp only [Nat.zero_mul, Nat.add_zero] at x0 x1
  have hm0 := HM.out 0 (by omega)
  have HC0 : Hid (∀ W, Below w.heap.size w W → ∀ i, i < n → W.cell? ⟨b, off + i * 2, none⟩ = some (.int .i64 (vx l i).1) ∧ W.cell? ⟨b, off + i * 2 + 1, none⟩ = some (.int .i64 (vx l i).2)) := Lib.hid (fun W hW i hi => by
    obtain ⟨b', off', e, _, h1, h2⟩ := HC.out W hW i hi
    injection e with e
    injection e with e1 e2
    subst e1; subst e2
    exact ⟨h1, h2⟩)
  obtain ⟨a1, a2, hae⟩ : ∃ a1 a2, vx l 0 = (a1, a2) := ⟨_, _, rfl⟩
  rw [hae] at x0 x1 hm0
  have HA := Lib.hid (And.intro hae hm0)
  clear hae hm0 HC
  go_enter Try.func78, Try.ntmps78
  go_wp2_with fail
  obtain ⟨W1, hW1⟩ : ∃ W1, W1 = ((w.alloc (.cells #[.int .i64 0, .int .i64 0] 38)).alloc (.cells #[.int .i64 a1, .int .i64 a2] 38)) := ⟨_, rfl⟩
  rw [← hW1]
  have yW10_0 : W1.cell? ⟨w.heap.size, 0, none⟩ = some (.int .i64 0) := by rw [hW1]; go_simp
  have yW10_1 : W1.cell? ⟨w.heap.size, 1, none⟩ = some (.int .i64 0) := by rw [hW1]; go_simp
  have fW10 : ∀ o, W1.frozen? ⟨w.heap.size, o, none⟩ = false := by intro o; rw [hW1]; (repeat rw [frozen?_alloc_cells]); simp [World.frozen?]
  have zW10 : w.heap.size < W1.heap.size := by rw [hW1]; simp <;> omega
  have yW11_0 : W1.cell? ⟨w.heap.size + 1, 0, none⟩ = some (.int .i64 a1) := by rw [hW1]; go_simp
  have yW11_1 : W1.cell? ⟨w.heap.size + 1, 1, none⟩ = some (.int .i64 a2) := by rw [hW1]; go_simp
  have fW11 : ∀ o, W1.frozen? ⟨w.heap.size + 1, o, none⟩ = false := by intro o; rw [hW1]; (repeat rw [frozen?_alloc_cells]); simp [World.frozen?]
  have zW11 : w.heap.size + 1 < W1.heap.size := by rw [hW1]; simp <;> omega
  have BW1 : Below w.heap.size w W1 := by rw [hW1]; exact (Below.alloc (Below.alloc (Below.refl _ _) (by simp <;> omega) _) (by simp <;> omega) _)
  have eW1 : Hid (W1.heap.size = w.heap.size + 2) := Lib.hid (by rw [hW1]; simp)
  clear hW1
  have HS1 : MnS w W1 a1 a2 := ⟨BW1, zW11, ⟨_, yW10_0⟩, ⟨_, yW10_1⟩, yW11_0, yW11_1, fW10, fW11⟩
  go_loopg [6] (n - 1) (fun g i wr => ∃ (k : Nat) (n1 n2 : Int), k ≤ n ∧ 1 ≤ k ∧ g = n - k ∧ i = .int .i64 k ∧ Hid ((n1, n2) ∈ l ∧ ∀ j, j < k → ¬ lxP (vx l j) (n1, n2)) ∧ Hid (MnS w wr n1 n2))
  case atStart =>
    refine ⟨1, a1, a2, h1n, Nat.le_refl _, rfl, rfl, Lib.hid ⟨HA.out.2, ?_⟩, Lib.hid HS1⟩
    intro j hj
    have hj0 : j = 0 := by omega
    subst hj0
    rw [HA.out.1]
    unfold lxP
    omega
  case round =>
    obtain ⟨k, n1, n2, hk, hk1, hg, rfl, hmin, hS⟩ := hrel
    rename World => wo
    have HGK := Lib.hid hg
    clear hg yW10_0 yW10_1 fW10 zW10 yW11_0 yW11_1 fW11 zW11 BW1 eW1 HS1 x0 x1
    by_cases hlt : k < n
    · obtain ⟨x0, x1⟩ := HC0.out wo hS.out.bel k hlt
      have hpp := HP.out k hlt
      have HMK := Lib.hid (HM.out k hlt)
      obtain ⟨p1, p2, hpe⟩ : ∃ p1 p2, vx l k = (p1, p2) := ⟨_, _, rfl⟩
      rw [hpe] at x0 x1 hpp HMK
      have HPE := Lib.hid hpe
      clear hpe
      have hnn : isPg (n1, n2) = true := by
        obtain ⟨i, hi, e⟩ := (HI.out _).1 hmin.out.1
        rw [← e]; exact HP.out i (by rw [← HN.out]; exact hi)
      have KC := Lib.hid (fun W => pegCompare_any p1 p2 n1 n2 W (sz_of hpp) (sz_of hnn))
      have HLT := Lib.hid (cmpP_lt (p := (p1, p2)) (q := (n1, n2)))
      clear hpp hnn
      generalize cmpP (p1, p2) (n1, n2) = cc at *
      have zb := Nat.lt_of_lt_of_le hb hS.out.bel.size
      have hz := hS.out.size
      have c50 := hS.out.c50
      have c51 := hS.out.c51
      by_cases hcc : cc < 0
      · have hmin2 : Hid ((p1, p2) ∈ l ∧ ∀ j, j < k + 1 → ¬ lxP (vx l j) (p1, p2)) := Lib.hid ⟨HMK.out, fun j hj => by
          by_cases hjk : j = k
          · subst hjk; rw [HPE.out]; unfold lxP; omega
          · have h1 := hmin.out.2 j (by omega)
            have h2 := HLT.out.1 hcc
            unfold lxP at *; omega⟩
        go_wp2_with fail
        refine wp_region_B (fun W => Below wo.heap.size wo W) (by kernel_rfl) (by repeat (first | exact Below.refl _ _ | apply Below.drew)) ?_
        first | refine wpB_skip 0 rfl (by kernel_rfl) (by kernel_rfl) (by kernel_rfl) (by rfl) ?_ | (refine wpB_text 0 (v := ?_) rfl (by kernel_rfl) (by kernel_rfl) (by kernel_rfl) (by rfl) (fun W hW => ?_) ?_; rotate_left; (have k1 := hW; obtain ⟨hc1, hf1⟩ := bcell k1; go_simp; refine comes_v ?_; exact k1))
        (try simp only [Act.put, List.setIfInBounds_toArray, List.set_cons_zero, List.set_cons_succ])
        first | refine wpB_skip 1 rfl (by kernel_rfl) (by kernel_rfl) (by kernel_rfl) (by rfl) ?_ | (refine wpB_text 1 (v := ?_) rfl (by kernel_rfl) (by kernel_rfl) (by kernel_rfl) (by rfl) (fun W hW => ?_) ?_; rotate_left; (have k1 := hW; obtain ⟨hc1, hf1⟩ := bcell k1; go_simp; refine comes_v ?_; exact k1))
        (try simp only [Act.put, List.setIfInBounds_toArray, List.set_cons_zero, List.set_cons_succ])
        first | refine wpB_skip 2 rfl (by kernel_rfl) (by kernel_rfl) (by kernel_rfl) (by rfl) ?_ | (refine wpB_text 2 (v := ?_) rfl (by kernel_rfl) (by kernel_rfl) (by kernel_rfl) (by rfl) (fun W hW => ?_) ?_; rotate_left; (have k1 := hW; obtain ⟨hc1, hf1⟩ := bcell k1; go_simp; refine comes_v ?_; exact k1))
        (try simp only [Act.put, List.setIfInBounds_toArray, List.set_cons_zero, List.set_cons_succ])
        first | refine wpB_skip 3 rfl (by kernel_rfl) (by kernel_rfl) (by kernel_rfl) (by rfl) ?_ | (refine wpB_text 3 (v := ?_) rfl (by kernel_rfl) (by kernel_rfl) (by kernel_rfl) (by rfl) (fun W hW => ?_) ?_; rotate_left; (have k1 := hW; obtain ⟨hc1, hf1⟩ := bcell k1; go_simp; refine comes_v ?_; exact k1))
        (try simp only [Act.put, List.setIfInBounds_toArray, List.set_cons_zero, List.set_cons_succ])
        first | refine wpB_skip 4 rfl (by kernel_rfl) (by kernel_rfl) (by kernel_rfl) (by rfl) ?_ | (refine wpB_text 4 (v := ?_) rfl (by kernel_rfl) (by kernel_rfl) (by kernel_rfl) (by rfl) (fun W hW => ?_) ?_; rotate_left; (have k1 := hW; obtain ⟨hc1, hf1⟩ := bcell k1; go_simp; refine comes_v ?_; exact k1))
        (try simp only [Act.put, List.setIfInBounds_toArray, List.set_cons_zero, List.set_cons_succ])
        first | refine wpB_skip 5 rfl (by kernel_rfl) (by kernel_rfl) (by kernel_rfl) (by rfl) ?_ | (refine wpB_text 5 (v := ?_) rfl (by kernel_rfl) (by kernel_rfl) (by kernel_rfl) (by rfl) (fun W hW => ?_) ?_; rotate_left; (have k1 := hW; obtain ⟨hc1, hf1⟩ := bcell k1; go_simp; refine comes_v ?_; exact k1))
        (try simp only [Act.put, List.setIfInBounds_toArray, List.set_cons_zero, List.set_cons_succ])
        first | refine wpB_skip 6 rfl (by kernel_rfl) (by kernel_rfl) (by kernel_rfl) (by rfl) ?_ | (refine wpB_text 6 (v := .int .i64 cc) rfl (by kernel_rfl) (by kernel_rfl) (by kernel_rfl) (by rfl) (fun W hW => ?_) ?_; (have k1 := hW; obtain ⟨hc1, hf1⟩ := bcell k1; go_simp; exact comes_c ( KC.out _) (fun wn hbn => bt_keep k1 hbn)))
        (try simp only [Act.put, List.setIfInBounds_toArray, List.set_cons_zero, List.set_cons_succ])
        first | refine wpB_skip 7 rfl (by kernel_rfl) (by kernel_rfl) (by kernel_rfl) (by rfl) ?_ | (refine wpB_text 7 (v := ?_) rfl (by kernel_rfl) (by kernel_rfl) (by kernel_rfl) (by rfl) (fun W hW => ?_) ?_; rotate_left; (have k1 := hW; obtain ⟨hc1, hf1⟩ := bcell k1; go_simp; refine comes_v ?_; exact k1))
        (try simp only [Act.put, List.setIfInBounds_toArray, List.set_cons_zero, List.set_cons_succ])
        refine wpB_done (by kernel_rfl) ?_ _
        intro W hW; have k1 := hW
        rename World => w3
        have S3 := hS.out.up k1
        have e0 := ((bcell k1).1 _ (off + k * 2) zb).trans x0
        have e1 := ((bcell k1).1 _ (off + k * 2 + 1) zb).trans x1
        have g5 := S3.f5
        have g50 := S3.c50
        have g51 := S3.c51
        have HS3 := Lib.hid (S3.store p1 p2)
        clear c50 c51 x0 x1 S3
        go_wp2_with fail
        go_roundg (n - (k + 1))
        case measure => have := HGK.out; omega
        case rel => exact ⟨k + 1, p1, p2, by omega, by omega, rfl, by go_num, hmin2, HS3⟩
      · have hmin2 : Hid ((n1, n2) ∈ l ∧ ∀ j, j < k + 1 → ¬ lxP (vx l j) (n1, n2)) := Lib.hid ⟨hmin.out.1, fun j hj => by
          by_cases hjk : j = k
          · subst hjk; rw [HPE.out]; exact fun h => hcc (HLT.out.2 h)
          · exact hmin.out.2 j (by omega)⟩
        go_wp2_with fail
        refine wp_region_B (fun W => Below wo.heap.size wo W) (by kernel_rfl) (by repeat (first | exact Below.refl _ _ | apply Below.drew)) ?_
        first | refine wpB_skip 0 rfl (by kernel_rfl) (by kernel_rfl) (by kernel_rfl) (by rfl) ?_ | (refine wpB_text 0 (v := ?_) rfl (by kernel_rfl) (by kernel_rfl) (by kernel_rfl) (by rfl) (fun W hW => ?_) ?_; rotate_left; (have k1 := hW; obtain ⟨hc1, hf1⟩ := bcell k1; go_simp; refine comes_v ?_; exact k1))
        (try simp only [Act.put, List.setIfInBounds_toArray, List.set_cons_zero, List.set_cons_succ])
        first | refine wpB_skip 1 rfl (by kernel_rfl) (by kernel_rfl) (by kernel_rfl) (by rfl) ?_ | (refine wpB_text 1 (v := ?_) rfl (by kernel_rfl) (by kernel_rfl) (by kernel_rfl) (by rfl) (fun W hW => ?_) ?_; rotate_left; (have k1 := hW; obtain ⟨hc1, hf1⟩ := bcell k1; go_simp; refine comes_v ?_; exact k1))
        (try simp only [Act.put, List.setIfInBounds_toArray, List.set_cons_zero, List.set_cons_succ])
        first | refine wpB_skip 2 rfl (by kernel_rfl) (by kernel_rfl) (by kernel_rfl) (by rfl) ?_ | (refine wpB_text 2 (v := ?_) rfl (by kernel_rfl) (by kernel_rfl) (by kernel_rfl) (by rfl) (fun W hW => ?_) ?_; rotate_left; (have k1 := hW; obtain ⟨hc1, hf1⟩ := bcell k1; go_simp; refine comes_v ?_; exact k1))
        (try simp only [Act.put, List.setIfInBounds_toArray, List.set_cons_zero, List.set_cons_succ])
        first | refine wpB_skip 3 rfl (by kernel_rfl) (by kernel_rfl) (by kernel_rfl) (by rfl) ?_ | (refine wpB_text 3 (v := ?_) rfl (by kernel_rfl) (by kernel_rfl) (by kernel_rfl) (by rfl) (fun W hW => ?_) ?_; rotate_left; (have k1 := hW; obtain ⟨hc1, hf1⟩ := bcell k1; go_simp; refine comes_v ?_; exact k1))
        (try simp only [Act.put, List.setIfInBounds_toArray, List.set_cons_zero, List.set_cons_succ])
        first | refine wpB_skip 4 rfl (by kernel_rfl) (by kernel_rfl) (by kernel_rfl) (by rfl) ?_ | (refine wpB_text 4 (v := ?_) rfl (by kernel_rfl) (by kernel_rfl) (by kernel_rfl) (by rfl) (fun W hW => ?_) ?_; rotate_left; (have k1 := hW; obtain ⟨hc1, hf1⟩ := bcell k1; go_simp; refine comes_v ?_; exact k1))
        (try simp only [Act.put, List.setIfInBounds_toArray, List.set_cons_zero, List.set_cons_succ])
        first | refine wpB_skip 5 rfl (by kernel_rfl) (by kernel_rfl) (by kernel_rfl) (by rfl) ?_ | (refine wpB_text 5 (v := ?_) rfl (by kernel_rfl) (by kernel_rfl) (by kernel_rfl) (by rfl) (fun W hW => ?_) ?_; rotate_left; (have k1 := hW; obtain ⟨hc1, hf1⟩ := bcell k1; go_simp; refine comes_v ?_; exact k1))
        (try simp only [Act.put, List.setIfInBounds_toArray, List.set_cons_zero, List.set_cons_succ])
        first | refine wpB_skip 6 rfl (by kernel_rfl) (by kernel_rfl) (by kernel_rfl) (by rfl) ?_ | (refine wpB_text 6 (v := .int .i64 cc) rfl (by kernel_rfl) (by kernel_rfl) (by kernel_rfl) (by rfl) (fun W hW => ?_) ?_; (have k1 := hW; obtain ⟨hc1, hf1⟩ := bcell k1; go_simp; exact comes_c ( KC.out _) (fun wn hbn => bt_keep k1 hbn)))
        (try simp only [Act.put, List.setIfInBounds_toArray, List.set_cons_zero, List.set_cons_succ])
        first | refine wpB_skip 7 rfl (by kernel_rfl) (by kernel_rfl) (by kernel_rfl) (by rfl) ?_ | (refine wpB_text 7 (v := ?_) rfl (by kernel_rfl) (by kernel_rfl) (by kernel_rfl) (by rfl) (fun W hW => ?_) ?_; rotate_left; (have k1 := hW; obtain ⟨hc1, hf1⟩ := bcell k1; go_simp; refine comes_v ?_; exact k1))
        (try simp only [Act.put, List.setIfInBounds_toArray, List.set_cons_zero, List.set_cons_succ])
        refine wpB_done (by kernel_rfl) ?_ _
        intro W hW; have k1 := hW
        rename World => w3
        have HS3 := Lib.hid (hS.out.up k1)
        clear c50 c51 x0 x1
        go_wp2_with fail
        go_roundg (n - (k + 1))
        case measure => have := HGK.out; omega
        case rel => exact ⟨k + 1, n1, n2, by omega, by omega, rfl, by go_num, hmin2, HS3⟩
    · have hkn : n = k := by omega
      subst hkn
      have S0 := hS.out
      obtain ⟨u, hu⟩ := S0.c40
      obtain ⟨v, hv⟩ := S0.c41
      have g4 := S0.f4
      have g50 := S0.c50
      have g51 := S0.c51
      have hz := S0.size
      have hz0 : w.heap.size < wo.heap.size := by omega
      have BF := Below.setCell (Below.setCell S0.bel (p := ⟨w.heap.size, 0, none⟩) (by show w.heap.size ≤ w.heap.size; omega) (.int .i64 n1)) (p := ⟨w.heap.size, 1, none⟩) (by show w.heap.size ≤ w.heap.size; omega) (.int .i64 n2)
      have r0 : ((wo.setCell ⟨w.heap.size, 0, none⟩ (.int .i64 n1)).setCell ⟨w.heap.size, 1, none⟩ (.int .i64 n2)).cell? ⟨w.heap.size, 0, none⟩ = some (.int .i64 n1) := by
        rw [World.cell?_setCell_other _ _ _ _ (by intro e; injection e with e1 e2; omega)]
        exact World.cell?_setCell_same _ _ _ hu
      have r1 : ((wo.setCell ⟨w.heap.size, 0, none⟩ (.int .i64 n1)).setCell ⟨w.heap.size, 1, none⟩ (.int .i64 n2)).cell? ⟨w.heap.size, 1, none⟩ = some (.int .i64 n2) := by
        refine World.cell?_setCell_same _ _ _ (u := v) ?_
        rw [World.cell?_setCell_other _ _ _ _ (by intro e; injection e with e1 e2; omega)]
        exact hv
      have hfin : Hid ((n1, n2) ∈ l ∧ ∀ x ∈ l, ¬ lxP x (n1, n2)) := Lib.hid ⟨hmin.out.1, fun x hx => by
        obtain ⟨i, hi, e⟩ := (HI.out x).1 hx
        rw [← e]; exact hmin.out.2 i (by rw [← HN.out]; exact hi)⟩
      clear S0 hS
      go_wp2_with fail
      refine bodyPost_ret (v := .agg #[.int .i64 n1, .int .i64 n2]) (by simp [results, Try.results78, go_sem, r0, r1]) rfl ⟨⟨n1, n2, rfl, hfin.out⟩, BF⟩
end Go.Proofs.Ythpbnfmfedggjaa
