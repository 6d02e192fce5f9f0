/- contracts: puzzles, the model; puzzles of the laws: laid anew, compared, marked, held -/
import Derived.Test.YtacabmbajadbgaaPz5
import Derived.Test.YtacabmbajadbgaaSax
import Derived.OneCell
namespace Go.Proofs.Ytacabmbajadbgaa
open Go.ChangeShapes Go.WideShapes Go.ChangeAt Go.RowKit Go.Joins
set_option linter.unusedVariables false
set_option linter.unusedSimpArgs false
set_option maxRecDepth 4000
set_option maxHeartbeats 2000000 in
theorem pzGood_any (s : Int) (A : Option Addr) (c n : Nat) (f : Nat → Int) (w : World) (hm : n ≤ 1048576) (hR : RdI w w.heap.size A (n * 4) f) :
    Calls Try.prog 54 #[.agg #[.int .i64 s, .slice A n c]] w fun e w' => e = .returned (.bool (puzB s n f)) ∧ Below w.heap.size w w' := by
  have KS := Lib.hid (fun W => pzSide_any s W)
  have HB := Lib.hid (Below.alloc (Below.refl w.heap.size w) (Nat.le_refl _) (.cells #[.int .i64 s, .slice A n c] 28))
  by_cases hs : inQ 1 12 s = true
  · by_cases hn : n ≤ 6
    · have h12 := inQ_12 hs
      have KC := Lib.hid (fun k a b c W => pzClue_any s k a b c W h12.1 h12.2)
      have hp : Hid (puzB s n f = allC s f n) := Lib.hid (by unfold puzB; rw [hs]; simp [hn])
      have hn6 : ¬ (6 : Int) < (n : Int) := by omega
      have HR := Lib.hid hR
      have P0 := Lib.hid (pbx_new w s A n c 28)
      rw [hs] at KS
      rw [hp.out]
      clear hs h12 hR hp
      go_enter Try.func54, Try.ntmps54
      go_wp2_with fail
      refine (KS.out _).mono ?_; rintro e _ ⟨rfl, rfl⟩
      obtain ⟨W0, hW0⟩ : ∃ W0, W0 = w.alloc (.cells #[.int .i64 s, .slice A n c] 28) := ⟨_, rfl⟩
      have B0 := HB.out
      have PB := P0.out
      rw [← hW0] at B0 PB ⊢
      clear hW0 HB P0
      have p0 := PB.c0
      have p1 := PB.c1
      have pz := PB.z
      go_wp2_with fail
      clear p0 p1 pz
      have PH := Lib.hid PB
      clear PB
      go_loopg [18] n (fun gg i wr => ∃ k : Nat, k ≤ n ∧ gg = n - k ∧ i = .int .i64 k ∧ Below w.heap.size w wr ∧ Hid (Pbx wr w.heap.size s A n c) ∧ Hid (∀ i, i < k → clueB s (f (i * 4)) (f (i * 4 + 1)) (f (i * 4 + 2)) (f (i * 4 + 3)) = true))
      case atStart => exact ⟨0, Nat.zero_le _, rfl, rfl, B0, PH, Lib.hid (fun i h => absurd h (Nat.not_lt_zero _))⟩
      case round =>
        clear B0 PH
        obtain ⟨k, hk, hgg, rfl, hB, hP, hC⟩ := hrel
        rename World => wo
        have HGK := Lib.hid hgg
        clear hgg
        by_cases hlt : k < n
        · obtain ⟨b, off, rfl, hb, hcell⟩ := HR.out (by omega)
          obtain ⟨q0, q1, q2, q3⟩ := clue_read hb hcell hB hlt
          have hz := hB.size
          have hbo : b < wo.heap.size := by omega
          have pc := hP.out.c0
          have pz := hP.out.z
          have HCF : Hid (clueB s (f (k * 4)) (f (k * 4 + 1)) (f (k * 4 + 2)) (f (k * 4 + 3)) = false → allC s f n = false) := Lib.hid (fun h => allC_f hlt h)
          have K1 := Lib.hid (fun W => KC.out (f (k * 4)) (f (k * 4 + 1)) (f (k * 4 + 2)) (f (k * 4 + 3)) W)
          have HC2 : Hid (clueB s (f (k * 4)) (f (k * 4 + 1)) (f (k * 4 + 2)) (f (k * 4 + 3)) = true → ∀ i, i < k + 1 → clueB s (f (i * 4)) (f (i * 4 + 1)) (f (i * 4 + 2)) (f (i * 4 + 3)) = true) := Lib.hid (fun h i hi => by
            by_cases hik : i = k
            · subst hik; exact h
            · exact hC.out i (by omega))
          clear hcell hC
          generalize f (k * 4) = n0 at *
          generalize f (k * 4 + 1) = n1 at *
          generalize f (k * 4 + 2) = n2 at *
          generalize f (k * 4 + 3) = n3 at *
          by_cases hcl : clueB s n0 n1 n2 n3 = true
          · have HC3 := Lib.hid (HC2.out hcl)
            rw [hcl] at K1
            clear hcl HC2 HCF
            go_wp2_with fail
            obtain ⟨W1, hW1⟩ : ∃ W1, W1 = (wo.alloc (.cells #[.int .i64 n0, .int .i64 n1, .int .i64 n2, .int .i64 n3] 38)) := ⟨_, rfl⟩
            rw [← hW1]
            have yW10_0 : W1.cell? ⟨wo.heap.size, 0, none⟩ = some (.int .i64 n0) := by rw [hW1]; go_simp
            have yW10_1 : W1.cell? ⟨wo.heap.size, 1, none⟩ = some (.int .i64 n1) := by rw [hW1]; go_simp
            have yW10_2 : W1.cell? ⟨wo.heap.size, 2, none⟩ = some (.int .i64 n2) := by rw [hW1]; go_simp
            have yW10_3 : W1.cell? ⟨wo.heap.size, 3, none⟩ = some (.int .i64 n3) := by rw [hW1]; go_simp
            have fW10 : ∀ o, W1.frozen? ⟨wo.heap.size, o, none⟩ = false := by intro o; rw [hW1]; (repeat rw [frozen?_alloc_cells]); simp [World.frozen?]
            have zW10 : wo.heap.size < W1.heap.size := by rw [hW1]; simp <;> omega
            have BW1 : Below wo.heap.size wo W1 := by rw [hW1]; exact (Below.alloc (Below.refl _ _) (by simp <;> omega) _)
            have eW1 : Hid (W1.heap.size = wo.heap.size + 1) := Lib.hid (by rw [hW1]; simp)
            clear hW1
            have B1 := hB.trans (BW1.mono hz)
            have P1 := Lib.hid (pbx_below hP.out BW1)
            refine (K1.out _).mono ?_; rintro e w2 ⟨rfl, hb2⟩
            have B2 := B1.trans (hb2.mono B1.size)
            have P2 := Lib.hid (pbx_below P1.out hb2)
            clear hb2 P1 hP B1 hB BW1 fW10 eW1 zW10 yW10_0 yW10_1 yW10_2 yW10_3 q0 q1 q2 q3 pc pz
            go_wp2_with fail
            go_roundg (n - (k + 1))
            case measure => have := HGK.out; omega
            case rel => exact ⟨k + 1, by omega, rfl, by go_num, B2, P2, HC3⟩
          · have hcf : clueB s n0 n1 n2 n3 = false := by simpa using hcl
            have HF := Lib.hid (HCF.out hcf)
            rw [hcf] at K1
            clear hcl hcf HC2 HCF
            go_wp2_with fail
            obtain ⟨W1, hW1⟩ : ∃ W1, W1 = (wo.alloc (.cells #[.int .i64 n0, .int .i64 n1, .int .i64 n2, .int .i64 n3] 38)) := ⟨_, rfl⟩
            rw [← hW1]
            have yW10_0 : W1.cell? ⟨wo.heap.size, 0, none⟩ = some (.int .i64 n0) := by rw [hW1]; go_simp
            have yW10_1 : W1.cell? ⟨wo.heap.size, 1, none⟩ = some (.int .i64 n1) := by rw [hW1]; go_simp
            have yW10_2 : W1.cell? ⟨wo.heap.size, 2, none⟩ = some (.int .i64 n2) := by rw [hW1]; go_simp
            have yW10_3 : W1.cell? ⟨wo.heap.size, 3, none⟩ = some (.int .i64 n3) := by rw [hW1]; go_simp
            have fW10 : ∀ o, W1.frozen? ⟨wo.heap.size, o, none⟩ = false := by intro o; rw [hW1]; (repeat rw [frozen?_alloc_cells]); simp [World.frozen?]
            have zW10 : wo.heap.size < W1.heap.size := by rw [hW1]; simp <;> omega
            have BW1 : Below wo.heap.size wo W1 := by rw [hW1]; exact (Below.alloc (Below.refl _ _) (by simp <;> omega) _)
            have eW1 : Hid (W1.heap.size = wo.heap.size + 1) := Lib.hid (by rw [hW1]; simp)
            clear hW1
            have B1 := hB.trans (BW1.mono hz)
            refine (K1.out _).mono ?_; rintro e w2 ⟨rfl, hb2⟩
            have B2 := B1.trans (hb2.mono B1.size)
            clear hb2 hP B1 hB BW1 fW10 eW1 zW10 yW10_0 yW10_1 yW10_2 yW10_3 q0 q1 q2 q3 pc pz
            go_wp2_with fail
            go_ret
            exact ⟨ret_bool HF.out.symm, B2⟩
        · obtain rfl : k = n := by omega
          have HT : Hid (allC s f k = true) := Lib.hid ((allC_iff s f k).2 hC.out)
          go_wp2_with fail
          go_ret
          exact ⟨ret_bool HT.out.symm, hB⟩
    · have hp : Hid (puzB s n f = false) := Lib.hid (by unfold puzB; simp [hn])
      have hn6 : (6 : Int) < (n : Int) := by omega
      rw [hs] at KS
      rw [hp.out]
      clear hs hR hn hp
      go_enter Try.func54, Try.ntmps54
      go_wp2_with fail
      refine (KS.out _).mono ?_; rintro e _ ⟨rfl, rfl⟩
      go_wp2_with fail
      go_ret
      exact ⟨rfl, HB.out⟩
  · have hf : inQ 1 12 s = false := by simpa using hs
    have hp : puzB s n f = false := by unfold puzB; rw [hf]; rfl
    rw [hf] at KS
    rw [hp]
    clear hs hf hR hp
    go_enter Try.func54, Try.ntmps54
    go_wp2_with fail
    refine (KS.out _).mono ?_; rintro e _ ⟨rfl, rfl⟩
    go_wp2_with fail
    go_ret
    exact ⟨rfl, HB.out⟩
theorem szPuzzle_any (s : Int) (A : Option Addr) (n c : Nat) (w : World) (h1 : n ≤ 9223372036854775807) :
    Calls Try.prog 15 #[.agg #[.int .i64 s, .slice A n c], .int .i64 1048576] w fun e w' => e = .returned (.int .i64 (if (n : Int) ≤ 1048576 then 1048576 - n else -1)) ∧ Below w.heap.size w w' := by
  have HB := Lib.hid (Below.alloc (Below.refl w.heap.size w) (Nat.le_refl _) (.cells #[.int .i64 s, .slice A n c] 24))
  have K1 : Hid (∀ W, Calls Try.prog 53 #[.slice A n c, .int .i64 1048576] W fun e w' => e = .returned (.int .i64 (if (n : Int) ≤ 1048576 then 1048576 - n else -1)) ∧ W = w') := Lib.hid (fun W => by
    by_cases h : (n : Int) ≤ 1048576
    · rw [if_pos h]
      have h' : ¬ (1048576 : Int) - n < 0 := by omega
      go_enter Try.func53, Try.ntmps53
      go_wp2_with fail
      go_ret
      exact ⟨rfl, rfl⟩
    · rw [if_neg h]
      have h' : (1048576 : Int) - n < 0 := by omega
      go_enter Try.func53, Try.ntmps53
      go_wp2_with fail
      go_ret
      exact ⟨rfl, rfl⟩)
  by_cases h : (n : Int) ≤ 1048576
  · rw [if_pos h] at K1 ⊢
    have h' : ¬ (1048576 : Int) - n < 0 := by omega
    go_enter Try.func15, Try.ntmps15
    go_wp2_with fail
    refine (K1.out _).mono ?_; rintro e _ ⟨rfl, rfl⟩
    go_wp2_with fail
    go_ret
    exact ⟨rfl, HB.out⟩
  · rw [if_neg h] at K1 ⊢
    go_enter Try.func15, Try.ntmps15
    go_wp2_with fail
    refine (K1.out _).mono ?_; rintro e _ ⟨rfl, rfl⟩
    go_wp2_with fail
    go_ret
    exact ⟨rfl, HB.out⟩
theorem nib_set {W : World} {g n : Nat} {f : Nat → Int} {a : Addr} (h : Nib W g n f) (u : Value) (ha : a.block ≠ g) : Nib (W.setCell a u) g n f := by
  refine ⟨by simpa [World.setCell] using h.z, fun hn => ?_⟩
  obtain ⟨b, off, e, h1, h2, h3⟩ := h.r hn
  have hbg : b = g := by omega
  subst hbg
  have hc : ∀ o, (W.setCell a u).cell? ⟨b, o, none⟩ = W.cell? ⟨b, o, none⟩ := fun o => World.cell?_setCell_other _ _ _ _ (fun e => ha (by rw [e]))
  exact ⟨b, off, e, h1, h2, fun i hi => by rw [hc, World.frozen?_setCell]; exact h3 i hi⟩
set_option maxHeartbeats 1000000 in
theorem toPuzzle_any (s : Int) (A : Option Addr) (c n : Nat) (f : Nat → Int) (w : World) (hn : n ≤ 1048576) (hR : RdI w w.heap.size A (n * 4) f) :
    Calls Try.prog 17 #[.agg #[.int .i64 s, .slice A n c]] w fun e w' => ∃ g, e = .returned (.agg #[.int .i64 s, .slice (some ⟨g, 0, none⟩) n n]) ∧ Below w.heap.size w w' ∧ w.heap.size ≤ g ∧ Nib w' g (n * 4) f := by
  have K := Lib.hid (fun W (hb : Below w.heap.size w W) => toClueS_any A c n f W hn (rdi_below hR hb (Nat.le_refl _)))
  clear hR hn
  go_enter Try.func17, Try.ntmps17
  go_wp2_with fail
  obtain ⟨W0, hW0⟩ : ∃ W0, W0 = (((w.alloc (.cells #[.int .i64 s, .slice A n c] 24)).alloc (.cells #[.int .i64 0, .slice none 0 0] 28)).alloc (.cells #[.int .i64 s, .slice none 0 0] 28)) := ⟨_, rfl⟩
  have B0 : Below w.heap.size w W0 := by rw [hW0]; exact Below.alloc (Below.alloc (Below.alloc (Below.refl _ _) (Nat.le_refl _) _) (by simp) _) (by simp; omega) _
  have z0 : w.heap.size + 1 + 1 < W0.heap.size := by rw [hW0]; simp
  have r0 : W0.cell? ⟨w.heap.size + 1, 0, none⟩ = some (.int .i64 0) := by rw [hW0]; go_simp
  have r1 : W0.cell? ⟨w.heap.size + 1, 1, none⟩ = some (.slice none 0 0) := by rw [hW0]; go_simp
  have o0 : W0.cell? ⟨w.heap.size + 1 + 1, 0, none⟩ = some (.int .i64 s) := by rw [hW0]; go_simp
  have o1 : W0.cell? ⟨w.heap.size + 1 + 1, 1, none⟩ = some (.slice none 0 0) := by rw [hW0]; go_simp
  have fr : ∀ o, W0.frozen? ⟨w.heap.size + 1, o, none⟩ = false := fun o => by
    have e : w.heap[w.heap.size + 1]? = none := Array.getElem?_eq_none (by omega)
    rw [hW0, frozen?_alloc_cells, frozen?_alloc_cells, frozen?_alloc_cells]; simp [World.frozen?, e]
  have fo : ∀ o, W0.frozen? ⟨w.heap.size + 1 + 1, o, none⟩ = false := fun o => by
    have e : w.heap[w.heap.size + 1 + 1]? = none := Array.getElem?_eq_none (by omega)
    rw [hW0, frozen?_alloc_cells, frozen?_alloc_cells, frozen?_alloc_cells]; simp [World.frozen?, e]
  rw [← hW0]
  clear hW0
  refine (K.out _ B0).mono ?_; rintro e w1 ⟨rfl, hb1, hN⟩
  have hc := (bcell hb1).1
  have hf := (bcell hb1).2
  have r0' := (hc _ 0 (show w.heap.size + 1 < _ by omega)).trans r0
  have r1' := (hc _ 1 (show w.heap.size + 1 < _ by omega)).trans r1
  have o0' := (hc _ 0 z0).trans o0
  have o1' := (hc _ 1 z0).trans o1
  have f0 := (hf _ 0 (show w.heap.size + 1 < _ by omega)).trans (fr 0)
  have f1 := (hf _ 1 (show w.heap.size + 1 < _ by omega)).trans (fr 1)
  have f2 := (hf _ 1 z0).trans (fo 1)
  have z1 := Nat.lt_of_lt_of_le z0 hb1.size
  have B1 := B0.trans (hb1.mono B0.size)
  obtain ⟨g, hg⟩ : ∃ g, g = W0.heap.size := ⟨_, rfl⟩
  rw [← hg] at hN z0 ⊢
  have HN := Lib.hid hN
  clear hg hb1 hc hf r0 r1 o0 o1 fr fo hN K B0
  go_wp2_with fail
  have X1 := nib_set (a := ⟨w.heap.size + 1, 1, none⟩) (nib_set (a := ⟨w.heap.size + 1, 0, none⟩) (nib_set (a := ⟨w.heap.size + 1 + 1, 1, none⟩) HN.out (.slice (some ⟨g, 0, none⟩) n n) (by show w.heap.size + 1 + 1 ≠ g; omega)) (.int .i64 s) (by show w.heap.size + 1 ≠ g; omega)) (.slice (some ⟨g, 0, none⟩) n n) (by show w.heap.size + 1 ≠ g; omega)
  refine bodyPost_ret (v := .agg #[.int .i64 s, .slice (some ⟨g, 0, none⟩) n n]) (by simp [results, Try.results17, go_sem, r0', r1', z1]) rfl ⟨g, rfl, ?_, by omega, X1⟩
  exact ((B1.setCell (p := ⟨w.heap.size + 1 + 1, 1, none⟩) (by show _ ≤ w.heap.size + 1 + 1; omega) _).setCell (p := ⟨w.heap.size + 1, 0, none⟩) (by show _ ≤ w.heap.size + 1; omega) _).setCell (p := ⟨w.heap.size + 1, 1, none⟩) (by show _ ≤ w.heap.size + 1; omega) _
theorem eqPuzzle_same (s : Int) (A A' : Option Addr) (c c' n : Nat) (f : Nat → Int) (w : World) (hn : n ≤ 1048576) (hR : RdI w w.heap.size A (n * 4) f) (hR' : RdI w w.heap.size A' (n * 4) f) :
    Calls Try.prog 19 #[.agg #[.int .i64 s, .slice A n c], .agg #[.int .i64 s, .slice A' n c']] w fun e w' => e = .returned (.bool true) ∧ Below w.heap.size w w' := by
  have K := Lib.hid (fun W (hb : Below w.heap.size w W) => eqClueS_same A A' c c' n f W hn (rdi_below hR hb (Nat.le_refl _)) (rdi_below hR' hb (Nat.le_refl _)))
  have HB := Lib.hid (Below.alloc (Below.alloc (Below.refl w.heap.size w) (Nat.le_refl _) (.cells #[.int .i64 s, .slice A n c] 28)) (by simp) (.cells #[.int .i64 s, .slice A' n c'] 28))
  clear hR hR'
  go_enter Try.func19, Try.ntmps19
  go_wp2_with fail
  refine (K.out _ HB.out).mono ?_; rintro e w1 ⟨rfl, hb1⟩
  go_wp2_with fail
  go_ret
  exact ⟨rfl, HB.out.trans (hb1.mono HB.out.size)⟩
theorem markPuzzle_any (s : Int) (A : Option Addr) (c n : Nat) (lo B : Nat) (f : Nat → Int) (w : World) (hn : n ≤ 1048576) (hB : B ≤ w.heap.size) (hR : RwI w lo B A (n * 4) f) :
    Calls Try.prog 20 #[.agg #[.int .i64 s, .slice A n c], .int .i64 1] w fun e w' => e = .returned (.int .i64 (1 + 4 * (n : Int))) ∧ RwI w' lo B A (n * 4) (fun i => 1 + (i : Int)) ∧ w.heap.size ≤ w'.heap.size ∧ (∀ k, k < w.heap.size → (k < lo ∨ B ≤ k) → w'.heap[k]? = w.heap[k]?) ∧ w'.os = w.os ∧ w'.tape = w.tape ∧ w'.output = w.output := by
  have HB := Lib.hid (Below.alloc (Below.refl w.heap.size w) (Nat.le_refl _) (.cells #[.int .i64 s, .slice A n c] 28))
  have K := Lib.hid (markClueS_any A c n 1 lo B f (w.alloc (.cells #[.int .i64 s, .slice A n c] 28)) hn (by omega) (by omega) (rwi_below hR HB.out hB))
  clear hR
  go_enter Try.func20, Try.ntmps20
  go_wp2_with fail
  refine K.out.mono ?_; rintro e w1 ⟨rfl, ho, hr⟩
  have h1 := HB.out
  have zz : w.heap.size ≤ w1.heap.size := by have := ho.size; have := h1.size; omega
  have hk : Hid (∀ k, k < w.heap.size → (k < lo ∨ B ≤ k) → w1.heap[k]? = w.heap[k]?) := Lib.hid (fun k h2 h3 => (ho.block k h3).trans (h1.block k h2))
  have e1 : w1.os = w.os := ho.os.trans h1.os
  have e2 : w1.tape = w.tape := ho.tape.trans h1.tape
  have e3 : w1.output = w.output := ho.output.trans h1.output
  have hr' := Lib.hid hr
  clear ho hr h1
  go_wp2_with fail
  go_ret
  exact ⟨rfl, hr'.out, zz, hk.out, e1, e2, e3⟩
theorem heldPuzzle_any (s : Int) (A : Option Addr) (c n : Nat) (lo B : Nat) (w : World) (hn : n ≤ 1048576) (hB : B ≤ w.heap.size) (hR : RwI w lo B A (n * 4) (fun i => 1 + (i : Int))) :
    Calls Try.prog 21 #[.agg #[.int .i64 s, .slice A n c], .int .i64 1] w fun e w' => e = .returned (.int .i64 (1 + 4 * (n : Int))) ∧ Below w.heap.size w w' := by
  have HB := Lib.hid (Below.alloc (Below.refl w.heap.size w) (Nat.le_refl _) (.cells #[.int .i64 s, .slice A n c] 28))
  have K := Lib.hid (heldClueS_any A c n 1 lo B (w.alloc (.cells #[.int .i64 s, .slice A n c] 28)) hn (by omega) (by omega) (rwi_below hR HB.out hB))
  have h0 : ¬ (1 : Int) + 4 * (n : Int) < 0 := by omega
  clear hR
  go_enter Try.func21, Try.ntmps21
  go_wp2_with fail
  refine K.out.mono ?_; rintro e _ ⟨rfl, rfl⟩
  go_wp2_with fail
  go_ret
  exact ⟨rfl, HB.out⟩
end Go.Proofs.Ytacabmbajadbgaa
