/- contracts: BestClue, on both sides -/
import Derived.Test.YtacabmbajadbgaaPw1
import Derived.Test.YtacabmbajadbgaaRh
namespace Go.Proofs.Ytacabmbajadbgaa
open Go.ChangeShapes Go.WideShapes Go.ChangeAt Go.RowKit Go.Joins
set_option linter.unusedVariables false
set_option linter.unusedSimpArgs false
set_option maxRecDepth 4000
noncomputable def cnK (ns : Nat) (f : Nat → Int) (k : Nat) : Nat := (solC ns f k (k + 1)).length
noncomputable def bstB (s : Int) (n : Nat) (f : Nat → Int) : Bool := puzB s n f && decide (0 < n)
noncomputable def bstV (s : Int) (n : Nat) (f : Nat → Int) : Int := if bstB s n f = true then ((bst (cnK s.toNat f) n).1 : Int) else 0
theorem bst_no {s : Int} {n : Nat} {f : Nat → Int} (h : puzB s n f = false ∨ n = 0) : bstB s n f = false ∧ bstV s n f = 0 := by
  have e : bstB s n f = false := by
    unfold bstB
    rcases h with h | h
    · rw [h]; rfl
    · subst h; simp
  refine ⟨e, ?_⟩
  unfold bstV
  rw [e]; rfl
theorem bst_yes {ns n : Nat} {f : Nat → Int} (h : puzB (ns : Int) n f = true) (h0 : 0 < n) : bstB (ns : Int) n f = true ∧ bstV (ns : Int) n f = ((bst (cnK ns f) n).1 : Int) := by
  have e : bstB (ns : Int) n f = true := by unfold bstB; rw [h]; simpa using h0
  refine ⟨e, ?_⟩
  unfold bstV
  rw [if_pos e]; rfl
theorem bst_stp {g : Nat → Nat} {k : Nat} (h : k = 0 ∨ g k < (bst g k).2) : bst g (k + 1) = (k, g k) := by rw [bst, if_pos h]
theorem bst_sty {g : Nat → Nat} {k : Nat} (h : ¬ (k = 0 ∨ g k < (bst g k).2)) : bst g (k + 1) = bst g k := by rw [bst, if_neg h]
set_option maxHeartbeats 2000000 in
theorem implBestClue_any (s : Int) (bk off c n : Nat) (f : Nat → Int) (w : World) (hm : n ≤ 1048576) (hnc : n ≤ c) (hc : c ≤ 9223372036854775807) (hR : RdI w w.heap.size (some ⟨bk, off, none⟩) (n * 4) f) :
    Calls Try.prog 31 #[.agg #[.int .i64 s, .slice (some ⟨bk, off, none⟩) n c]] w fun e w' => e = .returned (.tuple #[.int .i64 (bstV s n f), .bool (bstB s n f)]) ∧ Below w.heap.size w w' := by
  have K := Lib.hid (fun W (hb : Below w.heap.size w W) => implIsPuzzle_any s (some ⟨bk, off, none⟩) c n f W (rdi_below hR hb (Nat.le_refl _)))
  have HB := Lib.hid (Below.alloc (Below.refl w.heap.size w) (Nat.le_refl _) (.cells #[.int .i64 s, .slice (some ⟨bk, off, none⟩) n c] 28))
  have P0 := Lib.hid (pbx_new w s (some ⟨bk, off, none⟩) n c 28)
  cases hp : puzB s n f
  · obtain ⟨e1, e2⟩ := bst_no (s := s) (n := n) (f := f) (Or.inl hp)
    rw [e1, e2]
    rw [hp] at K
    clear hp hR e1 e2
    go_enter Try.func31, Try.ntmps31
    go_wp2_with fail
    refine (K.out _ HB.out).mono ?_; rintro e w1 ⟨rfl, hb1⟩
    go_wp2_with fail
    go_ret2
    exact ⟨rfl, HB.out.trans (hb1.mono HB.out.size)⟩
  · rcases Nat.eq_zero_or_pos n with h0 | h0
    · subst h0
      obtain ⟨e1, e2⟩ := bst_no (s := s) (n := 0) (f := f) (Or.inr rfl)
      rw [e1, e2]
      rw [hp] at K
      clear hp hR e1 e2 hm hnc
      go_enter Try.func31, Try.ntmps31
      go_wp2_with fail
      refine (K.out _ HB.out).mono ?_; rintro e w1 ⟨rfl, hb1⟩
      have P1 := pbx_below P0.out hb1
      have p1 := P1.c1
      have pz := P1.z
      go_wp2_with fail
      go_ret2
      exact ⟨rfl, HB.out.trans (hb1.mono HB.out.size)⟩
    · obtain ⟨ns, rfl⟩ := nat_of hp
      obtain ⟨e1, e2⟩ := bst_yes hp h0
      rw [e1, e2]
      rw [hp] at K
      have h12 := puzB_t hp
      have KP := Lib.hid (fun k (hk : k < n) W => part_any (ns : Int) bk off c n k (k + 1) W (by omega) (by omega) hnc hc)
      have KS := Lib.hid (fun k (hk : k < n) A' (hA : k < k + 1 → A' = some ⟨bk, off + k * 4, none⟩) W (hb : Below w.heap.size w W) => solutions_any ns A' (k + 1 - k) (k + 1 - k) (fun i => f (k * 4 + i)) W (puzB_part hp (by omega)) (rdi_part (rdi_below hR hb (Nat.le_refl _)) hA (by omega)))
      have HG : Hid (∀ k, (solK (fun i => f (k * 4 + i)) (k + 1 - k) (ns + 1) ((ns + 1) * (ns + 1))).length = cnK ns f k) := Lib.hid (fun k => rfl)
      have HI := Lib.hid (bst_is (cnK ns f) n h0)
      have HM := Lib.hid (mn_is (cnK ns f) h0)
      have hn6 : n ≤ 6 := h12.2.2.1
      obtain ⟨i0, hi0, hz0, hz1, hz2⟩ := info_parts int_info
      have hmk := fun W => run_make (P := Try.prog) W 41 3 i0 _ Try.underlying41 hi0 hz0 .i64 .i64 (n : Int) (n : Int) (by omega) (by omega) (by rw [hz2]; omega) (by omega)
      have hnz : ¬ (n : Int) = 0 := by omega
      have hnb : ((n : Int) == 0) = false := by simpa using hnz
      clear hp hR e1 e2 h12
      generalize cnK ns f = g at *
      go_enter Try.func31, Try.ntmps31
      go_wp2_with fail
      refine (K.out _ HB.out).mono ?_; rintro e w1 ⟨rfl, hb1⟩
      have P1 := pbx_below P0.out hb1
      have B1 := HB.out.trans (hb1.mono HB.out.size)
      have p1 := P1.c1
      have pz := P1.z
      clear hb1 P0 HB K
      go_wp2_with fail
      have hS0 := Lib.hid (seti_new w1 3 n (fun i => (g i : Int)))
      have BM : Below w1.heap.size w1 (w1.alloc (.cells (madeCells #[.int .i64 0] (n * 1)) 3)) := (Below.refl _ _).alloc (Nat.le_refl _) _
      have P2 := Lib.hid (pbx_below P1 BM)
      have B2 := B1.trans (BM.mono B1.size)
      have hlo := B1.size
      have hlo2 : w.heap.size < w1.heap.size := P1.z
      clear hmk P1 BM p1 pz B1
      simp only [Nat.mul_one] at hS0 P2 B2
      obtain ⟨gf, hgf⟩ : ∃ gf, gf = w1.heap.size := ⟨_, rfl⟩
      rw [← hgf] at hS0 hlo hlo2 ⊢
      clear hgf
      go_wp2_with fail
      try simp only [hnb]
      go_loopg [21] n (fun gg i wr => ∃ k : Nat, k ≤ n ∧ gg = n - k ∧ i = .int .i64 (k : Int) ∧ Below w.heap.size w wr ∧ Hid (Pbx wr w.heap.size (ns : Int) (some ⟨bk, off, none⟩) n c) ∧ Hid (SetI wr gf n k (fun i => (g i : Int))))
      case atStart => exact ⟨0, Nat.zero_le _, rfl, rfl, B2, P2, hS0⟩
      case round =>
        clear B2 P2 hS0
        obtain ⟨k, hk, hgg, rfl, hB, hP, hS⟩ := hrel
        rename World => wo
        have HGK := Lib.hid hgg
        clear hgg
        by_cases hlt : k < n
        · have p0 := hP.out.c0
          have p1 := hP.out.c1
          have pz := hP.out.z
          have hkk : IntKind.i64.wrap ((k : Int) + 1) = (k : Int) + 1 := IntWalk.i64_in _ (by omega)
          have KP1 := Lib.hid (fun W => KP.out k hlt W)
          have KS1 := Lib.hid (fun A' hA W hb => KS.out k hlt A' hA W hb)
          have HG1 := Lib.hid (HG.out k)
          have hk3 : k + 1 - k = 1 := by omega
          rw [hk3] at KP1 KS1 HG1
          rw [show ((k + 1 : Nat) : Int) = (k : Int) + 1 by omega] at KP1
          go_wp2_with fail
          try rw [hkk]
          refine (KP1.out _).mono ?_; rintro e w2 ⟨⟨A', rfl, hA⟩, hb2⟩
          obtain rfl := hA (by omega)
          clear hA
          have B2 := hB.trans (hb2.mono hB.size)
          go_wp2_with fail
          refine (KS1.out _ (fun _ => rfl) _ B2).mono ?_; rintro e w3 ⟨A2, c2, rfl, q1, q2, hb3, q3⟩
          have b3 := hb2.trans (hb3.mono hb2.size)
          have B3 := hB.trans (b3.mono hB.size)
          have P3 := Lib.hid (pbx_below hP.out b3)
          have S3 := seti_below hS.out b3
          rw [HG1.out]
          clear q3 q1 q2 hb2 hb3 b3 B2 hB hP hS p0 p1 pz KP1 KS1
          obtain ⟨g1, g2, g3⟩ := S3
          obtain ⟨⟨u1, d1⟩, d3⟩ := g2 k hlt
          have S4 := Lib.hid (seti_store ⟨g1, g2, g3⟩ hlt)
          have B4 := Lib.hid (B3.setCell (p := ⟨gf, k, none⟩) (by show _ ≤ gf; omega) (.int .i64 (g k : Int)))
          have P4 : Hid (Pbx (w3.setCell ⟨gf, k, none⟩ (.int .i64 (g k : Int))) w.heap.size (ns : Int) (some ⟨bk, off, none⟩) n c) := Lib.hid (pbx_set P3.out _ (by show gf ≠ _; omega))
          clear g2 g3 P3
          go_wp2_with fail
          go_roundg (n - (k + 1))
          case measure => have := HGK.out; omega
          case rel => exact ⟨k + 1, by omega, rfl, by go_num, B4.out, P4, S4⟩
        · obtain rfl : k = n := by omega
          have R1 := Lib.hid (rdi_of_rw (rwi_of_seti hS.out (Nat.le_refl _)) (Nat.le_refl _))
          obtain ⟨i1, i2, i3, i4⟩ := HI.out
          have KMn := Lib.hid (fun W hb => slMin_any gf k k g W h0 hm (rdi_below R1.out hb (Nat.le_refl _)))
          rw [HM.out] at KMn
          have KIx := Lib.hid (fun W hb => slIndex_any gf k k (bst g k).1 g (bst g k).2 W i1 i2 (fun j hj => by have := i4 j hj; omega) hm (rdi_below R1.out hb (Nat.le_refl _)))
          clear i1 i2 i3 i4 hP hS
          obtain ⟨r1, hr1⟩ : ∃ r1, r1 = (bst g k).1 := ⟨_, rfl⟩
          have HR1 := Lib.hid hr1
          rw [← hr1] at KIx
          clear hr1
          generalize (bst g k).2 = r2 at *
          go_wp2_with fail
          refine (KMn.out _ (Below.refl _ _)).mono ?_; rintro e w2 ⟨rfl, hb2⟩
          go_wp2_with fail
          refine (KIx.out _ hb2).mono ?_; rintro e w3 ⟨rfl, hb3⟩
          have b3 := hb2.trans (hb3.mono hb2.size)
          go_wp2_with fail
          go_ret2
          exact ⟨by rw [← HR1.out]; rfl, hB.trans (b3.mono hB.size)⟩
set_option maxHeartbeats 2000000 in
theorem specBestClue_any (s : Int) (bk off c n : Nat) (f : Nat → Int) (w : World) (hm : n ≤ 1048576) (hnc : n ≤ c) (hc : c ≤ 9223372036854775807) (hR : RdI w w.heap.size (some ⟨bk, off, none⟩) (n * 4) f) :
    Calls Try.prog 30 #[.agg #[.int .i64 s, .slice (some ⟨bk, off, none⟩) n c]] w fun e w' => e = .returned (.tuple #[.int .i64 (bstV s n f), .bool (bstB s n f)]) ∧ Below w.heap.size w w' := by
  have K := Lib.hid (fun W (hb : Below w.heap.size w W) => pzGood_any s (some ⟨bk, off, none⟩) c n f W hm (rdi_below hR hb (Nat.le_refl _)))
  have HB := Lib.hid (Below.alloc (Below.refl w.heap.size w) (Nat.le_refl _) (.cells #[.int .i64 s, .slice (some ⟨bk, off, none⟩) n c] 28))
  have P0 := Lib.hid (pbx_new w s (some ⟨bk, off, none⟩) n c 28)
  cases hp : puzB s n f
  · obtain ⟨e1, e2⟩ := bst_no (s := s) (n := n) (f := f) (Or.inl hp)
    rw [e1, e2]
    rw [hp] at K
    clear hp hR e1 e2
    go_enter Try.func30, Try.ntmps30
    go_wp2_with fail
    refine (K.out _ HB.out).mono ?_; rintro e w1 ⟨rfl, hb1⟩
    go_wp2_with fail
    go_ret2
    exact ⟨rfl, HB.out.trans (hb1.mono HB.out.size)⟩
  · rcases Nat.eq_zero_or_pos n with h0 | h0
    · subst h0
      obtain ⟨e1, e2⟩ := bst_no (s := s) (n := 0) (f := f) (Or.inr rfl)
      rw [e1, e2]
      rw [hp] at K
      clear hp hR e1 e2 hm hnc
      go_enter Try.func30, Try.ntmps30
      go_wp2_with fail
      refine (K.out _ HB.out).mono ?_; rintro e w1 ⟨rfl, hb1⟩
      have P1 := pbx_below P0.out hb1
      have p1 := P1.c1
      have pz := P1.z
      go_wp2_with fail
      go_ret2
      exact ⟨rfl, HB.out.trans (hb1.mono HB.out.size)⟩
    · obtain ⟨ns, rfl⟩ := nat_of hp
      obtain ⟨e1, e2⟩ := bst_yes hp h0
      rw [e1, e2]
      rw [hp] at K
      have h12 := puzB_t hp
      have KS := Lib.hid (fun k (hk : k < n) W (hb : Below w.heap.size w W) => pzAll_any ns (some ⟨bk, off + k * 4, none⟩) (c - k) (k + 1 - k) (fun i => f (k * 4 + i)) W (puzB_part hp (by omega)) (rdi_part (rdi_below hR hb (Nat.le_refl _)) (fun _ => rfl) (by omega)))
      have HG : Hid (∀ k, (solK (fun i => f (k * 4 + i)) (k + 1 - k) (ns + 1) ((ns + 1) * (ns + 1))).length = cnK ns f k) := Lib.hid (fun k => rfl)
      have HY := Lib.hid (fun k h => bst_stp (g := cnK ns f) (k := k) h)
      have HN := Lib.hid (fun k h => bst_sty (g := cnK ns f) (k := k) h)
      have H0 : Hid (bst (cnK ns f) 0 = (0, 0)) := Lib.hid rfl
      have hn6 : n ≤ 6 := h12.2.2.1
      have hnz : ¬ (n : Int) = 0 := by omega
      have hnb : ((n : Int) == 0) = false := by simpa using hnz
      clear hp hR e1 e2 h12
      generalize cnK ns f = g at *
      go_enter Try.func30, Try.ntmps30
      go_wp2_with fail
      refine (K.out _ HB.out).mono ?_; rintro e w1 ⟨rfl, hb1⟩
      have P1 := pbx_below P0.out hb1
      have B1 := HB.out.trans (hb1.mono HB.out.size)
      have p1 := P1.c1
      have pz := P1.z
      clear hb1 P0 HB K
      go_wp2_with fail
      have P1 := Lib.hid P1
      clear p1 pz
      try simp only [hnb]
      go_loopg [4, 5, 20] n (fun gg a b i wr => ∃ k : Nat, k ≤ n ∧ gg = n - k ∧ i = .int .i64 (k : Int) ∧ a = .int .i64 ((bst g k).1 : Int) ∧ b = .int .i64 ((bst g k).2 : Int) ∧ Below w.heap.size w wr ∧ Hid (Pbx wr w.heap.size (ns : Int) (some ⟨bk, off, none⟩) n c))
      case atStart => exact ⟨0, Nat.zero_le _, rfl, rfl, by rw [H0.out]; rfl, by rw [H0.out]; rfl, B1, P1⟩
      case round =>
        clear B1 P1
        obtain ⟨k, hk, hgg, rfl, rfl, rfl, hB, hP⟩ := hrel
        rename World => wo
        have HGK := Lib.hid hgg
        clear hgg
        by_cases hlt : k < n
        · have p0 := hP.out.c0
          have p1 := hP.out.c1
          have pz := hP.out.z
          have hkk : IntKind.i64.wrap ((k : Int) + 1) = (k : Int) + 1 := IntWalk.i64_in _ (by omega)
          have hk1 : k + 1 ≤ c := by omega
          have hk2 : ¬ c = k := by omega
          have hk4 : (k : Int) + 1 ≤ (c : Int) := by omega
          have hk5 : 0 ≤ (k : Int) + 1 := by omega
          have hk3 : k + 1 - k = 1 := by omega
          have KS1 := Lib.hid (fun W hb => KS.out k hlt W hb)
          have HG1 := Lib.hid (HG.out k)
          have HY1 := Lib.hid (HY.out k)
          have HN1 := Lib.hid (HN.out k)
          rw [hk3] at KS1 HG1
          go_wp2_with fail
          refine wp_region_HC 8 (fun W => Below (wo).heap.size (wo) W) (by kernel_rfl) (by kernel_rfl) (by repeat (first | exact Below.refl _ _ | apply Below.drew)) rfl ?_
          simp only [List.take_succ_cons, List.take_zero, List.drop_succ_cons, List.drop_zero]
          first | refine wpH_skip (by rfl) ?_ | (refine wpH_text (v := ?_) (by rfl) (fun W k1 => ?_) ?_; rotate_left; (obtain ⟨hc1, hf1⟩ := bcell k1;  go_simp; refine comes_v ?_; exact k1))
          (try simp only [Act.put, List.setIfInBounds_toArray, List.set_cons_zero, List.set_cons_succ])
          first | refine wpH_skip (by rfl) ?_ | (refine wpH_text (v := ?_) (by rfl) (fun W k1 => ?_) ?_; rotate_left; (obtain ⟨hc1, hf1⟩ := bcell k1;  go_simp; refine comes_v ?_; exact k1))
          (try simp only [Act.put, List.setIfInBounds_toArray, List.set_cons_zero, List.set_cons_succ])
          first | refine wpH_skip (by rfl) ?_ | (refine wpH_text (v := ?_) (by rfl) (fun W k1 => ?_) ?_; rotate_left; (obtain ⟨hc1, hf1⟩ := bcell k1;  go_simp; refine comes_v ?_; exact k1))
          (try simp only [Act.put, List.setIfInBounds_toArray, List.set_cons_zero, List.set_cons_succ])
          first | refine wpH_skip (by rfl) ?_ | (refine wpH_text (v := ?_) (by rfl) (fun W k1 => ?_) ?_; rotate_left; (obtain ⟨hc1, hf1⟩ := bcell k1;  go_simp; refine comes_v ?_; exact k1))
          (try simp only [Act.put, List.setIfInBounds_toArray, List.set_cons_zero, List.set_cons_succ])
          first | refine wpH_skip (by rfl) ?_ | (refine wpH_text (v := ?_) (by rfl) (fun W k1 => ?_) ?_; rotate_left; (obtain ⟨hc1, hf1⟩ := bcell k1;  go_simp; refine comes_v ?_; exact k1))
          (try simp only [Act.put, List.setIfInBounds_toArray, List.set_cons_zero, List.set_cons_succ])
          first | refine wpH_skip (by rfl) ?_ | (refine wpH_text (v := ?_) (by rfl) (fun W k1 => ?_) ?_; rotate_left; (obtain ⟨hc1, hf1⟩ := bcell k1;  go_simp; refine comes_v ?_; exact k1))
          (try simp only [Act.put, List.setIfInBounds_toArray, List.set_cons_zero, List.set_cons_succ])
          first | refine wpH_skip (by rfl) ?_ | (refine wpH_text (v := ?_) (by rfl) (fun W k1 => ?_) ?_; rotate_left; (obtain ⟨hc1, hf1⟩ := bcell k1;  go_simp; refine comes_v ?_; exact k1))
          (try simp only [Act.put, List.setIfInBounds_toArray, List.set_cons_zero, List.set_cons_succ])
          first | refine wpH_skip (by rfl) ?_ | (refine wpH_text (v := ?_) (by rfl) (fun W k1 => ?_) ?_; rotate_left; (obtain ⟨hc1, hf1⟩ := bcell k1;  go_simp; refine comes_v ?_; exact k1))
          (try simp only [Act.put, List.setIfInBounds_toArray, List.set_cons_zero, List.set_cons_succ])
          refine wpH_nil ?_
          refine ⟨(by rfl), ?_⟩
          intro W k1; obtain ⟨hc1, hf1⟩ := bcell k1
          refine ⟨66, #[.int .i64 (ns : Int), .slice (some ⟨bk, off + k * 4, none⟩) 1 (c - k)], (by go_simp), ?_⟩
          refine (KS1.out W (hB.trans (k1.mono hB.size))).mono ?_; rintro e w2 ⟨A2, c2, rfl, q1, q2, hb2, q3⟩
          refine ⟨_, rfl, ?_⟩
          simp only [Act.put, List.setIfInBounds_toArray, List.set_cons_zero, List.set_cons_succ]
          repeat still_step
          refine wpStill_nil ?_
          have b2 := k1.trans (hb2.mono k1.size)
          have B2 := hB.trans (b2.mono hB.size)
          have P2 := Lib.hid (pbx_below hP.out b2)
          rw [HG1.out]
          clear hP k1 hb2 b2 q1 q2 q3 KS1 p0 p1 pz hB HG1
          rcases (show (k = 0 ∨ g k < (bst g k).2) ∨ ¬ (k = 0 ∨ g k < (bst g k).2) by omega) with hcc | hcc
          · have HN2 := Lib.hid (HY1.out hcc)
            rcases hcc with h0k | hlk
            · subst h0k
              go_wp2_with fail
              go_roundg (n - (0 + 1))
              case measure => have := HGK.out; omega
              case rel => exact ⟨1, by omega, rfl, by go_num, by rw [HN2.out]; rfl, by rw [HN2.out], B2, P2⟩
            · have hlk2 : (g k : Int) < ((bst g k).2 : Int) := by omega
              by_cases h0k : k = 0
              · subst h0k
                go_wp2_with fail
                go_roundg (n - (0 + 1))
                case measure => have := HGK.out; omega
                case rel => exact ⟨1, by omega, rfl, by go_num, by rw [HN2.out]; rfl, by rw [HN2.out], B2, P2⟩
              · have h0k2 : ¬ (k : Int) = 0 := by omega
                go_wp2_with fail
                go_roundg (n - (k + 1))
                case measure => have := HGK.out; omega
                case rel => exact ⟨k + 1, by omega, rfl, by go_num, by rw [HN2.out], by rw [HN2.out], B2, P2⟩
          · have HN2 := Lib.hid (HN1.out hcc)
            have h0k2 : ¬ (k : Int) = 0 := by omega
            have hlk2 : ¬ (g k : Int) < ((bst g k).2 : Int) := by omega
            clear hcc
            go_wp2_with fail
            go_roundg (n - (k + 1))
            case measure => have := HGK.out; omega
            case rel => exact ⟨k + 1, by omega, rfl, by go_num, by rw [HN2.out], by rw [HN2.out], B2, P2⟩
        · obtain rfl : k = n := by omega
          go_wp2_with fail
          go_ret2
          exact ⟨rfl, hB⟩
end Go.Proofs.Ytacabmbajadbgaa
