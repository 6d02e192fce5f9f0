/- contract: PutPeg, the model -/
import Derived.Test.YtacabmbajadbgaaPu1
namespace Go.Proofs.Ytacabmbajadbgaa
open Go.ChangeShapes Go.WideShapes Go.ChangeAt Go.RowKit Go.Joins
set_option linter.unusedVariables false
set_option linter.unusedSimpArgs false
set_option maxRecDepth 4000
set_option maxRecDepth 100000 in
set_option maxHeartbeats 8000000 in
theorem specPutPeg_any (A : Option Addr) (c n : Nat) (f : Nat → Int) (k : Int) (w : World) (hn : n ≤ 1048576) (hcn : c = n) (hR : RdI w w.heap.size A n f) :
    Calls Try.prog 42 #[.slice A n c, .int .i64 k] w (RetNI w (puN f n k) (puF f n k.toNat) (puB f n k)) := by
  subst c
  have K := Lib.hid (duNumber_any A n n f w hn hR)
  cases hb : numB f n
  · have hB : puB f n k = false := by unfold puB; rw [hb]; rfl
    rw [pu_f hB, hB]
    rw [hb] at K
    clear hb hR hB
    go_enter Try.func42, Try.ntmps42
    go_wp2_with fail
    refine K.out.mono ?_; rintro e w1 ⟨rfl, hb1⟩
    have B2 := Lib.hid hb1
    clear hb1
    go_wp2_with fail
    go_ret2
    exact retNI_nil B2.out
  rw [hb] at K
  obtain ⟨h3, h9, h6⟩ := numB_T hb
  have KI := Lib.hid (fun W => l1In_any k 0 (n : Int) W)
  by_cases hk : 0 ≤ k ∧ k ≤ (n : Int)
  rotate_left
  · have hB : puB f n k = false := by
      unfold puB
      by_cases g0 : 0 ≤ k
      · rw [decide_eq_false (show ¬ k ≤ (n : Int) by omega)]; simp
      · rw [decide_eq_false g0]; simp
    rw [pu_f hB, hB]
    have e : (decide (0 ≤ k) && decide (k ≤ (n : Int))) = false := by
      by_cases g0 : 0 ≤ k
      · rw [decide_eq_false (show ¬ k ≤ (n : Int) by omega)]; simp
      · rw [decide_eq_false g0]; simp
    rw [e] at KI
    clear hb hR h6 hB e hk
    go_enter Try.func42, Try.ntmps42
    go_wp2_with fail
    refine K.out.mono ?_; rintro e w1 ⟨rfl, hb1⟩
    have B2 := Lib.hid hb1
    clear hb1
    go_wp2_with fail
    refine (KI.out _).mono ?_; rintro e _ ⟨rfl, rfl⟩
    go_wp2_with fail
    go_ret2
    exact retNI_nil B2.out
  obtain ⟨kn, rfl⟩ : ∃ kn : Nat, k = (kn : Int) := ⟨k.toNat, by omega⟩
  have hk2 : (kn : Int) ≤ (n : Int) := hk.2
  have hkn : kn ≤ n := by omega
  rw [show (decide (0 ≤ (kn : Int)) && decide ((kn : Int) ≤ (n : Int))) = true by simp; omega] at KI
  by_cases hn9 : n = 9
  · subst hn9
    rw [pu_f puB_9, puB_9]
    clear hb hR h6 hk
    go_enter Try.func42, Try.ntmps42
    go_wp2_with fail
    refine K.out.mono ?_; rintro e w1 ⟨rfl, hb1⟩
    have B2 := Lib.hid hb1
    clear hb1
    go_wp2_with fail
    refine (KI.out _).mono ?_; rintro e _ ⟨rfl, rfl⟩
    go_wp2_with fail
    go_ret2
    exact retNI_nil B2.out
  have hn9i : ¬ (n : Int) = 9 := by omega
  rw [Int.toNat_natCast]
  have hB : puB f n (kn : Int) = numB (puF f n kn) (n + 1) := by
    unfold puB
    rw [hb, decide_eq_true hk.1, decide_eq_true hk.2, Int.toNat_natCast]
    rfl
  obtain ⟨b, off, rfl, hbz, hcell⟩ := hR (by omega)
  have KO := Lib.hid (fun W (hW : Below w.heap.size w W) => own_some b off n kn f W (by omega) (Nat.lt_of_lt_of_le hbz hW.size) (fun i hi => ((bcell hW).1 _ _ hbz).trans (hcell i (by omega))))
  obtain ⟨x2, hx2⟩ : ∃ x : Nat, x = if n = kn then off else off + kn := ⟨_, rfl⟩
  have HN2 : Hid (∀ W, Below w.heap.size w W → ∀ j u, (iL (fun i => f (kn + i)) (n - kn))[j]? = some u → W.cell? ((⟨b, x2, none⟩ : Addr).add j) = some u) := Lib.hid (fun W hW j u hu => by
    have hj : j < n - kn := by
      have := (List.getElem?_eq_some_iff.1 hu).1
      rwa [iL_len] at this
    rw [iL_get hj] at hu
    injection hu with hu
    rw [add_plain, ← hu, hx2, if_neg (by omega), Nat.add_assoc]
    exact ((bcell hW).1 _ _ hbz).trans (hcell (kn + j) (by omega)))
  obtain ⟨F, hF⟩ : ∃ F, F = inF f kn := ⟨_, rfl⟩
  have h6F : ∀ i, i < n + 1 → -200 ≤ F i ∧ F i ≤ 200 := by
    intro i hi
    rw [hF]; unfold inF
    split
    · have := h6 i (by omega); omega
    · split
      · omega
      · have := h6 (i - 1) (by omega); omega
  have HIN : Hid (iL f kn ++ (Value.int .i64 1 :: iL (fun i => f (kn + i)) (n - kn)) = iL F (n + 1)) := Lib.hid (by rw [hF, ← iL_ins f n kn hkn]; simp)
  have HIN0 : n = kn → iL f kn ++ (Value.int .i64 1 :: iL (fun i => f (kn + i)) 0) = iL F (n + 1) := fun e => by have h := HIN.out; rw [show n - kn = 0 by omega] at h; exact h
  -- the two numbers beside
  obtain ⟨p, hp⟩ : ∃ p, p = (kn + n) % (n + 1) := ⟨_, rfl⟩
  obtain ⟨q, hq⟩ : ∃ q, q = (kn + 1) % (n + 1) := ⟨_, rfl⟩
  have hq0 : n = kn → q = 0 := fun e => by rw [hq, e]; exact Nat.mod_self _
  have hpn : p < n + 1 := by rw [hp]; exact Nat.mod_lt _ (by omega)
  have hqn : q < n + 1 := by rw [hq]; exact Nat.mod_lt _ (by omega)
  have hA : adB F (n + 1) kn 1 = upd (upd F p (F p + 1)) q (upd F p (F p + 1) q + 1) := by rw [hp, hq, show kn + n = kn + (n + 1) - 1 by omega]; rfl
  have w1 : IntKind.i64.wrap ((kn : Int) + (n : Int)) = (kn : Int) + (n : Int) := IntWalk.i64_in _ (by omega)
  have w2 : IntKind.i64.wrap ((n : Int) + 1) = (n : Int) + 1 := IntWalk.i64_in _ (by omega)
  have e1 : ((kn : Int) + (n : Int)).tmod ((n : Int) + 1) = (p : Int) := by
    rw [show (kn : Int) + (n : Int) = ((kn + n : Nat) : Int) by omega, show (n : Int) + 1 = ((n + 1 : Nat) : Int) by omega, tmodN _ _ (by omega), hp]
  have w3 : IntKind.i64.wrap ((p : Int)) = (p : Int) := IntWalk.i64_in _ (by omega)
  have w4 : IntKind.i64.wrap ((kn : Int) + 1) = (kn : Int) + 1 := IntWalk.i64_in _ (by omega)
  have e2 : ((kn : Int) + 1).tmod ((n : Int) + 1) = (q : Int) := by
    rw [show (kn : Int) + 1 = ((kn + 1 : Nat) : Int) by omega, show (n : Int) + 1 = ((n + 1 : Nat) : Int) by omega, tmodN _ _ (by omega), hq]
  have w5 : IntKind.i64.wrap ((q : Int)) = (q : Int) := IntWalk.i64_in _ (by omega)
  have hn0 : ¬ (n : Int) + 1 = 0 := by omega
  have p1 : (p : Int) < (n : Int) + 1 := by omega
  have q1 : (q : Int) < (n : Int) + 1 := by omega
  have p2 : p < n + 1 := hpn
  have q2 : q < n + 1 := hqn
  have b1 := h6F p hpn
  have x1 : IntKind.i64.wrap (F p + 1) = F p + 1 := IntWalk.i64_in _ (by omega)
  obtain ⟨f1, hf1⟩ : ∃ f1, f1 = upd F p (F p + 1) := ⟨_, rfl⟩
  have b2 : -300 ≤ f1 q ∧ f1 q ≤ 300 := by
    rw [hf1]; unfold upd
    have := h6F q hqn
    split <;> omega
  have x2' : IntKind.i64.wrap (f1 q + 1) = f1 q + 1 := IntWalk.i64_in _ (by omega)
  have hT : puF f n kn = upd f1 q (f1 q + 1) := by unfold puF; rw [← hF, hA, hf1]
  have HS1 : Hid (∀ W base g cap, RowI W base (.slice (some ⟨g, 0, none⟩) (n + 1) cap) (n + 1) F → RowI (W.setCell ⟨g, p, none⟩ (.int .i64 (F p + 1))) base (.slice (some ⟨g, 0, none⟩) (n + 1) cap) (n + 1) f1) := Lib.hid (fun W base g cap h => by rw [hf1]; exact rowI_set h hpn _)
  have HS2 : Hid (∀ W base g cap, RowI W base (.slice (some ⟨g, 0, none⟩) (n + 1) cap) (n + 1) f1 → RowI (W.setCell ⟨g, q, none⟩ (.int .i64 (f1 q + 1))) base (.slice (some ⟨g, 0, none⟩) (n + 1) cap) (n + 1) (upd f1 q (f1 q + 1))) := Lib.hid (fun W base g cap h => rowI_set h hqn _)
  have HT := Lib.hid hT
  have HP1 : Hid (∀ W base g cap, RowI W base (.slice (some ⟨g, 0, none⟩) (n + 1) cap) (n + 1) F → W.cell? ⟨g, p, none⟩ = some (.int .i64 (F p))) := Lib.hid (fun W base g cap h => (rowI_bk h).c p hpn)
  have HP2 : Hid (∀ W base g cap, RowI W base (.slice (some ⟨g, 0, none⟩) (n + 1) cap) (n + 1) f1 → W.cell? ⟨g, q, none⟩ = some (.int .i64 (f1 q))) := Lib.hid (fun W base g cap h => (rowI_bk h).c q hqn)
  obtain ⟨i0, hi0, hz0, hz1, hz2⟩ := info_parts int_infoD
  have HI := Lib.hid (And.intro hi0 (And.intro hz0 (And.intro hz1 hz2)))
  have HB := Lib.hid hB
  generalize puF f n kn = T at *
  have KE := Lib.hid (fun g cap W (h : Bk W g (n + 1) T) => duNumber_any (some ⟨g, 0, none⟩) cap (n + 1) T W (by omega) (bk_rd h))
  generalize F p = fp at *
  generalize hfq : f1 q = fq at *
  have hkc : (kn : Int) ≤ (n : Int) := by omega
  have hbz' := Lib.hid hbz
  clear hA hT hf1 hp hq b1 b2 hcell h6 h6F hb hB hi0 hz0 hz1 hz2 hfq hk hF hR
  by_cases hnk : n = kn
  · rw [if_pos hnk] at hx2
    subst hx2
    subst hnk
    have hss : n - n = 0 := Nat.sub_self n
    obtain rfl : q = 0 := hq0 rfl
    have HIN1 := Lib.hid (HIN0 rfl)
    have hz0 : (0 : Int) < (n : Int) + 1 := by omega
    have hz0' : 0 < n + 1 := by omega
    clear HIN0 hq0
    go_enter Try.func42, Try.ntmps42
    go_wp2_with fail
    refine K.out.mono ?_; rintro e w1' ⟨rfl, hb1⟩
    go_wp2_with fail
    refine (KI.out _).mono ?_; rintro e _ ⟨rfl, rfl⟩
    go_wp2_with fail
    refine (KO.out _ hb1).mono ?_; rintro e w2' ⟨⟨v, rfl, hrow⟩, hb2⟩
    have B2 := hb1.trans (hb2.mono hb1.size)
    have hz2' := hb2.size
    have hz1' := hb1.size
    have R3 : Hid (RowI (w2'.alloc (.cells #[.int .i64 1] 3)) w1'.heap.size v n f) := Lib.hid (rowI_below hrow (Below.alloc (Below.refl _ _) (Nat.le_refl _) _) (Nat.le_refl _))
    have B3 := Lib.hid (Below.alloc B2 B2.size (.cells #[.int .i64 1] 3))
    have hz3 : w1'.heap.size ≤ (w2'.alloc (.cells #[.int .i64 1] 3)).heap.size := by simp; omega
    clear hrow hb1 hb2 B2 K KI KO
    go_wp2_with (at_builtin; refine wpList_append_own _ rfl (.tmp 26) (.tmp 27) 41 rfl w1'.heap.size 3 i0 (.int .i64 0) 1 8 Try.underlying41 HI.out.1 HI.out.2.1 HI.out.2.2.1 HI.out.2.2.2 rfl (by decide) v n (iL f n) rfl R3.out ⟨w2'.heap.size, 0, none⟩ 1 1 [.int .i64 1] rfl rfl (World.news_of_block (cs := #[.int .i64 1]) (t := 3) (fr := (0, 0)) (heap_alloc_new _ _)) (by simp [Value.oneCell']) (by unfold maxLen; omega) (by omega) hz3 ?_)
    intro v4 w4 own4 hgr4 _
    have B4 := Lib.hid (B3.out.grown hgr4 B3.out.size (fun g hg => Nat.le_trans hz1' (World.ownsRow.lt R3.out g hg).1))
    have hz4 : w1'.heap.size ≤ w4.heap.size := Nat.le_trans hz3 hgr4.size
    have R4 := Lib.hid own4
    clear own4 hgr4 R3 B3 hz3
    go_wp2_with (at_builtin; refine wpList_append_own _ rfl (.tmp 29) (.tmp 32) 41 rfl w1'.heap.size 3 i0 (.int .i64 0) 1 8 Try.underlying41 HI.out.1 HI.out.2.1 HI.out.2.2.1 HI.out.2.2.2 rfl (by decide) v4 (n + 1) (iL f n ++ [.int .i64 1]) rfl R4.out ⟨b, x2, none⟩ 0 0 (iL (fun i => f (n + i)) (n - n)) rfl (by rw [iL_len]; omega) (HN2.out _ B4.out) (iL_one _ _) (by unfold maxLen; omega) (by omega) hz4 ?_)
    intro v5 w5' own5 hgr5 _
    have B5 := Lib.hid (B4.out.grown hgr5 B4.out.size (fun g hg => Nat.le_trans hz1' (World.ownsRow.lt R4.out g hg).1))
    have R5 : Hid (RowI w5' w1'.heap.size v5 (n + 1) F) := Lib.hid (by
      unfold RowI
      rw [← HIN1.out]
      exact own5)
    clear own5 hgr5 R4 B4 hz4 HN2 HIN
    obtain ⟨g, cap, rfl, hnc, hcm, hgb, hgz⟩ := rowI_val R5.out (by omega)
    have hwg : w.heap.size ≤ g := Nat.le_trans hz1' hgb
    have c0 := HP1.out _ _ _ _ R5.out
    have f0 := (rowI_bk R5.out).fz p
    go_upto_region 7 with fail
    obtain ⟨W6, hW6⟩ : ∃ W6, W6 = w5'.setCell ⟨g, p, none⟩ (.int .i64 (fp + 1)) := ⟨_, rfl⟩
    rw [← hW6]
    have R6 : Hid (RowI W6 w1'.heap.size (.slice (some ⟨g, 0, none⟩) (n + 1) cap) (n + 1) f1) := Lib.hid (by rw [hW6]; exact HS1.out _ _ _ _ R5.out)
    have B6 : Hid (Below w.heap.size w W6) := Lib.hid (by rw [hW6]; exact B5.out.setCell (p := ⟨g, p, none⟩) hwg _)
    clear hW6 c0 f0 R5 B5 hgz
    have c0 := HP2.out _ _ _ _ R6.out
    have f0 := (rowI_bk R6.out).fz 0
    have hgz := (rowI_bk R6.out).z
    go_upto_region 8 with fail
    obtain ⟨W7, hW7⟩ : ∃ W7, W7 = W6.setCell ⟨g, 0, none⟩ (.int .i64 (fq + 1)) := ⟨_, rfl⟩
    rw [← hW7]
    have R7 : Hid (RowI W7 w1'.heap.size (.slice (some ⟨g, 0, none⟩) (n + 1) cap) (n + 1) (upd f1 0 (fq + 1))) := Lib.hid (by rw [hW7]; exact HS2.out _ _ _ _ R6.out)
    have B7 : Hid (Below w.heap.size w W7) := Lib.hid (by rw [hW7]; exact B6.out.setCell (p := ⟨g, 0, none⟩) hwg _)
    clear hW7 c0 f0 R6 B6 hgz HS1 HS2 HP1 HP2
    rw [← HT.out] at R7
    have H7 := Lib.hid (rowI_bk R7.out)
    go_wp2_with fail
    refine (KE.out _ _ _ H7.out).mono ?_; rintro e w8 ⟨rfl, hb8⟩
    have B8 := Lib.hid (B7.out.trans (hb8.mono B7.out.size))
    have H8 := Lib.hid (bk_rw (bk_below H7.out hb8) hwg)
    clear hb8 B7 R7 H7
    cases hb : numB T (n + 1)
    · rw [hb] at HB
      clear hb
      go_wp2_with fail
      go_ret2
      rw [pu_f HB.out, HB.out]
      exact retNI_nil B8.out
    · rw [hb] at HB
      clear hb
      go_wp2_with fail
      go_ret2
      rw [pu_t HB.out, HB.out]
      exact ⟨_, _, rfl, B8.out, H8.out⟩
  · rw [if_neg hnk] at hx2
    subst hx2
    clear HIN0 hq0
    go_enter Try.func42, Try.ntmps42
    go_wp2_with fail
    refine K.out.mono ?_; rintro e w1' ⟨rfl, hb1⟩
    go_wp2_with fail
    refine (KI.out _).mono ?_; rintro e _ ⟨rfl, rfl⟩
    go_wp2_with fail
    refine (KO.out _ hb1).mono ?_; rintro e w2' ⟨⟨v, rfl, hrow⟩, hb2⟩
    have B2 := hb1.trans (hb2.mono hb1.size)
    have hz2' := hb2.size
    have hz1' := hb1.size
    have R3 : Hid (RowI (w2'.alloc (.cells #[.int .i64 1] 3)) w1'.heap.size v kn f) := Lib.hid (rowI_below hrow (Below.alloc (Below.refl _ _) (Nat.le_refl _) _) (Nat.le_refl _))
    have B3 := Lib.hid (Below.alloc B2 B2.size (.cells #[.int .i64 1] 3))
    have hz3 : w1'.heap.size ≤ (w2'.alloc (.cells #[.int .i64 1] 3)).heap.size := by simp; omega
    clear hrow hb1 hb2 B2 K KI KO
    go_wp2_with (at_builtin; refine wpList_append_own _ rfl (.tmp 26) (.tmp 27) 41 rfl w1'.heap.size 3 i0 (.int .i64 0) 1 8 Try.underlying41 HI.out.1 HI.out.2.1 HI.out.2.2.1 HI.out.2.2.2 rfl (by decide) v kn (iL f kn) rfl R3.out ⟨w2'.heap.size, 0, none⟩ 1 1 [.int .i64 1] rfl rfl (World.news_of_block (cs := #[.int .i64 1]) (t := 3) (fr := (0, 0)) (heap_alloc_new _ _)) (by simp [Value.oneCell']) (by unfold maxLen; omega) (by omega) hz3 ?_)
    intro v4 w4 own4 hgr4 _
    have B4 := Lib.hid (B3.out.grown hgr4 B3.out.size (fun g hg => Nat.le_trans hz1' (World.ownsRow.lt R3.out g hg).1))
    have hz4 : w1'.heap.size ≤ w4.heap.size := Nat.le_trans hz3 hgr4.size
    have R4 := Lib.hid own4
    clear own4 hgr4 R3 B3 hz3
    go_wp2_with (at_builtin; refine wpList_append_own _ rfl (.tmp 29) (.tmp 32) 41 rfl w1'.heap.size 3 i0 (.int .i64 0) 1 8 Try.underlying41 HI.out.1 HI.out.2.1 HI.out.2.2.1 HI.out.2.2.2 rfl (by decide) v4 (kn + 1) (iL f kn ++ [.int .i64 1]) rfl R4.out ⟨b, (off + kn), none⟩ (n - kn) (n - kn) (iL (fun i => f (kn + i)) (n - kn)) rfl (by rw [iL_len]; omega) (HN2.out _ B4.out) (iL_one _ _) (by unfold maxLen; omega) (by omega) hz4 ?_)
    intro v5 w5' own5 hgr5 _
    have B5 := Lib.hid (B4.out.grown hgr5 B4.out.size (fun g hg => Nat.le_trans hz1' (World.ownsRow.lt R4.out g hg).1))
    have R5 : Hid (RowI w5' w1'.heap.size v5 (n + 1) F) := Lib.hid (by
      unfold RowI
      rw [← HIN.out]
      have e : n + 1 = kn + 1 + (n - kn) := by omega
      rw [e]
      exact own5)
    clear own5 hgr5 R4 B4 hz4 HN2 HIN
    obtain ⟨g, cap, rfl, hnc, hcm, hgb, hgz⟩ := rowI_val R5.out (by omega)
    have hwg : w.heap.size ≤ g := Nat.le_trans hz1' hgb
    have c0 := HP1.out _ _ _ _ R5.out
    have f0 := (rowI_bk R5.out).fz p
    go_upto_region 7 with fail
    obtain ⟨W6, hW6⟩ : ∃ W6, W6 = w5'.setCell ⟨g, p, none⟩ (.int .i64 (fp + 1)) := ⟨_, rfl⟩
    rw [← hW6]
    have R6 : Hid (RowI W6 w1'.heap.size (.slice (some ⟨g, 0, none⟩) (n + 1) cap) (n + 1) f1) := Lib.hid (by rw [hW6]; exact HS1.out _ _ _ _ R5.out)
    have B6 : Hid (Below w.heap.size w W6) := Lib.hid (by rw [hW6]; exact B5.out.setCell (p := ⟨g, p, none⟩) hwg _)
    clear hW6 c0 f0 R5 B5 hgz
    have c0 := HP2.out _ _ _ _ R6.out
    have f0 := (rowI_bk R6.out).fz q
    have hgz := (rowI_bk R6.out).z
    go_upto_region 8 with fail
    obtain ⟨W7, hW7⟩ : ∃ W7, W7 = W6.setCell ⟨g, q, none⟩ (.int .i64 (fq + 1)) := ⟨_, rfl⟩
    rw [← hW7]
    have R7 : Hid (RowI W7 w1'.heap.size (.slice (some ⟨g, 0, none⟩) (n + 1) cap) (n + 1) (upd f1 q (fq + 1))) := Lib.hid (by rw [hW7]; exact HS2.out _ _ _ _ R6.out)
    have B7 : Hid (Below w.heap.size w W7) := Lib.hid (by rw [hW7]; exact B6.out.setCell (p := ⟨g, q, none⟩) hwg _)
    clear hW7 c0 f0 R6 B6 hgz HS1 HS2 HP1 HP2
    rw [← HT.out] at R7
    have H7 := Lib.hid (rowI_bk R7.out)
    go_wp2_with fail
    refine (KE.out _ _ _ H7.out).mono ?_; rintro e w8 ⟨rfl, hb8⟩
    have B8 := Lib.hid (B7.out.trans (hb8.mono B7.out.size))
    have H8 := Lib.hid (bk_rw (bk_below H7.out hb8) hwg)
    clear hb8 B7 R7 H7
    cases hb : numB T (n + 1)
    · rw [hb] at HB
      clear hb
      go_wp2_with fail
      go_ret2
      rw [pu_f HB.out, HB.out]
      exact retNI_nil B8.out
    · rw [hb] at HB
      clear hb
      go_wp2_with fail
      go_ret2
      rw [pu_t HB.out, HB.out]
      exact ⟨_, _, rfl, B8.out, H8.out⟩
end Go.Proofs.Ytacabmbajadbgaa
