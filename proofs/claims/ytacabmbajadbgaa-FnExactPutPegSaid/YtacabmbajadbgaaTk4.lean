/- contract: TakePeg, the model -/
import Derived.Test.YtacabmbajadbgaaTk3
namespace Go.Proofs.Ytacabmbajadbgaa
open Go.ChangeShapes Go.WideShapes Go.ChangeAt Go.RowKit Go.Joins
set_option linter.unusedVariables false
set_option linter.unusedSimpArgs false
set_option maxRecDepth 4000
theorem l1Own_any (A : Option Addr) (c n : Nat) (f : Nat → Int) (w : World) (h1 : 1 ≤ n) (hn : n ≤ 1048576) (hR : RdI w w.heap.size A n f) :
    Calls Try.prog 84 #[.slice A n c] w fun e w' => (∃ v, e = .returned v ∧ RowI w' w.heap.size v n f) ∧ Below w.heap.size w w' := by
  obtain ⟨i0, hi0, hz0, hz1, hz2⟩ := info_parts int_infoD
  have HI := Lib.hid (And.intro hi0 (And.intro hz0 (And.intro hz1 hz2)))
  obtain ⟨b, off, rfl, hb, hcell⟩ := hR (by omega)
  have own1 : (w.alloc (.cells #[] 3)).ownsRow w.heap.size 3 1 (.slice (some ⟨w.heap.size, 0, none⟩) 0 0) 0 [] := World.ownsRow_lit w #[] 0 (Nat.le_refl _) (by decide) rfl
  have HO := Lib.hid own1
  have B1 := Lib.hid (Below.alloc (Below.refl w.heap.size w) (Nat.le_refl _) (.cells #[] 3))
  have HN : Hid (∀ j u, (iL f n)[j]? = some u → (w.alloc (.cells #[] 3)).cell? ((⟨b, off, none⟩ : Addr).add j) = some u) := Lib.hid (fun j u hu => by
    have hj : j < n := by
      have := (List.getElem?_eq_some_iff.1 hu).1
      rwa [iL_len] at this
    rw [iL_get hj] at hu
    injection hu with hu
    rw [add_plain, ← hu]
    exact ((bcell B1.out).1 _ _ hb).trans (hcell j hj))
  have hz := B1.out.size
  clear hcell own1 hi0 hz0 hz1 hz2 hR
  go_enter Try.func84, Try.ntmps84
  go_wp2_with (at_builtin; refine wpList_append_own _ rfl (.tmp 3) (.tmp 4) 41 rfl w.heap.size 3 i0 (.int .i64 0) 1 8 Try.underlying41 HI.out.1 HI.out.2.1 HI.out.2.2.1 HI.out.2.2.2 rfl (by decide) (.slice (some ⟨w.heap.size, 0, none⟩) 0 0) 0 [] rfl HO.out ⟨b, off, none⟩ n c (iL f n) rfl (by rw [iL_len, Nat.mul_one]) HN.out (iL_one _ _) (by unfold maxLen; omega) (by omega) hz ?_)
  intro v2 w2 own2 hgr2 _
  have B2 := Lib.hid (B1.out.grown hgr2 B1.out.size (fun g hg => (World.ownsRow.lt HO.out g hg).1))
  have H2 : Hid (RowI w2 w.heap.size v2 n f) := Lib.hid (by unfold RowI; simpa using own2)
  clear own2 hgr2
  go_wp2_with fail
  go_ret
  exact ⟨⟨_, rfl, H2.out⟩, B2.out⟩
theorem tkB_3 {f : Nat → Int} {n : Nat} {k : Int} (h : n < 4) : tkB f n k = false := by
  unfold tkB
  have e : numB (tkF f n k.toNat) (n - 1) = false := by
    unfold numB
    have : inQ 3 9 ((n - 1 : Nat) : Int) = false := by
      unfold inQ
      rw [decide_eq_false (by omega)]; rfl
    rw [this]; rfl
  rw [e]; simp
set_option maxRecDepth 100000 in
set_option maxHeartbeats 8000000 in
theorem specTakePeg_any (A : Option Addr) (c n : Nat) (f : Nat → Int) (k : Int) (w : World) (hn : n ≤ 1048576) (hR : RdI w w.heap.size A n f) :
    Calls Try.prog 39 #[.slice A n c, .int .i64 k] w (RetNI w (tkN f n k) (tkF f n k.toNat) (tkB f n k)) := by
  have K := Lib.hid (duNumber_any A c n f w hn hR)
  cases hb : numB f n
  · have hB : tkB f n k = false := by unfold tkB; rw [hb]; rfl
    rw [tk_f hB, hB]
    rw [hb] at K
    clear hb hR hB
    go_enter Try.func39, Try.ntmps39
    go_wp2_with fail
    refine K.out.mono ?_; rintro e w1 ⟨rfl, hb1⟩
    have B2 := Lib.hid hb1
    clear hb1
    go_wp2_with fail
    go_ret2
    exact retNI_nil B2.out
  rw [hb] at K
  obtain ⟨h3, h9, h6⟩ := numB_T hb
  have wn : IntKind.i64.wrap ((n : Int) - 1) = (n : Int) - 1 := IntWalk.i64_in _ (by omega)
  have KI := Lib.hid (fun W => l1In_any k 0 ((n : Int) - 1) W)
  by_cases h4 : n < 4
  · rw [tk_f (tkB_3 h4), tkB_3 h4]
    have h4i : (n : Int) < 4 := by omega
    clear hb hR h6 KI
    go_enter Try.func39, Try.ntmps39
    go_wp2_with fail
    refine K.out.mono ?_; rintro e w1 ⟨rfl, hb1⟩
    have B2 := Lib.hid hb1
    clear hb1
    go_wp2_with fail
    go_ret2
    exact retNI_nil B2.out
  have h4i : ¬ (n : Int) < 4 := by omega
  by_cases hk : 0 ≤ k ∧ k < (n : Int)
  rotate_left
  · have hB : tkB f n k = false := by
      unfold tkB
      by_cases g0 : 0 ≤ k
      · rw [decide_eq_false (show ¬ k < (n : Int) by omega)]; simp
      · rw [decide_eq_false g0]; simp
    rw [tk_f hB, hB]
    have e : (decide (0 ≤ k) && decide (k ≤ (n : Int) - 1)) = false := by
      by_cases g0 : 0 ≤ k
      · rw [decide_eq_false (show ¬ k ≤ (n : Int) - 1 by omega)]; simp
      · rw [decide_eq_false g0]; simp
    rw [e] at KI
    clear hb hR h6 hB e hk
    go_enter Try.func39, Try.ntmps39
    go_wp2_with fail
    refine K.out.mono ?_; rintro e w1 ⟨rfl, hb1⟩
    have B2 := Lib.hid hb1
    clear hb1
    go_wp2_with fail
    refine (KI.out _).mono ?_; rintro e _ ⟨rfl, rfl⟩
    go_wp2_with fail
    go_ret2
    exact retNI_nil B2.out
  obtain ⟨kn, rfl⟩ : ∃ kn : Nat, k = (kn : Int) := ⟨k.toNat, by omega⟩
  rw [show (decide (0 ≤ (kn : Int)) && decide ((kn : Int) ≤ (n : Int) - 1)) = true by simp; omega] at KI
  rw [Int.toNat_natCast]
  have hkn : kn < n := by omega
  have hk2 : (kn : Int) < (n : Int) := by omega
  have KO := Lib.hid (fun W (hW : Below w.heap.size w W) => l1Own_any A c n f W (by omega) hn (rdi_below hR hW (Nat.le_refl _)))
  obtain ⟨b, off, rfl, hbz, hcell⟩ := hR (by omega)
  have HC := Lib.hid (fun W (hW : Below w.heap.size w W) => And.intro (Nat.lt_of_lt_of_le hbz hW.size) (((bcell hW).1 _ _ hbz).trans (hcell kn hkn)))
  by_cases h1 : f kn = 1
  rotate_left
  · have hB : tkB f n (kn : Int) = false := by
      unfold tkB
      rw [Int.toNat_natCast, decide_eq_false h1]
      simp
    rw [tk_f hB, hB]
    generalize f kn = fk at *
    have hq : (fk != 1) = true := by simpa using h1
    clear hcell h6 hb hB KO hk
    go_enter Try.func39, Try.ntmps39
    go_wp2_with fail
    refine K.out.mono ?_; rintro e w1 ⟨rfl, hb1⟩
    have B2 := Lib.hid hb1
    obtain ⟨x0, x1⟩ := HC.out _ hb1
    clear hb1
    go_wp2_with fail
    refine (KI.out _).mono ?_; rintro e _ ⟨rfl, rfl⟩
    go_wp2_with fail
    go_ret2
    exact retNI_nil B2.out
  have hB : tkB f n (kn : Int) = numB (tkF f n kn) (n - 1) := by
    unfold tkB
    rw [hb, decide_eq_true hk.1, decide_eq_true hk.2, Int.toNat_natCast, decide_eq_true h1]
    rfl
  have HC1 := Lib.hid (fun W hW => by have := HC.out W hW; rw [h1] at this; exact this)
  -- the two numbers beside
  obtain ⟨p, hp⟩ : ∃ p, p = (kn + n - 1) % n := ⟨_, rfl⟩
  obtain ⟨q, hq⟩ : ∃ q, q = (kn + 1) % n := ⟨_, rfl⟩
  have hpn : p < n := by rw [hp]; exact Nat.mod_lt _ (by omega)
  have hqn : q < n := by rw [hq]; exact Nat.mod_lt _ (by omega)
  have hA : adB f n kn (-1) = upd (upd f p (f p + -1)) q (upd f p (f p + -1) q + -1) := by rw [hp, hq]; rfl
  have w1 : IntKind.i64.wrap ((kn : Int) + (n : Int)) = (kn : Int) + (n : Int) := IntWalk.i64_in _ (by omega)
  have w2 : IntKind.i64.wrap ((kn : Int) + (n : Int) - 1) = (kn : Int) + (n : Int) - 1 := IntWalk.i64_in _ (by omega)
  have e1 : ((kn : Int) + (n : Int) - 1).tmod (n : Int) = (p : Int) := by
    rw [show (kn : Int) + (n : Int) - 1 = ((kn + n - 1 : Nat) : Int) by omega, tmodN _ _ (by omega), hp]
  have w3 : IntKind.i64.wrap ((p : Int)) = (p : Int) := IntWalk.i64_in _ (by omega)
  have w4 : IntKind.i64.wrap ((kn : Int) + 1) = (kn : Int) + 1 := IntWalk.i64_in _ (by omega)
  have e2 : ((kn : Int) + 1).tmod (n : Int) = (q : Int) := by
    rw [show (kn : Int) + 1 = ((kn + 1 : Nat) : Int) by omega, tmodN _ _ (by omega), hq]
  have w5 : IntKind.i64.wrap ((q : Int)) = (q : Int) := IntWalk.i64_in _ (by omega)
  have hn0 : ¬ (n : Int) = 0 := by omega
  have p1 : (p : Int) < (n : Int) := by omega
  have q1 : (q : Int) < (n : Int) := by omega
  have b1 := h6 p hpn
  have x1 : IntKind.i64.wrap (f p - 1) = f p - 1 := IntWalk.i64_in _ (by omega)
  obtain ⟨f1, hf1⟩ : ∃ f1, f1 = upd f p (f p - 1) := ⟨_, rfl⟩
  have b2 : -200 ≤ f1 q ∧ f1 q ≤ 200 := by
    rw [hf1]; unfold upd
    have := h6 q hqn
    split <;> omega
  have x2 : IntKind.i64.wrap (f1 q - 1) = f1 q - 1 := IntWalk.i64_in _ (by omega)
  have hA2 : adB f n kn (-1) = upd f1 q (f1 q - 1) := by rw [hA, hf1, ← Int.sub_eq_add_neg, ← Int.sub_eq_add_neg]
  have hT : tkF f n kn = tkD (upd f1 q (f1 q - 1)) kn := by unfold tkF; rw [hA2]
  have HS1 : Hid (∀ W base g cap, RowI W base (.slice (some ⟨g, 0, none⟩) n cap) n f → RowI (W.setCell ⟨g, p, none⟩ (.int .i64 (f p - 1))) base (.slice (some ⟨g, 0, none⟩) n cap) n f1) := Lib.hid (fun W base g cap h => by rw [hf1]; exact rowI_set h hpn _)
  have HS2 : Hid (∀ W base g cap, RowI W base (.slice (some ⟨g, 0, none⟩) n cap) n f1 → RowI (W.setCell ⟨g, q, none⟩ (.int .i64 (f1 q - 1))) base (.slice (some ⟨g, 0, none⟩) n cap) n (upd f1 q (f1 q - 1))) := Lib.hid (fun W base g cap h => rowI_set h hqn _)
  have HT := Lib.hid hT
  have HP1 : Hid (∀ W base g cap, RowI W base (.slice (some ⟨g, 0, none⟩) n cap) n f → W.cell? ⟨g, p, none⟩ = some (.int .i64 (f p))) := Lib.hid (fun W base g cap h => (rowI_bk h).c p hpn)
  have HP2 : Hid (∀ W base g cap, RowI W base (.slice (some ⟨g, 0, none⟩) n cap) n f1 → W.cell? ⟨g, q, none⟩ = some (.int .i64 (f1 q))) := Lib.hid (fun W base g cap h => (rowI_bk h).c q hqn)
  obtain ⟨i0, hi0, hz0, hz1, hz2⟩ := info_parts int_infoD
  have HI := Lib.hid (And.intro hi0 (And.intro hz0 (And.intro hz1 hz2)))
  have HB := Lib.hid hB
  generalize tkF f n kn = T at *
  have KE := Lib.hid (fun g cap W (h : Bk W g (n - 1) T) => duNumber_any (some ⟨g, 0, none⟩) cap (n - 1) T W (by omega) (bk_rd h))
  generalize f p = fp at *
  generalize hfq : f1 q = fq at *
  clear hA hA2 hT hf1 hp hq b1 b2 hcell h6 hb hB h1 HC hi0 hz0 hz1 hz2 hfq hk
  go_enter Try.func39, Try.ntmps39
  go_wp2_with fail
  refine K.out.mono ?_; rintro e w1' ⟨rfl, hb1⟩
  obtain ⟨y0, y1⟩ := HC1.out _ hb1
  go_wp2_with fail
  refine (KI.out _).mono ?_; rintro e _ ⟨rfl, rfl⟩
  go_wp2_with fail
  refine (KO.out _ hb1).mono ?_; rintro e w2' ⟨⟨v, rfl, hrow⟩, hb2⟩
  obtain ⟨g, cap, rfl, hnc, hcm, hgb, hgz⟩ := rowI_val hrow (by omega)
  have B2 := hb1.trans (hb2.mono hb1.size)
  have hwg : w.heap.size ≤ g := Nat.le_trans hb1.size hgb
  have c0 := HP1.out _ _ _ _ hrow
  have f0 := (rowI_bk hrow).fz p
  have R2 := Lib.hid hrow
  clear hrow hb1 hb2 y0 y1
  go_upto_region 6 with fail
  obtain ⟨W3, hW3⟩ : ∃ W3, W3 = w2'.setCell ⟨g, p, none⟩ (.int .i64 (fp - 1)) := ⟨_, rfl⟩
  rw [← hW3]
  have R3 : Hid (RowI W3 w1'.heap.size (.slice (some ⟨g, 0, none⟩) n cap) n f1) := Lib.hid (by rw [hW3]; exact HS1.out _ _ _ _ R2.out)
  have B3 : Hid (Below w.heap.size w W3) := Lib.hid (by rw [hW3]; exact B2.setCell (p := ⟨g, p, none⟩) hwg _)
  clear hW3 c0 f0 R2 B2 hgz
  have c0 := HP2.out _ _ _ _ R3.out
  have f0 := (rowI_bk R3.out).fz q
  have hgz := (rowI_bk R3.out).z
  go_upto_region 7 with fail
  obtain ⟨W4, hW4⟩ : ∃ W4, W4 = W3.setCell ⟨g, q, none⟩ (.int .i64 (fq - 1)) := ⟨_, rfl⟩
  rw [← hW4]
  have R4 : Hid (RowI W4 w1'.heap.size (.slice (some ⟨g, 0, none⟩) n cap) n (upd f1 q (fq - 1))) := Lib.hid (by rw [hW4]; exact HS2.out _ _ _ _ R3.out)
  have B4 : Hid (Below w.heap.size w W4) := Lib.hid (by rw [hW4]; exact B3.out.setCell (p := ⟨g, q, none⟩) hwg _)
  clear hW4 c0 f0 R3 B3 hgz HS1 HS2 HP1 HP2 KO K KI HC1
  have u1 : (kn : Int) ≤ (cap : Int) := by omega
  have u2 : (kn : Int) + 1 ≤ (n : Int) := by omega
  have u3 : 0 ≤ (kn : Int) + 1 := by omega
  have u4 : kn ≤ cap := by omega
  have u5 : kn + 1 ≤ n := by omega
  have u6 : (n : Int) ≤ (cap : Int) := by omega
  have u7 : ((kn : Int) + 1).toNat = kn + 1 := by omega
  by_cases hcap : cap = kn + 1
  · obtain rfl : n = kn + 1 := by omega
    subst hcap
    have hkk1 : kn + 1 - (kn + 1) = 0 := by omega
    refine wp_region_any (by kernel_rfl) ?_
    change wpAny _ _ _ _ _ _ _ (World.drew _)
    have BB := Lib.hid B4.out.drew
    have RB : Hid (RowI W4.drew w1'.heap.size (.slice (some ⟨g, 0, none⟩) (kn + 1) (kn + 1)) (kn + 1) (upd f1 q (fq - 1))) := Lib.hid R4.out
    generalize W4.drew = W5 at BB RB ⊢
    refine wpAny_take (i := 0) (v := .slice (some ⟨g, 0, none⟩) (kn + 1) (kn + 1)) rfl (by kernel_rfl) (by kernel_rfl) (by kernel_rfl) (fun _ _ _ h => h) (Or.inl ⟨by rfl, fun W => by first | rfl | (go_simp; try (intro h; omega))⟩) ?_
    (try simp only [List.getElem_toArray, List.getElem_cons_zero, List.getElem_cons_succ, Act.put, List.setIfInBounds_toArray, List.set_cons_zero, List.set_cons_succ])
    refine wpAny_take (i := 1) (v := .int .i64 (kn : Int)) rfl (by kernel_rfl) (by kernel_rfl) (by kernel_rfl) (fun _ _ _ h => h) (Or.inl ⟨by rfl, fun W => by first | rfl | (go_simp; try (intro h; omega))⟩) ?_
    (try simp only [List.getElem_toArray, List.getElem_cons_zero, List.getElem_cons_succ, Act.put, List.setIfInBounds_toArray, List.set_cons_zero, List.set_cons_succ])
    refine wpAny_take (i := 2) (v := .slice (some ⟨g, 0, none⟩) kn (kn + 1)) rfl (by kernel_rfl) (by kernel_rfl) (by kernel_rfl) (fun _ _ _ h => h) (Or.inl ⟨by rfl, fun W => by first | rfl | (go_simp; try (intro h; omega))⟩) ?_
    (try simp only [List.getElem_toArray, List.getElem_cons_zero, List.getElem_cons_succ, Act.put, List.setIfInBounds_toArray, List.set_cons_zero, List.set_cons_succ])
    refine wpAny_take (i := 3) (v := .slice (some ⟨g, 0, none⟩) (kn + 1) (kn + 1)) rfl (by kernel_rfl) (by kernel_rfl) (by kernel_rfl) (fun _ _ _ h => h) (Or.inl ⟨by rfl, fun W => by first | rfl | (go_simp; try (intro h; omega))⟩) ?_
    (try simp only [List.getElem_toArray, List.getElem_cons_zero, List.getElem_cons_succ, Act.put, List.setIfInBounds_toArray, List.set_cons_zero, List.set_cons_succ])
    refine wpAny_take (i := 4) (v := .int .i64 (kn : Int)) rfl (by kernel_rfl) (by kernel_rfl) (by kernel_rfl) (fun _ _ _ h => h) (Or.inl ⟨by rfl, fun W => by first | rfl | (go_simp; try (intro h; omega))⟩) ?_
    (try simp only [List.getElem_toArray, List.getElem_cons_zero, List.getElem_cons_succ, Act.put, List.setIfInBounds_toArray, List.set_cons_zero, List.set_cons_succ])
    refine wpAny_take (i := 5) (v := .int .i64 ((kn : Int) + 1)) rfl (by kernel_rfl) (by kernel_rfl) (by kernel_rfl) (fun _ _ _ h => h) (Or.inl ⟨by rfl, fun W => by first | rfl | (go_simp; try (intro h; omega))⟩) ?_
    (try simp only [List.getElem_toArray, List.getElem_cons_zero, List.getElem_cons_succ, Act.put, List.setIfInBounds_toArray, List.set_cons_zero, List.set_cons_succ])
    refine wpAny_take (i := 6) (v := .slice (some ⟨g, 0, none⟩) 0 0) rfl (by kernel_rfl) (by kernel_rfl) (by kernel_rfl) (fun _ _ _ h => h) (Or.inl ⟨by rfl, fun W => by first | rfl | (go_simp; try (intro h; omega))⟩) ?_
    (try simp only [List.getElem_toArray, List.getElem_cons_zero, List.getElem_cons_succ, Act.put, List.setIfInBounds_toArray, List.set_cons_zero, List.set_cons_succ])
    obtain ⟨W6, hr, hrow6, hgr⟩ := rowI_del (P := Try.prog) 41 41 Try.underlying41 HI.out.1 HI.out.2.2.1 RB.out hkn ⟨g, 0, none⟩ (Or.inl rfl)
    rw [show kn + 1 - (kn + 1) = 0 by omega] at hr
    refine wpAny_all (rs := [7]) (by kernel_rfl) (by simp) (fun i hi => ?_)
    obtain rfl : i = 7 := by simpa using hi
    refine wpOp_val (v := .slice (some ⟨g, 0, none⟩) (kn + 1 - 1) (kn + 1)) (w' := W6) rfl (by rfl) (by simp [execOp, resolve, invoke, builtin, hr, Result.andThen, Act.eval]) ?_
    (try simp only [List.getElem_toArray, List.getElem_cons_zero, List.getElem_cons_succ, Act.put, List.setIfInBounds_toArray, List.set_cons_zero, List.set_cons_succ])
    have H6 := Lib.hid hrow6
    have B6 := Lib.hid (BB.out.grown hgr BB.out.size (fun g' hg' => by injection hg' with hg'; omega))
    clear hr hrow6 hgr RB BB
    refine wpAny_all (rs := [8]) (by kernel_rfl) (by simp) (fun i hi => ?_)
    obtain rfl : i = 8 := by simpa using hi
    refine wpOp_val (v := .slice (some ⟨g, 0, none⟩) (kn + 1 - 1) (kn + 1)) (w' := W6) rfl (by rfl) (by first | rfl | go_simp) ?_
    (try simp only [List.getElem_toArray, List.getElem_cons_zero, List.getElem_cons_succ, Act.put, List.setIfInBounds_toArray, List.set_cons_zero, List.set_cons_succ])
    refine wpAny_done (by kernel_rfl) ?_ _
    rw [← HT.out] at H6
    have H7 := Lib.hid (rowI_bk H6.out)
    have hnI : ((kn + 1 - 1 : Nat) : Int) = ((kn + 1 : Nat) : Int) - 1 := by omega
    have HNI := Lib.hid hnI
    clear hnI
    go_wp2_with fail
    refine (KE.out _ _ _ H7.out).mono ?_; rintro e w8 ⟨rfl, hb8⟩
    have B8 := Lib.hid (B6.out.trans (hb8.mono B6.out.size))
    have H8 := Lib.hid (bk_rw (bk_below H7.out hb8) hwg)
    clear hb8 B6 H6 H7
    cases hb : numB T (kn + 1 - 1)
    · rw [hb] at HB
      clear hb
      go_wp2_with fail
      go_ret2
      rw [tk_f HB.out, HB.out]
      exact retNI_nil B8.out
    · rw [hb] at HB
      clear hb
      go_wp2_with fail
      go_ret2
      rw [tk_t HB.out, HB.out]
      exact ⟨_, _, rfl, B8.out, H8.out⟩
  · have u8 : kn + 1 ≤ cap := by omega
    refine wp_region_any (by kernel_rfl) ?_
    change wpAny _ _ _ _ _ _ _ (World.drew _)
    have BB := Lib.hid B4.out.drew
    have RB : Hid (RowI W4.drew w1'.heap.size (.slice (some ⟨g, 0, none⟩) n cap) n (upd f1 q (fq - 1))) := Lib.hid R4.out
    generalize W4.drew = W5 at BB RB ⊢
    refine wpAny_take (i := 0) (v := .slice (some ⟨g, 0, none⟩) n cap) rfl (by kernel_rfl) (by kernel_rfl) (by kernel_rfl) (fun _ _ _ h => h) (Or.inl ⟨by rfl, fun W => by first | rfl | (go_simp; try (intro h; omega))⟩) ?_
    (try simp only [List.getElem_toArray, List.getElem_cons_zero, List.getElem_cons_succ, Act.put, List.setIfInBounds_toArray, List.set_cons_zero, List.set_cons_succ])
    refine wpAny_take (i := 1) (v := .int .i64 (kn : Int)) rfl (by kernel_rfl) (by kernel_rfl) (by kernel_rfl) (fun _ _ _ h => h) (Or.inl ⟨by rfl, fun W => by first | rfl | (go_simp; try (intro h; omega))⟩) ?_
    (try simp only [List.getElem_toArray, List.getElem_cons_zero, List.getElem_cons_succ, Act.put, List.setIfInBounds_toArray, List.set_cons_zero, List.set_cons_succ])
    refine wpAny_take (i := 2) (v := .slice (some ⟨g, 0, none⟩) kn cap) rfl (by kernel_rfl) (by kernel_rfl) (by kernel_rfl) (fun _ _ _ h => h) (Or.inl ⟨by rfl, fun W => by first | rfl | (go_simp; try (intro h; omega))⟩) ?_
    (try simp only [List.getElem_toArray, List.getElem_cons_zero, List.getElem_cons_succ, Act.put, List.setIfInBounds_toArray, List.set_cons_zero, List.set_cons_succ])
    refine wpAny_take (i := 3) (v := .slice (some ⟨g, 0, none⟩) n cap) rfl (by kernel_rfl) (by kernel_rfl) (by kernel_rfl) (fun _ _ _ h => h) (Or.inl ⟨by rfl, fun W => by first | rfl | (go_simp; try (intro h; omega))⟩) ?_
    (try simp only [List.getElem_toArray, List.getElem_cons_zero, List.getElem_cons_succ, Act.put, List.setIfInBounds_toArray, List.set_cons_zero, List.set_cons_succ])
    refine wpAny_take (i := 4) (v := .int .i64 (kn : Int)) rfl (by kernel_rfl) (by kernel_rfl) (by kernel_rfl) (fun _ _ _ h => h) (Or.inl ⟨by rfl, fun W => by first | rfl | (go_simp; try (intro h; omega))⟩) ?_
    (try simp only [List.getElem_toArray, List.getElem_cons_zero, List.getElem_cons_succ, Act.put, List.setIfInBounds_toArray, List.set_cons_zero, List.set_cons_succ])
    refine wpAny_take (i := 5) (v := .int .i64 ((kn : Int) + 1)) rfl (by kernel_rfl) (by kernel_rfl) (by kernel_rfl) (fun _ _ _ h => h) (Or.inl ⟨by rfl, fun W => by first | rfl | (go_simp; try (intro h; omega))⟩) ?_
    (try simp only [List.getElem_toArray, List.getElem_cons_zero, List.getElem_cons_succ, Act.put, List.setIfInBounds_toArray, List.set_cons_zero, List.set_cons_succ])
    refine wpAny_take (i := 6) (v := .slice (some ⟨g, kn + 1, none⟩) (n - (kn + 1)) (cap - (kn + 1))) rfl (by kernel_rfl) (by kernel_rfl) (by kernel_rfl) (fun _ _ _ h => h) (Or.inl ⟨by rfl, fun W => by first | rfl | (go_simp; try (intro h; omega))⟩) ?_
    (try simp only [List.getElem_toArray, List.getElem_cons_zero, List.getElem_cons_succ, Act.put, List.setIfInBounds_toArray, List.set_cons_zero, List.set_cons_succ])
    obtain ⟨W6, hr, hrow6, hgr⟩ := rowI_del (P := Try.prog) 41 41 Try.underlying41 HI.out.1 HI.out.2.2.1 RB.out hkn ⟨g, kn + 1, none⟩ (Or.inr rfl)
    refine wpAny_all (rs := [7]) (by kernel_rfl) (by simp) (fun i hi => ?_)
    obtain rfl : i = 7 := by simpa using hi
    refine wpOp_val (v := .slice (some ⟨g, 0, none⟩) (n - 1) cap) (w' := W6) rfl (by rfl) (by simp [execOp, resolve, invoke, builtin, hr, Result.andThen, Act.eval]) ?_
    (try simp only [List.getElem_toArray, List.getElem_cons_zero, List.getElem_cons_succ, Act.put, List.setIfInBounds_toArray, List.set_cons_zero, List.set_cons_succ])
    have H6 := Lib.hid hrow6
    have B6 := Lib.hid (BB.out.grown hgr BB.out.size (fun g' hg' => by injection hg' with hg'; omega))
    clear hr hrow6 hgr RB BB
    refine wpAny_all (rs := [8]) (by kernel_rfl) (by simp) (fun i hi => ?_)
    obtain rfl : i = 8 := by simpa using hi
    refine wpOp_val (v := .slice (some ⟨g, 0, none⟩) (n - 1) cap) (w' := W6) rfl (by rfl) (by first | rfl | go_simp) ?_
    (try simp only [List.getElem_toArray, List.getElem_cons_zero, List.getElem_cons_succ, Act.put, List.setIfInBounds_toArray, List.set_cons_zero, List.set_cons_succ])
    refine wpAny_done (by kernel_rfl) ?_ _
    rw [← HT.out] at H6
    have H7 := Lib.hid (rowI_bk H6.out)
    have hnI : ((n - 1 : Nat) : Int) = (n : Int) - 1 := by omega
    have HNI := Lib.hid hnI
    clear hnI
    go_wp2_with fail
    refine (KE.out _ _ _ H7.out).mono ?_; rintro e w8 ⟨rfl, hb8⟩
    have B8 := Lib.hid (B6.out.trans (hb8.mono B6.out.size))
    have H8 := Lib.hid (bk_rw (bk_below H7.out hb8) hwg)
    clear hb8 B6 H6 H7
    cases hb : numB T (n - 1)
    · rw [hb] at HB
      clear hb
      go_wp2_with fail
      go_ret2
      rw [tk_f HB.out, HB.out]
      exact retNI_nil B8.out
    · rw [hb] at HB
      clear hb
      go_wp2_with fail
      go_ret2
      rw [tk_t HB.out, HB.out]
      exact ⟨_, _, rfl, B8.out, H8.out⟩
end Go.Proofs.Ytacabmbajadbgaa
