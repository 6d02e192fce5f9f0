/- contract: PutPeg, the program -/
import Derived.Test.YtacabmbajadbgaaPu4
namespace Go.Proofs.Ytacabmbajadbgaa
open Go.ChangeShapes Go.WideShapes Go.ChangeAt Go.RowKit Go.Joins
set_option linter.unusedVariables false
set_option linter.unusedSimpArgs false
set_option maxRecDepth 4000
set_option maxHeartbeats 4000000 in
theorem implPutPeg_any (A : Option Addr) (c n : Nat) (f : Nat → Int) (k : Int) (w : World) (hn : n ≤ 1048576) (hR : RdI w w.heap.size A n f) :
    Calls Try.prog 43 #[.slice A n c, .int .i64 k] w (RetNI w (puN f n k) (puF f n k.toNat) (puB f n k)) := by
  have K := Lib.hid (ringOf_any A c n f w hn hR)
  cases hb : numB f n
  · have hB : puB f n k = false := by unfold puB; rw [hb]; rfl
    rw [pu_f hB, hB]
    rw [hb] at K
    have K' : Hid (Calls Try.prog 85 #[.slice A n c] w fun e w' => e = .returned (.tuple #[.agg #[.int .i64 0, .int .i64 0, .int .i64 0, .int .i64 0, .int .i64 0, .int .i64 0, .int .i64 0, .int .i64 0, .int .i64 0, .int .i64 0], .bool false]) ∧ Below w.heap.size w w') := Lib.hid K.out
    clear K hb hR hB
    go_enter Try.func43, Try.ntmps43
    go_wp2_with fail
    refine K'.out.mono ?_; rintro e w1 ⟨rfl, hb1⟩
    have B2 := Lib.hid (Below.alloc hb1 hb1.size (.cells #[.int .i64 0, .int .i64 0, .int .i64 0, .int .i64 0, .int .i64 0, .int .i64 0, .int .i64 0, .int .i64 0, .int .i64 0, .int .i64 0] 97))
    clear hb1
    go_wp2_with fail
    go_ret2
    exact retNI_nil B2.out
  · rw [hb] at K
    obtain ⟨h3, h9, h6⟩ := numB_T hb
    have K' : Hid (Calls Try.prog 85 #[.slice A n c] w fun e w' => e = .returned (.tuple #[rv (cF f n) n, .bool true]) ∧ Below w.heap.size w w') := Lib.hid K.out
    clear K
    obtain ⟨b, off, rfl, hbz, hcell⟩ := hR (by omega)
    by_cases hk : 0 ≤ k ∧ k ≤ (n : Int)
    · obtain ⟨kn, rfl⟩ : ∃ kn : Nat, k = (kn : Int) := ⟨k.toNat, by omega⟩
      rw [Int.toNat_natCast] at *
      have hkn : kn ≤ n := by omega
      have hk0 : ¬ (kn : Int) < 0 := by omega
      have hk1 : ¬ (n : Int) < (kn : Int) := by omega
      have hB : puB f n (kn : Int) = numB (puF f n kn) (n + 1) := by
        unfold puB
        rw [hb, decide_eq_true hk.1, decide_eq_true hk.2, Int.toNat_natCast]
        rfl
      have hin : ∀ i, i < n + 1 → inF (cF f n) kn i = inF f kn i := fun i hi => by
        unfold inF
        split
        · exact cF_eq f n i (by omega)
        · split
          · rfl
          · exact cF_eq f n (i - 1) (by omega)
      have hb6 : ∀ i, i < n + 1 → -100 ≤ inF f kn i ∧ inF f kn i ≤ 100 := fun i hi => by
        unfold inF
        split
        · have := h6 i (by omega); omega
        · split
          · omega
          · have := h6 (i - 1) (by omega); omega
      have HIN := Lib.hid hin
      have KL := Lib.hid (fun W => list_any (cF f n) n W h9)
      have KA := Lib.hid (fun g c W h => addBeside_any g (n + 1) c kn 1 (inF f kn) W (by omega) (by omega) (by omega) hb6 h)
      change Hid (∀ g c W, Bk W g (n + 1) (inF f kn) → Calls Try.prog 87 #[.slice (some ⟨g, 0, none⟩) (n + 1) c, .int .i64 (kn : Int), .int .i64 1] W fun e w' => e = .returned (.tuple #[]) ∧ Bk w' g (n + 1) (puF f n kn) ∧ Below g W w') at KA
      have KD := Lib.hid (fun g vb W h hv hvg => insertI_any g n kn vb (cF f n) n W (by omega) h9 hkn h hv hvg)
      have KR := Lib.hid (fun g c W (h : Bk W g (n + 1) (puF f n kn)) => ringOf_any (some ⟨g, 0, none⟩) c (n + 1) (puF f n kn) W (by omega) (bk_rd h))
      have KZ := Lib.hid (fun W => list_any (fun _ => 0) 0 W (by omega))
      unfold rv at K' KL
      clear hcell h6 hb hk hin hb6
      cases hb2 : numB (puF f n kn) (n + 1)
      · rw [hb2] at hB KR
        rw [pu_f hB, hB]
        have KR' : Hid (∀ g c W, Bk W g (n + 1) (puF f n kn) → Calls Try.prog 85 #[.slice (some ⟨g, 0, none⟩) (n + 1) c] W fun e w' => e = .returned (.tuple #[.agg #[.int .i64 0, .int .i64 0, .int .i64 0, .int .i64 0, .int .i64 0, .int .i64 0, .int .i64 0, .int .i64 0, .int .i64 0, .int .i64 0], .bool false]) ∧ Below W.heap.size W w') := Lib.hid KR.out
        unfold rv at KZ
        clear KR hb2 hB
        go_enter Try.func43, Try.ntmps43
        go_wp2_with fail
        refine K'.out.mono ?_; rintro e w1 ⟨rfl, hb1⟩
        have B2 := Below.alloc hb1 hb1.size (.cells #[.int .i64 (cF f n 0), .int .i64 (cF f n 1), .int .i64 (cF f n 2), .int .i64 (cF f n 3), .int .i64 (cF f n 4), .int .i64 (cF f n 5), .int .i64 (cF f n 6), .int .i64 (cF f n 7), .int .i64 (cF f n 8), .int .i64 n] 97)
        go_wp2_with fail
        have HB2 := Lib.hid B2
        obtain ⟨W2, hW2⟩ : ∃ W2, W2 = (w1.alloc (.cells #[.int .i64 (cF f n 0), .int .i64 (cF f n 1), .int .i64 (cF f n 2), .int .i64 (cF f n 3), .int .i64 (cF f n 4), .int .i64 (cF f n 5), .int .i64 (cF f n 6), .int .i64 (cF f n 7), .int .i64 (cF f n 8), .int .i64 n] 97)) := ⟨_, rfl⟩
        rw [← hW2] at HB2 ⊢
        clear hW2 B2
        refine (KL.out _).mono ?_; rintro e w3 ⟨rfl, hb3, hr3⟩
        have H3 := Lib.hid hr3
        have B3 := Lib.hid (HB2.out.trans (hb3.mono HB2.out.size))
        have hg := HB2.out.size
        obtain ⟨g, hgg⟩ : ∃ g, g = W2.heap.size := ⟨_, rfl⟩
        rw [← hgg] at H3 hg ⊢
        clear hb3 hr3 hgg
        have hgz := rg_z H3.out
        go_wp2_with fail
        have hba : Below w3.heap.size w3 (w3.alloc (.cells #[.int .i64 1] 3)) := Below.alloc (Below.refl _ _) (Nat.le_refl _) _
        refine (KD.out g w3.heap.size _ (rg_below H3.out hba) (heap_alloc_new w3 _) (by omega)).mono ?_; rintro e w4 ⟨g2, c2, rfl, hg2, h4, hb4⟩
        have H4 := Lib.hid (bk_same h4 HIN.out)
        have B4 := Lib.hid (Below.trans (Below.alloc B3.out B3.out.size (.cells #[.int .i64 1] 3)) (hb4.mono hg))
        have hg2' := Nat.le_trans hg hg2
        clear h4 hb4 H3 B3 hba
        go_wp2_with fail
        refine (KA.out _ _ _ H4.out).mono ?_; rintro e w5 ⟨rfl, h5, hb5⟩
        have H5 := Lib.hid h5
        have B5 := Lib.hid (B4.out.trans (hb5.mono hg2'))
        clear h5 hb5 H4 B4
        go_wp2_with fail
        refine (KR'.out _ _ _ H5.out).mono ?_; rintro e w6 ⟨rfl, hb6⟩
        have B6 := Lib.hid (B5.out.trans (hb6.mono B5.out.size))
        clear hb6 H5 B5
        go_wp2_with fail
        have B7 := Lib.hid (Below.alloc B6.out B6.out.size (.cells #[.int .i64 0, .int .i64 0, .int .i64 0, .int .i64 0, .int .i64 0, .int .i64 0, .int .i64 0, .int .i64 0, .int .i64 0, .int .i64 0] 97))
        refine (KZ.out _).mono ?_; rintro e w7 ⟨rfl, hb7, _⟩
        have B8 := Lib.hid (B7.out.trans (hb7.mono B7.out.size))
        clear hb7 B7
        go_wp2_with fail
        go_ret2
        exact retNI_zero B8.out
      · rw [hb2] at hB KR
        rw [pu_t hB, hB]
        have hn9 : n + 1 ≤ 9 := (numB_T hb2).2.1
        have KF := Lib.hid (fun W => list_any (cF (puF f n kn) (n + 1)) (n + 1) W hn9)
        have HE2 : Hid (∀ i, i < n + 1 → cF (puF f n kn) (n + 1) i = puF f n kn i) := Lib.hid (fun i hi => cF_eq (puF f n kn) (n + 1) i hi)
        have KR' : Hid (∀ g c W, Bk W g (n + 1) (puF f n kn) → Calls Try.prog 85 #[.slice (some ⟨g, 0, none⟩) (n + 1) c] W fun e w' => e = .returned (.tuple #[rv (cF (puF f n kn) (n + 1)) ((n + 1 : Nat) : Int), .bool true]) ∧ Below W.heap.size W w') := Lib.hid KR.out
        unfold rv at KF KR'
        clear KR KZ hb2 hB
        generalize puF f n kn = T at *
        generalize hNN : ((n + 1 : Nat) : Int) = NN at *
        have HNN := Lib.hid hNN
        clear hNN
        go_enter Try.func43, Try.ntmps43
        go_wp2_with fail
        refine K'.out.mono ?_; rintro e w1 ⟨rfl, hb1⟩
        have B2 := Below.alloc hb1 hb1.size (.cells #[.int .i64 (cF f n 0), .int .i64 (cF f n 1), .int .i64 (cF f n 2), .int .i64 (cF f n 3), .int .i64 (cF f n 4), .int .i64 (cF f n 5), .int .i64 (cF f n 6), .int .i64 (cF f n 7), .int .i64 (cF f n 8), .int .i64 n] 97)
        go_wp2_with fail
        have HB2 := Lib.hid B2
        obtain ⟨W2, hW2⟩ : ∃ W2, W2 = (w1.alloc (.cells #[.int .i64 (cF f n 0), .int .i64 (cF f n 1), .int .i64 (cF f n 2), .int .i64 (cF f n 3), .int .i64 (cF f n 4), .int .i64 (cF f n 5), .int .i64 (cF f n 6), .int .i64 (cF f n 7), .int .i64 (cF f n 8), .int .i64 n] 97)) := ⟨_, rfl⟩
        rw [← hW2] at HB2 ⊢
        clear hW2 B2
        refine (KL.out _).mono ?_; rintro e w3 ⟨rfl, hb3, hr3⟩
        have H3 := Lib.hid hr3
        have B3 := Lib.hid (HB2.out.trans (hb3.mono HB2.out.size))
        have hg := HB2.out.size
        obtain ⟨g, hgg⟩ : ∃ g, g = W2.heap.size := ⟨_, rfl⟩
        rw [← hgg] at H3 hg ⊢
        clear hb3 hr3 hgg
        have hgz := rg_z H3.out
        go_wp2_with fail
        have hba : Below w3.heap.size w3 (w3.alloc (.cells #[.int .i64 1] 3)) := Below.alloc (Below.refl _ _) (Nat.le_refl _) _
        refine (KD.out g w3.heap.size _ (rg_below H3.out hba) (heap_alloc_new w3 _) (by omega)).mono ?_; rintro e w4 ⟨g2, c2, rfl, hg2, h4, hb4⟩
        have H4 := Lib.hid (bk_same h4 HIN.out)
        have B4 := Lib.hid (Below.trans (Below.alloc B3.out B3.out.size (.cells #[.int .i64 1] 3)) (hb4.mono hg))
        have hg2' := Nat.le_trans hg hg2
        clear h4 hb4 H3 B3 hba
        go_wp2_with fail
        refine (KA.out _ _ _ H4.out).mono ?_; rintro e w5 ⟨rfl, h5, hb5⟩
        have H5 := Lib.hid h5
        have B5 := Lib.hid (B4.out.trans (hb5.mono hg2'))
        clear h5 hb5 H4 B4
        go_wp2_with fail
        refine (KR'.out _ _ _ H5.out).mono ?_; rintro e w6 ⟨rfl, hb6⟩
        have B6 := Lib.hid (B5.out.trans (hb6.mono B5.out.size))
        clear hb6 H5 B5
        go_wp2_with fail
        have B7 := Below.alloc B6.out B6.out.size (.cells #[.int .i64 (cF T (n + 1) 0), .int .i64 (cF T (n + 1) 1), .int .i64 (cF T (n + 1) 2), .int .i64 (cF T (n + 1) 3), .int .i64 (cF T (n + 1) 4), .int .i64 (cF T (n + 1) 5), .int .i64 (cF T (n + 1) 6), .int .i64 (cF T (n + 1) 7), .int .i64 (cF T (n + 1) 8), .int .i64 NN] 97)
        obtain ⟨W7, hW7⟩ : ∃ W7, W7 = (w6.alloc (.cells #[.int .i64 (cF T (n + 1) 0), .int .i64 (cF T (n + 1) 1), .int .i64 (cF T (n + 1) 2), .int .i64 (cF T (n + 1) 3), .int .i64 (cF T (n + 1) 4), .int .i64 (cF T (n + 1) 5), .int .i64 (cF T (n + 1) 6), .int .i64 (cF T (n + 1) 7), .int .i64 (cF T (n + 1) 8), .int .i64 NN] 97)) := ⟨_, rfl⟩
        rw [← hW7] at B7 ⊢
        clear hW7
        refine (KF.out _).mono ?_; rintro e w7 ⟨rfl, hb7, hr7⟩
        have B8 := Lib.hid (B7.trans (hb7.mono B7.size))
        have H8 := Lib.hid (bk_rw (bk_same (bk_of_rg hr7 hn9) HE2.out) B7.size)
        clear hb7 B7 hr7
        go_wp2_with fail
        go_ret2
        exact ⟨_, _, rfl, B8.out, H8.out⟩
    · have hB : puB f n k = false := by
        unfold puB
        by_cases g0 : 0 ≤ k
        · rw [decide_eq_false (show ¬ k ≤ (n : Int) by omega)]; simp
        · rw [decide_eq_false g0]; simp
      rw [pu_f hB, hB]
      unfold rv at K'
      clear hcell h6 hb hB
      by_cases g0 : k < 0
      · go_enter Try.func43, Try.ntmps43
        go_wp2_with fail
        refine K'.out.mono ?_; rintro e w1 ⟨rfl, hb1⟩
        have HB2 := Lib.hid (Below.alloc hb1 hb1.size (.cells #[.int .i64 (cF f n 0), .int .i64 (cF f n 1), .int .i64 (cF f n 2), .int .i64 (cF f n 3), .int .i64 (cF f n 4), .int .i64 (cF f n 5), .int .i64 (cF f n 6), .int .i64 (cF f n 7), .int .i64 (cF f n 8), .int .i64 n] 97))
        clear hb1
        go_wp2_with fail
        go_ret2
        exact retNI_nil HB2.out
      · have g1 : (n : Int) < k := by omega
        go_enter Try.func43, Try.ntmps43
        go_wp2_with fail
        refine K'.out.mono ?_; rintro e w1 ⟨rfl, hb1⟩
        have HB2 := Lib.hid (Below.alloc hb1 hb1.size (.cells #[.int .i64 (cF f n 0), .int .i64 (cF f n 1), .int .i64 (cF f n 2), .int .i64 (cF f n 3), .int .i64 (cF f n 4), .int .i64 (cF f n 5), .int .i64 (cF f n 6), .int .i64 (cF f n 7), .int .i64 (cF f n 8), .int .i64 n] 97))
        clear hb1
        go_wp2_with fail
        go_ret2
        exact retNI_nil HB2.out
end Go.Proofs.Ytacabmbajadbgaa
