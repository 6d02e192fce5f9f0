/- contract: TakePeg, the program -/
import Derived.Test.YtacabmbajadbgaaTk1
import Derived.Test.YtacabmbajadbgaaRi4
namespace Go.Proofs.Ytacabmbajadbgaa
open Go.ChangeShapes Go.WideShapes Go.ChangeAt Go.RowKit Go.Joins
set_option linter.unusedVariables false
set_option linter.unusedSimpArgs false
set_option maxRecDepth 4000
def tkF (f : Nat → Int) (n k : Nat) : Nat → Int := tkD (adB f n k (-1)) k
def tkB (f : Nat → Int) (n : Nat) (k : Int) : Bool := numB f n && (decide (0 ≤ k) && (decide (k < (n : Int)) && (decide (f k.toNat = 1) && numB (tkF f n k.toNat) (n - 1))))
def tkN (f : Nat → Int) (n : Nat) (k : Int) : Nat := if tkB f n k = true then n - 1 else 0
theorem tk_f {f : Nat → Int} {n : Nat} {k : Int} (h : tkB f n k = false) : tkN f n k = 0 := by unfold tkN; rw [h]; rfl
theorem tk_t {f : Nat → Int} {n : Nat} {k : Int} (h : tkB f n k = true) : tkN f n k = n - 1 := by unfold tkN; rw [h]; rfl
theorem bk_same {w : World} {g n : Nat} {f F : Nat → Int} (h : Bk w g n f) (he : ∀ i, i < n → f i = F i) : Bk w g n F := ⟨h.z, fun i hi => by rw [← he i hi]; exact h.c i hi, h.fz⟩
theorem retNI_zero {w w' : World} {A : Option Addr} {c : Nat} {F : Nat → Int} {b : Bool} (hb : Below w.heap.size w w') : RetNI w 0 F b (.returned (.tuple #[.slice A 0 c, .bool b])) w' :=
  ⟨A, c, rfl, hb, fun h => absurd h (by omega)⟩
set_option maxHeartbeats 4000000 in
theorem implTakePeg_any (A : Option Addr) (c n : Nat) (f : Nat → Int) (k : Int) (w : World) (hn : n ≤ 1048576) (hR : RdI w w.heap.size A n f) :
    Calls Try.prog 41 #[.slice A n c, .int .i64 k] w (RetNI w (tkN f n k) (tkF f n k.toNat) (tkB f n k)) := by
  have K := Lib.hid (ringOf_any A c n f w hn hR)
  cases hb : numB f n
  · have hB : tkB f n k = false := by unfold tkB; rw [hb]; rfl
    rw [tk_f hB, hB]
    rw [hb] at K
    have K' : Hid (Calls Try.prog 85 #[.slice A n c] w fun e w' => e = .returned (.tuple #[.agg #[.int .i64 0, .int .i64 0, .int .i64 0, .int .i64 0, .int .i64 0, .int .i64 0, .int .i64 0, .int .i64 0, .int .i64 0, .int .i64 0], .bool false]) ∧ Below w.heap.size w w') := Lib.hid K.out
    clear K hb hR hB
    go_enter Try.func41, Try.ntmps41
    go_wp2_with fail
    refine K'.out.mono ?_; rintro e w1 ⟨rfl, hb1⟩
    have B2 := Lib.hid (Below.alloc hb1 hb1.size (.cells #[.int .i64 0, .int .i64 0, .int .i64 0, .int .i64 0, .int .i64 0, .int .i64 0, .int .i64 0, .int .i64 0, .int .i64 0, .int .i64 0] 97))
    clear hb1
    go_wp2_with fail
    go_ret2
    exact retNI_nil B2.out
  · rw [hb] at K
    obtain ⟨h3, h9, h6⟩ := numB_T hb
    have K' : Hid (Calls Try.prog 85 #[.slice A n c] w fun e w' => e = .returned (.tuple #[rv (cF f n) n, .bool true]) ∧ Below w.heap.size w w') := Lib.hid K.out
    clear K
    obtain ⟨b, off, rfl, hbz, hcell⟩ := hR (by omega)
    by_cases hk : 0 ≤ k ∧ k < (n : Int)
    · obtain ⟨kn, rfl⟩ : ∃ kn : Nat, k = (kn : Int) := ⟨k.toNat, by omega⟩
      rw [Int.toNat_natCast] at *
      have hkn : kn < n := by omega
      have HC := Lib.hid (fun W (hW : Below w.heap.size w W) => And.intro (Nat.lt_of_lt_of_le hbz hW.size) (((bcell hW).1 _ _ hbz).trans (hcell kn hkn)))
      have hk0 : ¬ (kn : Int) < 0 := by omega
      have hk1 : ¬ (n : Int) ≤ (kn : Int) := by omega
      have hk2 : (kn : Int) < (n : Int) := by omega
      by_cases h1 : f kn = 1
      · have hB : tkB f n (kn : Int) = numB (tkF f n kn) (n - 1) := by
          unfold tkB
          rw [hb, decide_eq_true hk.1, decide_eq_true hk.2, Int.toNat_natCast, decide_eq_true h1]
          rfl
        have KL := Lib.hid (fun W => list_any (cF f n) n W h9)
        have KA := Lib.hid (fun g W h => addBeside_any g n 9 kn (-1) f W (by omega) hkn (by omega) (fun i hi => by have := h6 i hi; omega) h)
        have KD := Lib.hid (fun g W h => deleteI_any g n 9 kn (adB f n kn (-1)) W hkn h9 (by omega) h)
        rw [show ((kn + 1 : Nat) : Int) = (kn : Int) + 1 by omega] at KD
        have KR := Lib.hid (fun g W (h : Bk W g (n - 1) (tkF f n kn)) => ringOf_any (some ⟨g, 0, none⟩) 9 (n - 1) (tkF f n kn) W (by omega) (bk_rd h))
        change Hid (∀ g W, Bk W g n (adB f n kn (-1)) → Calls Try.prog 88 #[.slice (some ⟨g, 0, none⟩) n 9, .int .i64 (kn : Int), .int .i64 ((kn : Int) + 1)] W fun e w' => e = .returned (.slice (some ⟨g, 0, none⟩) (n - 1) 9) ∧ Bk w' g (n - 1) (tkF f n kn) ∧ Below g W w') at KD
        have KZ := Lib.hid (fun W => list_any (fun _ => 0) 0 W (by omega))
        have KF := Lib.hid (fun W => list_any (cF (tkF f n kn) (n - 1)) (n - 1) W (by omega))
        have HE : Hid (∀ i, i < n → cF f n i = f i) := Lib.hid (fun i hi => cF_eq f n i hi)
        have HE2 : Hid (∀ i, i < n - 1 → cF (tkF f n kn) (n - 1) i = tkF f n kn i) := Lib.hid (fun i hi => cF_eq (tkF f n kn) (n - 1) i hi)
        have HC1 := Lib.hid (fun W hW => by have := HC.out W hW; rw [h1] at this; exact this)
        have wk : IntKind.i64.wrap ((kn : Int) + 1) = (kn : Int) + 1 := IntWalk.i64_in _ (by omega)
        unfold rv at K' KL
        clear HC hcell h6 hR
        cases hb2 : numB (tkF f n kn) (n - 1)
        · rw [hb2] at hB KR
          rw [tk_f hB, hB]
          have KR' : Hid (∀ g W, Bk W g (n - 1) (tkF f n kn) → Calls Try.prog 85 #[.slice (some ⟨g, 0, none⟩) (n - 1) 9] W fun e w' => e = .returned (.tuple #[.agg #[.int .i64 0, .int .i64 0, .int .i64 0, .int .i64 0, .int .i64 0, .int .i64 0, .int .i64 0, .int .i64 0, .int .i64 0, .int .i64 0], .bool false]) ∧ Below W.heap.size W w') := Lib.hid KR.out
          unfold rv at KZ
          clear KR KF HE2 hb2 hb hB h1
          go_enter Try.func41, Try.ntmps41
          go_wp2_with fail
          refine K'.out.mono ?_; rintro e w1 ⟨rfl, hb1⟩
          have B2 := Below.alloc hb1 hb1.size (.cells #[.int .i64 (cF f n 0), .int .i64 (cF f n 1), .int .i64 (cF f n 2), .int .i64 (cF f n 3), .int .i64 (cF f n 4), .int .i64 (cF f n 5), .int .i64 (cF f n 6), .int .i64 (cF f n 7), .int .i64 (cF f n 8), .int .i64 n] 97)
          obtain ⟨x0, x1⟩ := HC1.out _ B2
          go_wp2_with fail
          have HB2 := Lib.hid B2
          obtain ⟨W2, hW2⟩ : ∃ W2, W2 = (w1.alloc (.cells #[.int .i64 (cF f n 0), .int .i64 (cF f n 1), .int .i64 (cF f n 2), .int .i64 (cF f n 3), .int .i64 (cF f n 4), .int .i64 (cF f n 5), .int .i64 (cF f n 6), .int .i64 (cF f n 7), .int .i64 (cF f n 8), .int .i64 n] 97)) := ⟨_, rfl⟩
          rw [← hW2] at HB2 ⊢
          clear hW2 B2 x0 x1
          refine (KL.out _).mono ?_; rintro e w3 ⟨rfl, hb3, hr3⟩
          have H3 := Lib.hid (bk_same (bk_of_rg hr3 h9) HE.out)
          have B3 := Lib.hid (HB2.out.trans (hb3.mono HB2.out.size))
          have hg := HB2.out.size
          obtain ⟨g, hgg⟩ : ∃ g, g = W2.heap.size := ⟨_, rfl⟩
          rw [← hgg] at H3 hg ⊢
          clear hb3 hr3 hgg
          go_wp2_with fail
          refine (KA.out _ _ H3.out).mono ?_; rintro e w4 ⟨rfl, h4, hb4⟩
          have H4 := Lib.hid h4
          have B4 := Lib.hid (B3.out.trans (hb4.mono hg))
          clear h4 hb4 H3 B3
          go_wp2_with fail
          refine (KD.out _ _ H4.out).mono ?_; rintro e w5 ⟨rfl, h5, hb5⟩
          have H5 := Lib.hid h5
          have B5 := Lib.hid (B4.out.trans (hb5.mono hg))
          clear h5 hb5 H4 B4
          go_wp2_with fail
          refine (KR'.out _ _ H5.out).mono ?_; rintro e w6 ⟨rfl, hb6⟩
          have B6 := Lib.hid (B5.out.trans (hb6.mono B5.out.size))
          clear hb6 H5 B5
          go_wp2_with fail
          have B7 := Lib.hid (Below.alloc B6.out B6.out.size (.cells #[.int .i64 0, .int .i64 0, .int .i64 0, .int .i64 0, .int .i64 0, .int .i64 0, .int .i64 0, .int .i64 0, .int .i64 0, .int .i64 0] 97))
          refine (KZ.out _).mono ?_; rintro e w7 ⟨rfl, hb7, _⟩
          have B8 := Lib.hid (B7.out.trans (hb7.mono B7.out.size))
          clear hb7 B7
          go_wp2_with fail
          go_ret2
          exact retNI_zero B8.out
        · rw [hb2] at hB KR
          rw [tk_t hB, hB]
          have KR' : Hid (∀ g W, Bk W g (n - 1) (tkF f n kn) → Calls Try.prog 85 #[.slice (some ⟨g, 0, none⟩) (n - 1) 9] W fun e w' => e = .returned (.tuple #[rv (cF (tkF f n kn) (n - 1)) ((n - 1 : Nat) : Int), .bool true]) ∧ Below W.heap.size W w') := Lib.hid KR.out
          unfold rv at KF KR'
          obtain ⟨nm, hnm⟩ : ∃ nm, nm = n - 1 := ⟨_, rfl⟩
          have HNM := Lib.hid hnm
          rw [← hnm] at KF KR' HE2 ⊢
          rw [← hnm] at KD
          clear KR KZ hb2 hb hB h1 hnm
          generalize tkF f n kn = T at *
          have hnm9 : nm ≤ 9 := by have := HNM.out; omega
          go_enter Try.func41, Try.ntmps41
          go_wp2_with fail
          refine K'.out.mono ?_; rintro e w1 ⟨rfl, hb1⟩
          have B2 := Below.alloc hb1 hb1.size (.cells #[.int .i64 (cF f n 0), .int .i64 (cF f n 1), .int .i64 (cF f n 2), .int .i64 (cF f n 3), .int .i64 (cF f n 4), .int .i64 (cF f n 5), .int .i64 (cF f n 6), .int .i64 (cF f n 7), .int .i64 (cF f n 8), .int .i64 n] 97)
          obtain ⟨x0, x1⟩ := HC1.out _ B2
          go_wp2_with fail
          have HB2 := Lib.hid B2
          obtain ⟨W2, hW2⟩ : ∃ W2, W2 = (w1.alloc (.cells #[.int .i64 (cF f n 0), .int .i64 (cF f n 1), .int .i64 (cF f n 2), .int .i64 (cF f n 3), .int .i64 (cF f n 4), .int .i64 (cF f n 5), .int .i64 (cF f n 6), .int .i64 (cF f n 7), .int .i64 (cF f n 8), .int .i64 n] 97)) := ⟨_, rfl⟩
          rw [← hW2] at HB2 ⊢
          clear hW2 B2 x0 x1
          refine (KL.out _).mono ?_; rintro e w3 ⟨rfl, hb3, hr3⟩
          have H3 := Lib.hid (bk_same (bk_of_rg hr3 h9) HE.out)
          have B3 := Lib.hid (HB2.out.trans (hb3.mono HB2.out.size))
          have hg := HB2.out.size
          obtain ⟨g, hgg⟩ : ∃ g, g = W2.heap.size := ⟨_, rfl⟩
          rw [← hgg] at H3 hg ⊢
          clear hb3 hr3 hgg
          go_wp2_with fail
          refine (KA.out _ _ H3.out).mono ?_; rintro e w4 ⟨rfl, h4, hb4⟩
          have H4 := Lib.hid h4
          have B4 := Lib.hid (B3.out.trans (hb4.mono hg))
          clear h4 hb4 H3 B3
          go_wp2_with fail
          refine (KD.out _ _ H4.out).mono ?_; rintro e w5 ⟨rfl, h5, hb5⟩
          have H5 := Lib.hid h5
          have B5 := Lib.hid (B4.out.trans (hb5.mono hg))
          clear h5 hb5 H4 B4
          go_wp2_with fail
          refine (KR'.out _ _ H5.out).mono ?_; rintro e w6 ⟨rfl, hb6⟩
          have B6 := Lib.hid (B5.out.trans (hb6.mono B5.out.size))
          clear hb6 H5 B5
          go_wp2_with fail
          have B7 := Lib.hid (Below.alloc B6.out B6.out.size (.cells #[.int .i64 (cF T nm 0), .int .i64 (cF T nm 1), .int .i64 (cF T nm 2), .int .i64 (cF T nm 3), .int .i64 (cF T nm 4), .int .i64 (cF T nm 5), .int .i64 (cF T nm 6), .int .i64 (cF T nm 7), .int .i64 (cF T nm 8), .int .i64 nm] 97))
          obtain ⟨W7, hW7⟩ : ∃ W7, W7 = (w6.alloc (.cells #[.int .i64 (cF T nm 0), .int .i64 (cF T nm 1), .int .i64 (cF T nm 2), .int .i64 (cF T nm 3), .int .i64 (cF T nm 4), .int .i64 (cF T nm 5), .int .i64 (cF T nm 6), .int .i64 (cF T nm 7), .int .i64 (cF T nm 8), .int .i64 nm] 97)) := ⟨_, rfl⟩
          rw [← hW7] at B7 ⊢
          clear hW7
          refine (KF.out _).mono ?_; rintro e w7 ⟨rfl, hb7, hr7⟩
          have B8 := Lib.hid (B7.out.trans (hb7.mono B7.out.size))
          have H8 := Lib.hid (bk_rw (bk_same (bk_of_rg hr7 hnm9) HE2.out) B7.out.size)
          clear hb7 B7 hr7
          go_wp2_with fail
          go_ret2
          exact ⟨_, _, rfl, B8.out, H8.out⟩
      · have hB : tkB f n (kn : Int) = false := by
          unfold tkB
          rw [Int.toNat_natCast, decide_eq_false h1]
          simp
        rw [tk_f hB, hB]
        unfold rv at K'
        generalize f kn = fk at *
        have hq : (fk != 1) = true := by simpa using h1
        clear hcell h6 hb hB
        go_enter Try.func41, Try.ntmps41
        go_wp2_with fail
        refine K'.out.mono ?_; rintro e w1 ⟨rfl, hb1⟩
        have B2 := Below.alloc hb1 hb1.size (.cells #[.int .i64 (cF f n 0), .int .i64 (cF f n 1), .int .i64 (cF f n 2), .int .i64 (cF f n 3), .int .i64 (cF f n 4), .int .i64 (cF f n 5), .int .i64 (cF f n 6), .int .i64 (cF f n 7), .int .i64 (cF f n 8), .int .i64 n] 97)
        obtain ⟨x0, x1⟩ := HC.out _ B2
        have HB2 := Lib.hid B2
        clear B2 hb1
        go_wp2_with fail
        go_ret2
        exact retNI_nil HB2.out
    · have hB : tkB f n k = false := by
        unfold tkB
        by_cases g0 : 0 ≤ k
        · rw [decide_eq_false (show ¬ k < (n : Int) by omega)]; simp
        · rw [decide_eq_false g0]; simp
      rw [tk_f hB, hB]
      unfold rv at K'
      clear hcell h6 hb hB
      by_cases g0 : k < 0
      · go_enter Try.func41, Try.ntmps41
        go_wp2_with fail
        refine K'.out.mono ?_; rintro e w1 ⟨rfl, hb1⟩
        have HB2 := Lib.hid (Below.alloc hb1 hb1.size (.cells #[.int .i64 (cF f n 0), .int .i64 (cF f n 1), .int .i64 (cF f n 2), .int .i64 (cF f n 3), .int .i64 (cF f n 4), .int .i64 (cF f n 5), .int .i64 (cF f n 6), .int .i64 (cF f n 7), .int .i64 (cF f n 8), .int .i64 n] 97))
        clear hb1
        go_wp2_with fail
        go_ret2
        exact retNI_nil HB2.out
      · have g1 : (n : Int) ≤ k := by omega
        go_enter Try.func41, Try.ntmps41
        go_wp2_with fail
        refine K'.out.mono ?_; rintro e w1 ⟨rfl, hb1⟩
        have HB2 := Lib.hid (Below.alloc hb1 hb1.size (.cells #[.int .i64 (cF f n 0), .int .i64 (cF f n 1), .int .i64 (cF f n 2), .int .i64 (cF f n 3), .int .i64 (cF f n 4), .int .i64 (cF f n 5), .int .i64 (cF f n 6), .int .i64 (cF f n 7), .int .i64 (cF f n 8), .int .i64 n] 97))
        clear hb1
        go_wp2_with fail
        go_ret2
        exact retNI_nil HB2.out
end Go.Proofs.Ytacabmbajadbgaa
