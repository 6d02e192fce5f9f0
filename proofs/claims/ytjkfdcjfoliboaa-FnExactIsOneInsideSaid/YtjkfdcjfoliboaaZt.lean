/- contracts: IsOneInside, on both sides -/
import Derived.Test.YtjkfdcjfoliboaaZk
import Derived.Test.YtjkfdcjfoliboaaZm
import Derived.Test.YtjkfdcjfoliboaaZn
import Derived.Test.YtjkfdcjfoliboaaSg
import Derived.Test.YtjkfdcjfoliboaaSi
namespace Go.Proofs.Ytjkfdcjfoliboaa
open Go.ChangeShapes Go.WideShapes Go.ChangeAt Go.RowKit Go.Joins
set_option linter.unusedVariables false
set_option linter.unusedSimpArgs false
set_option maxRecDepth 4000
/-- one inside: convex, one point inside, and that is 0, 0 -/
noncomputable def oneB (l : List (Int × Int)) : Bool := convB l && decide (insN l = 1) && decide (whN l (0, 0) = 1)
theorem wh3 (l : List (Int × Int)) (p : Int × Int) : whN l p = 0 ∨ whN l p = 1 ∨ whN l p = -1 := by
  by_cases h : MJ.Bd (vx l) p
  · exact .inl (whN_on h)
  · rw [whN_off h]; split <;> simp
theorem one_F1 {l : List (Int × Int)} (h : convB l = false) : oneB l = false := by unfold oneB; rw [h]; rfl
theorem one_F2 {l : List (Int × Int)} (h : ¬ insN l = 1) : oneB l = false := by unfold oneB; simp [h]
theorem one_F3 {l : List (Int × Int)} (h : ¬ whN l (0, 0) = 1) : oneB l = false := by unfold oneB; simp [h]
theorem one_T {l : List (Int × Int)} (h1 : convB l = true) (h2 : insN l = 1) (h3 : whN l (0, 0) = 1) : oneB l = true := by unfold oneB; simp [h1, h2, h3]
set_option maxHeartbeats 1000000
theorem duOne_any (A : Option Addr) (c : Nat) (l : List (Int × Int)) (w : World) (hn : l.length ≤ 1048576) (hcap : l.length ≤ c) (hc2 : c ≤ 9223372036854775807) (hR : Rd w w.heap.size A l) :
    Calls Try.prog 49 #[.slice A l.length c] w fun e w' => e = .returned (.bool (bsl (goodB l) (oneB l))) ∧ Below w.heap.size w w' := by
  have K := Lib.hid (pgGood_any A c l w hn hcap hc2 hR)
  by_cases hg : Good l
  · have hgt := goodB_true hg
    rw [hgt] at K ⊢
    rw [bsl_true]
    have K2 := Lib.hid (fun W (hb : Below w.heap.size w W) => pgConvex_any A c l W hg (rd_more (rd_below hR hb (Nat.le_refl _)) hb.size))
    have K3 := Lib.hid (fun W (hb : Below w.heap.size w W) => pgInside_any A c l W hg (rd_more (rd_below hR hb (Nat.le_refl _)) hb.size))
    have K4 := Lib.hid (fun W (hb : Below w.heap.size w W) => pgWhere_any A c l 0 0 W hg (by unfold Sz; omega) (rd_more (rd_below hR hb (Nat.le_refl _)) hb.size))
    have F1 := Lib.hid (fun h => one_F1 (l := l) h)
    have F2 := Lib.hid (fun h => one_F2 (l := l) h)
    have F3 := Lib.hid (fun h => one_F3 (l := l) h)
    have FT := Lib.hid (fun h1 h2 h3 => one_T (l := l) h1 h2 h3)
    have h3 := wh3 l (0, 0)
    clear hgt hg hR hcap
    generalize oneB l = ob at *
    generalize convB l = cb at *
    generalize insN l = ins at *
    generalize whN l (0, 0) = wh at *
    cases cb
    · have hf := F1.out rfl
      subst hf
      go_enter Try.func49, Try.ntmps49
      go_wp2_with fail
      refine K.out.mono ?_; rintro e w1 ⟨rfl, hb1⟩
      go_wp2_with fail
      refine (K2.out w1 hb1).mono ?_; rintro e w2 ⟨rfl, hb2⟩
      have B2 := hb1.trans (hb2.mono hb1.size)
      go_wp2_with fail
      go_ret
      exact ⟨rfl, B2⟩
    · by_cases hi : ins = 1
      · subst hi
        have hob : Hid (ob = decide (0 < wh)) := Lib.hid (by
          rcases h3 with h | h | h
          · rw [F3.out (by omega), h]; rfl
          · rw [FT.out rfl rfl h, h]; rfl
          · rw [F3.out (by omega), h]; rfl)
        clear F1 F2 F3 FT h3
        go_enter Try.func49, Try.ntmps49
        go_wp2_with fail
        refine K.out.mono ?_; rintro e w1 ⟨rfl, hb1⟩
        go_wp2_with fail
        refine (K2.out w1 hb1).mono ?_; rintro e w2 ⟨rfl, hb2⟩
        have B2 := hb1.trans (hb2.mono hb1.size)
        go_wp2_with fail
        refine (K3.out w2 B2).mono ?_; rintro e w3 ⟨rfl, hb3⟩
        have B3 := B2.trans (hb3.mono B2.size)
        go_wp2_with fail
        refine (K4.out w3 B3).mono ?_; rintro e w4 ⟨rfl, hb4⟩
        have B4 := B3.trans (hb4.mono B3.size)
        go_wp2_with fail
        go_ret
        exact ⟨ret_bool hob.out.symm, B4⟩
      · have hf := F2.out hi
        subst hf
        have hib : (ins == 1) = false := by simpa using hi
        go_enter Try.func49, Try.ntmps49
        go_wp2_with fail
        refine K.out.mono ?_; rintro e w1 ⟨rfl, hb1⟩
        go_wp2_with fail
        refine (K2.out w1 hb1).mono ?_; rintro e w2 ⟨rfl, hb2⟩
        have B2 := hb1.trans (hb2.mono hb1.size)
        go_wp2_with fail
        refine (K3.out w2 B2).mono ?_; rintro e w3 ⟨rfl, hb3⟩
        have B3 := B2.trans (hb3.mono B2.size)
        go_wp2_with fail
        go_ret
        exact ⟨rfl, B3⟩
  · have hgf := goodB_false hg
    rw [hgf] at K ⊢
    rw [bsl_false]
    clear hgf hg hR
    go_enter Try.func49, Try.ntmps49
    go_wp2_with fail
    refine K.out.mono ?_; rintro e w1 ⟨rfl, hb1⟩
    go_wp2_with fail
    go_ret
    exact ⟨rfl, hb1⟩
theorem specIsOneInside_any (A : Option Addr) (c : Nat) (l : List (Int × Int)) (w : World) (hn : l.length ≤ 1048576) (hcap : l.length ≤ c) (hc2 : c ≤ 9223372036854775807) (hR : Rd w w.heap.size A l) :
    Calls Try.prog 23 #[.slice A l.length c] w fun e w' => e = .returned (.tuple #[.bool (bsl (goodB l) (oneB l)), .bool (goodB l)]) ∧ Below w.heap.size w w' := by
  have K := Lib.hid (pgGood_any A c l w hn hcap hc2 hR)
  have K2 := Lib.hid (fun W (hb : Below w.heap.size w W) => duOne_any A c l W hn hcap hc2 (rd_more (rd_below hR hb (Nat.le_refl _)) hb.size))
  by_cases hg : Good l
  · have hgt := goodB_true hg
    rw [hgt] at K K2 ⊢
    rw [bsl_true] at K2 ⊢
    generalize oneB l = v at *
    clear hgt hg hR
    go_enter Try.func23, Try.ntmps23
    go_wp2_with fail
    refine K.out.mono ?_; rintro e w1 ⟨rfl, hb1⟩
    go_wp2_with fail
    refine (K2.out w1 hb1).mono ?_; rintro e w2 ⟨rfl, hb2⟩
    have B2 := hb1.trans (hb2.mono hb1.size)
    go_wp2_with fail
    go_ret2
    exact ⟨rfl, B2⟩
  · have hgf := goodB_false hg
    rw [hgf] at K ⊢
    rw [bsl_false]
    clear hgf hg hR K2
    go_enter Try.func23, Try.ntmps23
    go_wp2_with fail
    refine K.out.mono ?_; rintro e w1 ⟨rfl, hb1⟩
    go_wp2_with fail
    go_ret2
    exact ⟨rfl, hb1⟩
theorem implIsOneInside_any (A : Option Addr) (c : Nat) (l : List (Int × Int)) (w : World) (hn : l.length ≤ 1048576) (hR : Rd w w.heap.size A l) :
    Calls Try.prog 24 #[.slice A l.length c] w fun e w' => e = .returned (.tuple #[.bool (bsl (goodB l) (oneB l)), .bool (goodB l)]) ∧ Below w.heap.size w w' := by
  have K2 := Lib.hid (implIsConvex_any A c l w hn hR)
  have K3 := Lib.hid (fun W (hb : Below w.heap.size w W) => implPegsInside_any A c l W hn (rd_more (rd_below hR hb (Nat.le_refl _)) hb.size))
  by_cases hg : Good l
  · have hgt := goodB_true hg
    rw [hgt] at K2 K3 ⊢
    rw [bsl_true] at K2 ⊢
    rw [gi_true] at K3
    have K4 := Lib.hid (fun W (hb : Below w.heap.size w W) => placeIn_any A c l 0 0 W hg (by unfold Sz; omega) (rd_more (rd_below hR hb (Nat.le_refl _)) hb.size))
    have F1 := Lib.hid (fun h => one_F1 (l := l) h)
    have F2 := Lib.hid (fun h => one_F2 (l := l) h)
    have F3 := Lib.hid (fun h => one_F3 (l := l) h)
    have FT := Lib.hid (fun h1 h2 h3 => one_T (l := l) h1 h2 h3)
    have h3 := wh3 l (0, 0)
    clear hgt hg hR
    generalize oneB l = ob at *
    generalize convB l = cb at *
    generalize insN l = ins at *
    generalize whN l (0, 0) = wh at *
    cases cb
    · have hf := F1.out rfl
      subst hf
      go_enter Try.func24, Try.ntmps24
      go_wp2_with fail
      refine K2.out.mono ?_; rintro e w1 ⟨rfl, hb1⟩
      go_wp2_with fail
      refine (K3.out w1 hb1).mono ?_; rintro e w2 ⟨rfl, hb2⟩
      have B2 := hb1.trans (hb2.mono hb1.size)
      go_wp2_with fail
      go_ret2
      exact ⟨rfl, B2⟩
    · by_cases hi : ins = 1
      · subst hi
        have hob : Hid (ob = (wh == 1)) := Lib.hid (by
          rcases h3 with h | h | h
          · rw [F3.out (by omega), h]; rfl
          · rw [FT.out rfl rfl h, h]; rfl
          · rw [F3.out (by omega), h]; rfl)
        clear F1 F2 F3 FT h3
        go_enter Try.func24, Try.ntmps24
        go_wp2_with fail
        refine K2.out.mono ?_; rintro e w1 ⟨rfl, hb1⟩
        go_wp2_with fail
        refine (K3.out w1 hb1).mono ?_; rintro e w2 ⟨rfl, hb2⟩
        have B2 := hb1.trans (hb2.mono hb1.size)
        go_wp2_with fail
        refine (K4.out w2 B2).mono ?_; rintro e w3 ⟨rfl, hb3⟩
        have B3 := B2.trans (hb3.mono B2.size)
        go_wp2_with fail
        go_ret2
        exact ⟨ret_bb hob.out.symm rfl, B3⟩
      · have hf := F2.out hi
        subst hf
        have hib : (ins == 1) = false := by simpa using hi
        go_enter Try.func24, Try.ntmps24
        go_wp2_with fail
        refine K2.out.mono ?_; rintro e w1 ⟨rfl, hb1⟩
        go_wp2_with fail
        refine (K3.out w1 hb1).mono ?_; rintro e w2 ⟨rfl, hb2⟩
        have B2 := hb1.trans (hb2.mono hb1.size)
        go_wp2_with fail
        go_ret2
        exact ⟨rfl, B2⟩
  · have hgf := goodB_false hg
    rw [hgf] at K2 K3 ⊢
    rw [bsl_false] at K2 ⊢
    rw [gi_false] at K3
    clear hgf hg hR
    go_enter Try.func24, Try.ntmps24
    go_wp2_with fail
    refine K2.out.mono ?_; rintro e w1 ⟨rfl, hb1⟩
    go_wp2_with fail
    refine (K3.out w1 hb1).mono ?_; rintro e w2 ⟨rfl, hb2⟩
    have B2 := hb1.trans (hb2.mono hb1.size)
    go_wp2_with fail
    go_ret2
    exact ⟨rfl, B2⟩
end Go.Proofs.Ytjkfdcjfoliboaa
