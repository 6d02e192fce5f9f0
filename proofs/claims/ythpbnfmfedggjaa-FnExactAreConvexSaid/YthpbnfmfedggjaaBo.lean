/- contracts: AreConvex on both sides -/
import Derived.Test.YthpbnfmfedggjaaBn
namespace Go.Proofs.Ythpbnfmfedggjaa
open Go.ChangeShapes Go.WideShapes Go.ChangeAt Go.RowKit Go.Joins
set_option linter.unusedVariables false
set_option linter.unusedSimpArgs false
set_option maxRecDepth 4000
theorem specAreConvex_any (A : Option Addr) (c : Nat) (l : List (Int × Int)) (w : World) (hn : l.length ≤ 1048576) (hcap : l.length ≤ c) (hc2 : c ≤ 9223372036854775807) (hR : Rd w w.heap.size A l) :
    Calls Try.prog 37 #[.slice A l.length c] w fun e w' => e = .returned (.tuple #[.bool (difB l && decide ((band l).length = l.length)), .bool (difB l)]) ∧ Below w.heap.size w w' := by
  have K := Lib.hid (bdGood_any A c l w hn hcap hc2 hR)
  by_cases hg : Dif l
  · have hgt := difB_true hg
    rw [hgt] at K ⊢
    have K2 := Lib.hid (fun W (hb : Below w.heap.size w W) => bandS_any A c l.length l W rfl hg (rd_more (rd_below hR hb (Nat.le_refl _)) hb.size))
    have h60 := band_few hg
    have h30 := hg.few.2
    clear hgt hg hR
    generalize band l = m at *
    go_enter Try.func37, Try.ntmps37
    go_wp2_with fail
    refine K.out.mono ?_; rintro e w1 ⟨rfl, hb1⟩
    go_wp2_with fail
    refine (K2.out w1 hb1).mono ?_; rintro e w2 ⟨⟨v, rfl, ho⟩, hb2⟩
    obtain ⟨X, cx, hv, hx1, hx2⟩ := own_sl ho
    subst hv
    clear ho
    by_cases he : m.length = l.length
    · have e1 : (m.length : Int) = (l.length : Int) := by omega
      go_wp2_with fail
      go_ret2
      exact ⟨by simp [he], hb1.trans (hb2.mono hb1.size)⟩
    · have e1 : ((m.length : Int) == (l.length : Int)) = false := by simp; omega
      have e2 : ¬ (m.length : Int) = (l.length : Int) := by omega
      go_wp2_with fail
      go_ret2
      exact ⟨by simp [he], hb1.trans (hb2.mono hb1.size)⟩
  · have hgf := difB_false hg
    rw [hgf] at K ⊢
    clear hgf hg hR
    go_enter Try.func37, Try.ntmps37
    go_wp2_with fail
    refine K.out.mono ?_; rintro e w1 ⟨rfl, hb1⟩
    go_wp2_with fail
    go_ret2
    exact ⟨rfl, hb1⟩
theorem implAreConvex_any (A : Option Addr) (c : Nat) (l : List (Int × Int)) (w : World) (hn : l.length ≤ 1048576) (hcap : l.length ≤ c) (hc2 : c ≤ 9223372036854775807) (hR : Rd w w.heap.size A l) :
    Calls Try.prog 38 #[.slice A l.length c] w fun e w' => e = .returned (.tuple #[.bool (difB l && decide ((band l).length = l.length)), .bool (difB l)]) ∧ Below w.heap.size w w' := by
  have K := Lib.hid (implBandOf_any A c l w hn hcap hc2 hR)
  by_cases hg : Dif l
  · have hgt := difB_true hg
    rw [hgt] at K ⊢
    have h60 := band_few hg
    have h30 := hg.few.2
    have K1 : Hid (Calls Try.prog 21 #[.slice A l.length c] w (RetL w (band l) true)) := Lib.hid K.out
    clear hgt hg hR K
    generalize band l = m at *
    go_enter Try.func38, Try.ntmps38
    go_wp2_with fail
    refine K1.out.mono ?_; rintro e w1 ⟨A2, c2, rfl, q1, q2, hb1, q3⟩
    clear q3
    by_cases he : m.length = l.length
    · have e1 : (m.length : Int) = (l.length : Int) := by omega
      go_wp2_with fail
      go_ret2
      exact ⟨by simp [he], hb1⟩
    · have e1 : ((m.length : Int) == (l.length : Int)) = false := by simp; omega
      have e2 : ¬ (m.length : Int) = (l.length : Int) := by omega
      go_wp2_with fail
      go_ret2
      exact ⟨by simp [he], hb1⟩
  · have hgf := difB_false hg
    rw [hgf] at K ⊢
    have K1 : Hid (Calls Try.prog 21 #[.slice A l.length c] w (RetL w [] false)) := Lib.hid K.out
    clear hgf hg hR K
    go_enter Try.func38, Try.ntmps38
    go_wp2_with fail
    refine K1.out.mono ?_; rintro e w1 ⟨A2, c2, rfl, q1, q2, hb1, q3⟩
    clear q3
    go_wp2_with fail
    go_ret2
    exact ⟨rfl, hb1⟩
end Go.Proofs.Ythpbnfmfedggjaa
