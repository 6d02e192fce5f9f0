/- contracts: the points of a band and its layers -/
import Derived.Test.YthpbnfmfedggjaaMC
import Derived.Test.YthpbnfmfedggjaaMB
import Derived.Test.YthpbnfmfedggjaaMS
namespace Go.Proofs.Ythpbnfmfedggjaa
open Go.ChangeShapes Go.WideShapes Go.ChangeAt Go.RowKit Go.Joins
set_option linter.unusedVariables false
set_option linter.unusedSimpArgs false
set_option maxRecDepth 4000
theorem onL_len {l : List (Int × Int)} : (onL l).length ≤ l.length := by
  unfold onL
  have := List.length_filter_le (onF (band l)) (srt l)
  rw [srt_len] at this
  exact this
theorem onL_le (l : List (Int × Int)) : (sel (difB l) (onL l)).length ≤ 1048576 := by
  unfold sel
  split
  · rename_i h
    have := (dif_of h).few
    have := onL_len (l := l)
    omega
  · simp
theorem specPegsOfBand_any (A : Option Addr) (c : Nat) (l : List (Int × Int)) (w : World) (hn : l.length ≤ 1048576) (hcap : l.length ≤ c) (hc2 : c ≤ 9223372036854775807) (hR : Rd w w.heap.size A l) :
    Calls Try.prog 33 #[.slice A l.length c] w (RetL w (sel (difB l) (onL l)) (difB l)) := by
  have K := Lib.hid (bdGood_any A c l w hn hcap hc2 hR)
  by_cases hg : Dif l
  · have hgt := difB_true hg
    rw [hgt] at K ⊢
    have K2 := Lib.hid (fun W (hb : Below w.heap.size w W) => bdOuter_any A c l.length l W rfl hg (rd_more (rd_below hR hb (Nat.le_refl _)) hb.size))
    clear hgt hg hR
    show Calls _ _ _ _ (RetL w (onL l) true)
    generalize onL l = m at *
    generalize offL l = m2 at *
    go_enter Try.func33, Try.ntmps33
    go_wp2_with fail
    refine K.out.mono ?_; rintro e w1 ⟨rfl, hb1⟩
    go_wp2_with fail
    refine (K2.out w1 hb1).mono ?_; rintro e w2 ⟨⟨v, v2, rfl, ho, _⟩, hb2⟩
    have HO := Lib.hid ho
    clear ho
    go_wp2_with fail
    go_ret2
    exact retL_up hb1 (retL_own HO.out hb2)
  · have hgf := difB_false hg
    rw [hgf] at K ⊢
    clear hgf hg hR
    go_enter Try.func33, Try.ntmps33
    go_wp2_with fail
    refine K.out.mono ?_; rintro e w1 ⟨rfl, hb1⟩
    go_wp2_with fail
    go_ret2
    exact retL_nil hb1
theorem implPegsOfBand_any (A : Option Addr) (c : Nat) (l : List (Int × Int)) (w : World) (hn : l.length ≤ 1048576) (hcap : l.length ≤ c) (hc2 : c ≤ 9223372036854775807) (hR : Rd w w.heap.size A l) :
    Calls Try.prog 34 #[.slice A l.length c] w (RetL w (sel (difB l) (onL l)) (difB l)) := by
  have K := Lib.hid (implBandOf_any A c l w hn hcap hc2 hR)
  by_cases hg : Dif l
  · have hgt := difB_true hg
    rw [hgt] at K ⊢
    have K1 : Hid (Calls Try.prog 21 #[.slice A l.length c] w (RetL w (band l) true)) := Lib.hid K.out
    have hn30 := hg.few
    have hpos := band_pos hg
    have K2 := Lib.hid (fun W (hb : Below w.heap.size w W) => inOrder_any A c l.length l W rfl (by omega) (by omega) (dif_nodup hg) (rd_more (rd_below hR hb (Nat.le_refl _)) hb.size))
    have K3 := Lib.hid (fun g cap X cX W (h : Rd W W.heap.size (some ⟨g, 0, none⟩) (srt l)) (h' : Rd W W.heap.size X (band l)) => (pegsAt_any (some ⟨g, 0, none⟩) cap l.length (srt l) X cX (band l).length (band l) 0 W (srt_len l) (by omega) (fun x hx => dif_pegs hg x (srt_mem.1 hx)) h rfl hpos (band_few hg) (band_pegs hg) h').mono fun e w' hh => (show (∃ v, e = .returned v ∧ w'.ownsRow W.heap.size 38 2 v (onL l).length (flat (onL l))) ∧ Below W.heap.size W w' from by rw [filter_at_zero] at hh; exact hh))
    have hsl := srt_len l
    clear hgt hg hR K
    show Calls _ _ _ _ (RetL w (onL l) true)
    generalize onL l = res at *
    generalize band l = m at *
    generalize srt l = s at *
    go_enter Try.func34, Try.ntmps34
    go_wp2_with fail
    refine K1.out.mono ?_; rintro e w1 ⟨X, cX, rfl, q1, q2, hb1, q3⟩
    have HRH := Lib.hid (rd_more (rw_rd q3) (Nat.le_refl _))
    clear q3
    go_wp2_with fail
    refine (K2.out w1 hb1).mono ?_; rintro e w2 ⟨⟨g, cap, rfl, ho⟩, hb2⟩
    rw [← hsl] at ho
    obtain ⟨g2, cap2, hv, _, _, hRs⟩ := rd_own ho (by omega)
    injection hv with hv1 hv2 hv3
    subst hv3
    injection hv1 with hv1
    injection hv1 with hv1
    subst hv1
    have HRS := Lib.hid hRs
    have HRH2 := Lib.hid (rd_more (rd_below HRH.out hb2 (Nat.le_refl _)) hb2.size)
    have B2 := hb1.trans (hb2.mono hb1.size)
    clear ho hRs HRH hb2
    go_wp2_with fail
    refine (K3.out g cap X cX w2 HRS.out HRH2.out).mono ?_; rintro e w3 ⟨⟨v, rfl, ho⟩, hb3⟩
    have HO := Lib.hid ho
    clear ho
    go_wp2_with fail
    go_ret2
    exact retL_up B2 (retL_own HO.out hb3)
  · have hgf := difB_false hg
    rw [hgf] at K ⊢
    have K1 : Hid (Calls Try.prog 21 #[.slice A l.length c] w (RetL w [] false)) := Lib.hid K.out
    clear hgf hg hR K
    show Calls _ _ _ _ (RetL w [] false)
    go_enter Try.func34, Try.ntmps34
    go_wp2_with fail
    refine K1.out.mono ?_; rintro e w1 ⟨X, cX, rfl, q1, q2, hb1, q3⟩
    clear q3
    go_wp2_with fail
    go_ret2
    exact retL_nil hb1
theorem layersOf_true (A : Option Addr) (c : Nat) (l : List (Int × Int)) (w : World) (hn : l.length ≤ 1048576) (hcap : l.length ≤ c) (hc2 : c ≤ 9223372036854775807) (hd : Dif l) (hR : Rd w w.heap.size A l) :
    Calls Try.prog 40 #[.slice A l.length c] w (RetLL w (layers l) true) :=
  layersOf_yes A c l w hn hcap hc2 hd hR (fun W hb => inOrder_any A c l.length l W rfl hd.few.1 (by have := hd.few; omega) (dif_nodup hd) (rd_more (rd_below hR hb (Nat.le_refl _)) hb.size))
theorem layersOf_false (A : Option Addr) (c : Nat) (l : List (Int × Int)) (w : World) (hn : l.length ≤ 1048576) (hcap : l.length ≤ c) (hc2 : c ≤ 9223372036854775807) (hd : ¬ Dif l) (hR : Rd w w.heap.size A l) :
    Calls Try.prog 40 #[.slice A l.length c] w fun e w' => e = .returned (.tuple #[.slice none 0 0, .bool false]) ∧ Below w.heap.size w w' := by
  have K := Lib.hid (implAreDifferent_any A c l w hn hcap hc2 hR)
  rw [difB_false hd] at K
  clear hR hd
  go_enter Try.func40, Try.ntmps40
  go_wp2_with fail
  refine K.out.mono ?_; rintro e w1 ⟨rfl, hb1⟩
  go_wp2_with fail
  go_ret2
  exact ⟨rfl, hb1⟩
theorem implLayerOfPeg_any (A : Option Addr) (c : Nat) (l : List (Int × Int)) (p1 p2 : Int) (w : World) (hn : l.length ≤ 1048576) (hcap : l.length ≤ c) (hc2 : c ≤ 9223372036854775807) (hR : Rd w w.heap.size A l) :
    Calls Try.prog 45 #[.slice A l.length c, .agg #[.int .i64 p1, .int .i64 p2]] w fun e w' => e = .returned (.tuple #[.int .i64 (lvI l p1 p2), .bool (lvB l p1 p2)]) ∧ Below w.heap.size w w' := by
  by_cases hd : Dif l
  · exact implLayerOfPeg_yes A c l p1 p2 w hd (fun W hb => layersOf_true A c l W hn hcap hc2 hd (rd_more (rd_below hR hb (Nat.le_refl _)) hb.size))
  · exact implLayerOfPeg_no A c l p1 p2 w hd (fun W hb => layersOf_false A c l W hn hcap hc2 hd (rd_more (rd_below hR hb (Nat.le_refl _)) hb.size))
end Go.Proofs.Ythpbnfmfedggjaa
