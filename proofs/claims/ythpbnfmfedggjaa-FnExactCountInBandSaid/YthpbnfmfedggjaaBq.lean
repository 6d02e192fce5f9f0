/- contracts: TwiceBand and CountInBand on both sides -/
import Derived.Test.YthpbnfmfedggjaaBp
import Derived.Test.YthpbnfmfedggjaaBn
namespace Go.Proofs.Ythpbnfmfedggjaa
open Go.ChangeShapes Go.WideShapes Go.ChangeAt Go.RowKit Go.Joins
set_option linter.unusedVariables false
set_option linter.unusedSimpArgs false
set_option maxRecDepth 4000
theorem band_pegs {l : List (Int × Int)} (h : Dif l) : ∀ i, i < (band l).length → isPg (vx (band l) i) = true := by
  intro i hi
  obtain ⟨h0, ha⟩ := around_of (dif_nodup h) h.few.1 h.few.2
  have e1 := ha.same i hi
  have e2 := ha.mem i (by unfold band at hi; omega)
  have e3 : vx (band l) i = pt (MH.hull (srt l)) i := by
    have a := vx_get hi
    have b := pt_get hi
    rw [a] at b
    injection b with b
  rw [e3, ← e1]
  exact dif_pegs h _ e2
theorem band_pos {l : List (Int × Int)} (h : Dif l) : 0 < (band l).length := by
  obtain ⟨h0, ha⟩ := around_of (dif_nodup h) h.few.1 h.few.2
  exact ha.pos
theorem area_small {l : List (Int × Int)} (h : l.length = 1 ∨ l.length = 2) : areaN l = 0 := by
  unfold areaN Sh
  rcases h with h | h
  · rw [h]
    have e : vx l 1 = vx l 0 := by rw [← vx_per l 1, h]
    unfold sumTo sumTo
    simp only [Nat.zero_add]
    rw [e]
    unfold cr
    omega
  · rw [h]
    have e : vx l 2 = vx l 0 := by rw [← vx_per l 2, h]
    unfold sumTo sumTo sumTo
    simp only [Nat.zero_add, Nat.reduceAdd]
    rw [e]
    unfold cr
    rw [Int.mul_comm (vx l 1).1, Int.mul_comm (vx l 0).1 (vx l 1).2]
    omega
theorem on_one {l : List (Int × Int)} (h : l.length = 1) : onN l = 0 := by
  unfold onN Rn
  rw [h]
  have e : vx l 1 = vx l 0 := by rw [← vx_per l 1, h]
  unfold sumTo sumTo
  simp only [Nat.zero_add]
  rw [e]
  unfold stepN
  simp
theorem on_two {l : List (Int × Int)} (h : l.length = 2) : onN l = 2 * stepN (vx l 0).1 (vx l 0).2 (vx l 1).1 (vx l 1).2 := by
  unfold onN Rn
  rw [h]
  have e : vx l 2 = vx l 0 := by rw [← vx_per l 2, h]
  unfold sumTo sumTo sumTo
  simp only [Nat.zero_add, Nat.reduceAdd]
  rw [e]
  unfold stepN
  have e1 : ((vx l 1).1 - (vx l 0).1).natAbs = ((vx l 0).1 - (vx l 1).1).natAbs := by omega
  have e2 : ((vx l 1).2 - (vx l 0).2).natAbs = ((vx l 0).2 - (vx l 1).2).natAbs := by omega
  rw [e1, e2]
  omega
theorem area_bd {l : List (Int × Int)} (hp : ∀ i, i < l.length → isPg (vx l i) = true) (h0 : 0 < l.length) (hn : l.length ≤ 60) : -200000 ≤ areaN l ∧ areaN l ≤ 200000 := by
  have := sumTo_bd (f := fun i => cr (vx l i) (vx l (i + 1))) (m := 3200) l.length (fun i _ => cr_bd (vx_pg hp h0 i) (vx_pg hp h0 (i + 1)))
  unfold areaN Sh
  omega
theorem on_bd {l : List (Int × Int)} (hp : ∀ i, i < l.length → isPg (vx l i) = true) (h0 : 0 < l.length) (hn : l.length ≤ 60) : -10000 ≤ onN l ∧ onN l ≤ 10000 := by
  have := rn_bd hp h0 l.length
  unfold onN
  omega
theorem pgAreaB_any (A : Option Addr) (c : Nat) (l : List (Int × Int)) (w : World) (h0 : 0 < l.length) (hn : l.length ≤ 60) (hp : ∀ i, i < l.length → isPg (vx l i) = true) (hR : Rd w w.heap.size A l) :
    Calls Try.prog 53 #[.slice A l.length c] w fun e w' => e = .returned (.int .i64 (areaN l)) ∧ Below w.heap.size w w' := by
  by_cases h3 : 3 ≤ l.length
  · exact pgAreaW_any A c l w h3 hn hp hR
  · rw [area_small (by omega)]
    have e1 : ¬ ((2 : Int) < (l.length : Int)) := by omega
    clear hR hp
    go_enter Try.func53, Try.ntmps53
    go_wp2_with fail
    go_loopg [3, 4] 0 (fun g s i wr => g = 0 ∧ i = .int .i64 2 ∧ s = .int .i64 0 ∧ Below w.heap.size w wr)
    case atStart => exact ⟨rfl, rfl, rfl, Below.refl _ _⟩
    case round =>
      obtain ⟨hg, rfl, rfl, hB⟩ := hrel
      go_wp2_with fail
      go_ret
      exact ⟨rfl, hB⟩
theorem specTwiceBand_any (A : Option Addr) (c : Nat) (l : List (Int × Int)) (w : World) (hn : l.length ≤ 1048576) (hcap : l.length ≤ c) (hc2 : c ≤ 9223372036854775807) (hR : Rd w w.heap.size A l) :
    Calls Try.prog 24 #[.slice A l.length c] w fun e w' => e = .returned (.tuple #[.int .i64 (gi (difB l) (areaN (band l))), .bool (difB l)]) ∧ Below w.heap.size w w' := by
  have K := Lib.hid (bdGood_any A c l w hn hcap hc2 hR)
  by_cases hg : Dif l
  · have hgt := difB_true hg
    rw [hgt] at K ⊢
    have K2 := Lib.hid (fun W (hb : Below w.heap.size w W) => bandS_any A c l.length l W rfl hg (rd_more (rd_below hR hb (Nat.le_refl _)) hb.size))
    have KP := Lib.hid (fun A c W hR => pgAreaB_any A c (band l) W (band_pos hg) (band_few hg) (band_pegs hg) hR)
    rw [gi_true]
    clear hgt hg hR
    generalize areaN (band l) = a at *
    generalize band l = m at *
    go_enter Try.func24, Try.ntmps24
    go_wp2_with fail
    refine K.out.mono ?_; rintro e w1 ⟨rfl, hb1⟩
    go_wp2_with fail
    refine (K2.out w1 hb1).mono ?_; rintro e w2 ⟨⟨v, rfl, ho⟩, hb2⟩
    obtain ⟨A2, c2, rfl, q1, q2, q3⟩ := rw_of_own ho
    have hRR := rd_more (rw_rd q3) (Nat.le_refl _)
    clear ho q3
    go_wp2_with fail
    refine (KP.out A2 c2 w2 hRR).mono ?_; rintro e w3 ⟨rfl, hb3⟩
    have B2 := hb1.trans (hb2.mono hb1.size)
    have B3 := B2.trans (hb3.mono B2.size)
    go_wp2_with fail
    go_ret2
    exact ⟨rfl, B3⟩
  · have hgf := difB_false hg
    rw [hgf] at K ⊢
    rw [gi_false]
    clear hgf hg hR
    go_enter Try.func24, Try.ntmps24
    go_wp2_with fail
    refine K.out.mono ?_; rintro e w1 ⟨rfl, hb1⟩
    go_wp2_with fail
    go_ret2
    exact ⟨rfl, hb1⟩
theorem implTwiceBand_any (A : Option Addr) (c : Nat) (l : List (Int × Int)) (w : World) (hn : l.length ≤ 1048576) (hcap : l.length ≤ c) (hc2 : c ≤ 9223372036854775807) (hR : Rd w w.heap.size A l) :
    Calls Try.prog 25 #[.slice A l.length c] w fun e w' => e = .returned (.tuple #[.int .i64 (gi (difB l) (areaN (band l))), .bool (difB l)]) ∧ Below w.heap.size w w' := by
  have K := Lib.hid (implBandOf_any A c l w hn hcap hc2 hR)
  by_cases hg : Dif l
  · have hgt := difB_true hg
    rw [hgt] at K ⊢
    rw [gi_true]
    have K1 : Hid (Calls Try.prog 21 #[.slice A l.length c] w (RetL w (band l) true)) := Lib.hid K.out
    have KP := Lib.hid (fun A c W hR => areaW_any A c (band l) W (band_pos hg) (band_few hg) (band_pegs hg) hR)
    clear hgt hg hR K
    generalize areaN (band l) = a at *
    generalize band l = m at *
    go_enter Try.func25, Try.ntmps25
    go_wp2_with fail
    refine K1.out.mono ?_; rintro e w1 ⟨A2, c2, rfl, q1, q2, hb1, q3⟩
    have hRR := rd_more (rw_rd q3) (Nat.le_refl _)
    clear q3
    go_wp2_with fail
    refine (KP.out A2 c2 w1 hRR).mono ?_; rintro e w2 ⟨rfl, hb2⟩
    go_wp2_with fail
    go_ret2
    exact ⟨rfl, hb1.trans (hb2.mono hb1.size)⟩
  · have hgf := difB_false hg
    rw [hgf] at K ⊢
    rw [gi_false]
    have K1 : Hid (Calls Try.prog 21 #[.slice A l.length c] w (RetL w [] false)) := Lib.hid K.out
    have KP := Lib.hid (fun A c W => areaNone_any A c W)
    clear hgf hg hR K
    go_enter Try.func25, Try.ntmps25
    go_wp2_with fail
    refine K1.out.mono ?_; rintro e w1 ⟨A2, c2, rfl, q1, q2, hb1, q3⟩
    clear q3
    go_wp2_with fail
    refine (KP.out A2 c2 w1).mono ?_; rintro e w2 ⟨rfl, hb2⟩
    go_wp2_with fail
    go_ret2
    exact ⟨rfl, hb1.trans (hb2.mono hb1.size)⟩
end Go.Proofs.Ythpbnfmfedggjaa
