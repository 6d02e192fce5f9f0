/- contracts: PegsInAll, on both sides -/
import Derived.Test.YtieimijkkjhegaaSh
import Derived.Test.YtieimijkkjhegaaSi
import Derived.Test.YtieimijkkjhegaaSf
import Derived.Test.YtieimijkkjhegaaSp
namespace Go.Proofs.Ytieimijkkjhegaa
open Go.ChangeShapes Go.WideShapes Go.ChangeAt Go.RowKit Go.Joins
set_option linter.unusedVariables false
set_option linter.unusedSimpArgs false
set_option maxRecDepth 4000
theorem ins_bd {l : List (Int × Int)} (hg : Good l) : -40000 ≤ insN l ∧ insN l ≤ 40000 := by
  obtain ⟨a1, a2⟩ := area_bd hg
  obtain ⟨o1, o2⟩ := on_bd hg
  unfold insN
  rcases Int.lt_or_le (((areaN l).natAbs : Int) + 2 - onN l) 0 with h | h
  · have e : (((areaN l).natAbs : Int) + 2 - onN l) = -(-(((areaN l).natAbs : Int) + 2 - onN l)) := by omega
    rw [e, Int.neg_tdiv, Int.tdiv_eq_ediv_of_nonneg (by omega)]
    omega
  · rw [Int.tdiv_eq_ediv_of_nonneg h]
    omega
theorem specPegsInAll_any (A : Option Addr) (c : Nat) (l : List (Int × Int)) (w : World) (hn : l.length ≤ 1048576) (hcap : l.length ≤ c) (hc2 : c ≤ 9223372036854775807) (hR : Rd w w.heap.size A l) :
    Calls Try.prog 29 #[.slice A l.length c] w fun e w' => e = .returned (.tuple #[.int .i64 (gi (goodB l) (insN l + onN l)), .bool (goodB l)]) ∧ Below w.heap.size w w' := by
  have K := Lib.hid (pgGood_any A c l w hn hcap hc2 hR)
  by_cases hg : Good l
  · have hgt := goodB_true hg
    rw [hgt] at K ⊢
    have K2 := Lib.hid (fun W (hb : Below w.heap.size w W) => pgInside_any A c l W hg (rd_more (rd_below hR hb (Nat.le_refl _)) hb.size))
    have K3 := Lib.hid (fun W (hb : Below w.heap.size w W) => pgRound_any A c l W (by have := hg.few; omega) hg.few.2 hg.pegs (rd_more (rd_below hR hb (Nat.le_refl _)) hb.size))
    obtain ⟨a1, a2⟩ := ins_bd hg
    obtain ⟨o1, o2⟩ := on_bd hg
    rw [gi_true]
    generalize insN l = v at *
    generalize onN l = o at *
    clear hgt hg hR
    go_enter Try.func29, Try.ntmps29
    go_wp2_with fail
    refine K.out.mono ?_; rintro e w1 ⟨rfl, hb1⟩
    go_wp2_with fail
    refine (K2.out w1 hb1).mono ?_; rintro e w2 ⟨rfl, hb2⟩
    have B2 := hb1.trans (hb2.mono hb1.size)
    go_wp2_with fail
    refine (K3.out w2 B2).mono ?_; rintro e w3 ⟨rfl, hb3⟩
    have B3 := B2.trans (hb3.mono B2.size)
    go_wp2_with fail
    go_ret2
    exact ⟨rfl, B3⟩
  · have hgf := goodB_false hg
    rw [hgf] at K ⊢
    rw [gi_false]
    clear hgf hg hR
    go_enter Try.func29, Try.ntmps29
    go_wp2_with fail
    refine K.out.mono ?_; rintro e w1 ⟨rfl, hb1⟩
    go_wp2_with fail
    go_ret2
    exact ⟨rfl, hb1⟩
theorem implPegsInAll_any (A : Option Addr) (c : Nat) (l : List (Int × Int)) (w : World) (hn : l.length ≤ 1048576) (hR : Rd w w.heap.size A l) :
    Calls Try.prog 30 #[.slice A l.length c] w fun e w' => e = .returned (.tuple #[.int .i64 (gi (goodB l) (insN l + onN l)), .bool (goodB l)]) ∧ Below w.heap.size w w' := by
  have K1 := Lib.hid (implPegsInside_any A c l w hn hR)
  have K2 := Lib.hid (fun W (hb : Below w.heap.size w W) => implPegsOn_any A c l W hn (rd_more (rd_below hR hb (Nat.le_refl _)) hb.size))
  have hs : Hid (gi (goodB l) (insN l) + gi (goodB l) (onN l) = gi (goodB l) (insN l + onN l)) := Lib.hid (by cases goodB l <;> simp [gi])
  have hb1 : -40000 ≤ gi (goodB l) (insN l) ∧ gi (goodB l) (insN l) ≤ 40000 := by
    by_cases hg : Good l
    · rw [goodB_true hg, gi_true]; exact ins_bd hg
    · rw [goodB_false hg, gi_false]; omega
  have hb2 : -1600 ≤ gi (goodB l) (onN l) ∧ gi (goodB l) (onN l) ≤ 1600 := by
    by_cases hg : Good l
    · rw [goodB_true hg, gi_true]; exact on_bd hg
    · rw [goodB_false hg, gi_false]; omega
  obtain ⟨a1, a2⟩ := hb1
  obtain ⟨o1, o2⟩ := hb2
  generalize gi (goodB l) (insN l) = v at *
  generalize gi (goodB l) (onN l) = o at *
  generalize gi (goodB l) (insN l + onN l) = t at *
  generalize goodB l = b at *
  clear hR
  go_enter Try.func30, Try.ntmps30
  go_wp2_with fail
  refine K1.out.mono ?_; rintro e w1 ⟨rfl, hb1⟩
  go_wp2_with fail
  refine (K2.out w1 hb1).mono ?_; rintro e w2 ⟨rfl, hb2⟩
  have B2 := hb1.trans (hb2.mono hb1.size)
  go_wp2_with fail
  go_ret2
  exact ⟨ret_tup hs.out, B2⟩
end Go.Proofs.Ytieimijkkjhegaa
