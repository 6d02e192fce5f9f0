/- contracts: BandOf on both sides -/
import Derived.Test.YthpbnfmfedggjaaBg
import Derived.Test.YthpbnfmfedggjaaBm
import Derived.Test.YthpbnfmfedggjaaBd
import Derived.Test.YthpbnfmfedggjaaLs
namespace Go.Proofs.Ythpbnfmfedggjaa
open Go.ChangeShapes Go.WideShapes Go.ChangeAt Go.RowKit Go.Joins
set_option linter.unusedVariables false
set_option linter.unusedSimpArgs false
set_option maxRecDepth 4000
/-- the band -/
def band (l : List (Int × Int)) : List (Int × Int) := MH.hull (srt l)
theorem band_few {l : List (Int × Int)} (h : Dif l) : (band l).length ≤ 60 := by
  have h1 := hull_len (s := srt l)
  rw [srt_len] at h1
  have := h.few.2
  unfold band
  omega
theorem dif_pegs {l : List (Int × Int)} (h : Dif l) : ∀ x ∈ l, isPg x = true := by
  intro x hx
  obtain ⟨i, hi, e⟩ := in_iff.1 hx
  rw [← e]
  exact (h.fine i hi).1
theorem retL_own {w w' : World} {v : Value} {m : List (Int × Int)} (h : w'.ownsRow w.heap.size 38 2 v m.length (flat m)) (hb : Below w.heap.size w w') : RetL w m true (.returned (.tuple #[v, .bool true])) w' := by
  obtain ⟨A, c, rfl, h1, h2, h3⟩ := rw_of_own h
  exact ⟨A, c, rfl, h1, h2, hb, h3⟩
theorem bandS_any (A : Option Addr) (c n : Nat) (l : List (Int × Int)) (w : World) (hln : l.length = n) (hd : Dif l) (hR : Rd w w.heap.size A l) :
    Calls Try.prog 51 #[.slice A n c] w fun e w' => (∃ v, e = .returned v ∧ w'.ownsRow w.heap.size 38 2 v (band l).length (flat (band l))) ∧ Below w.heap.size w w' :=
  bdBand_any A c n l w hln (by have := hd.few.2; omega) (dif_pegs hd) hR
theorem bandI_any (A : Option Addr) (c n : Nat) (l : List (Int × Int)) (w : World) (hln : l.length = n) (hd : Dif l) (hR : Rd w w.heap.size A l) :
    Calls Try.prog 52 #[.slice A n c] w fun e w' => (∃ v, e = .returned v ∧ w'.ownsRow w.heap.size 38 2 v (band l).length (flat (band l))) ∧ Below w.heap.size w w' :=
  bandAround_any A c n l w hln (by have := hd.few.1; omega) (by have := hd.few.2; omega) (dif_nodup hd) (dif_pegs hd) hR
theorem specBandOf_any (A : Option Addr) (c : Nat) (l : List (Int × Int)) (w : World) (hn : l.length ≤ 1048576) (hcap : l.length ≤ c) (hc2 : c ≤ 9223372036854775807) (hR : Rd w w.heap.size A l) :
    Calls Try.prog 20 #[.slice A l.length c] w (RetL w (sel (difB l) (band l)) (difB l)) := by
  have K := Lib.hid (bdGood_any A c l w hn hcap hc2 hR)
  by_cases hg : Dif l
  · have hgt := difB_true hg
    rw [hgt] at K ⊢
    have K2 := Lib.hid (fun W (hb : Below w.heap.size w W) => bandS_any A c l.length l W rfl hg (rd_more (rd_below hR hb (Nat.le_refl _)) hb.size))
    clear hgt hg hR
    show Calls _ _ _ _ (RetL w (band l) true)
    generalize band l = m at *
    go_enter Try.func20, Try.ntmps20
    go_wp2_with fail
    refine K.out.mono ?_; rintro e w1 ⟨rfl, hb1⟩
    go_wp2_with fail
    refine (K2.out w1 hb1).mono ?_; rintro e w2 ⟨⟨v, rfl, ho⟩, hb2⟩
    have HO := Lib.hid ho
    clear ho
    go_wp2_with fail
    go_ret2
    exact retL_up hb1 (retL_own HO.out hb2)
  · have hgf := difB_false hg
    rw [hgf] at K ⊢
    clear hgf hg hR
    go_enter Try.func20, Try.ntmps20
    go_wp2_with fail
    refine K.out.mono ?_; rintro e w1 ⟨rfl, hb1⟩
    go_wp2_with fail
    go_ret2
    exact retL_nil hb1
theorem implBandOf_any (A : Option Addr) (c : Nat) (l : List (Int × Int)) (w : World) (hn : l.length ≤ 1048576) (hcap : l.length ≤ c) (hc2 : c ≤ 9223372036854775807) (hR : Rd w w.heap.size A l) :
    Calls Try.prog 21 #[.slice A l.length c] w (RetL w (sel (difB l) (band l)) (difB l)) := by
  have K := Lib.hid (implAreDifferent_any A c l w hn hcap hc2 hR)
  by_cases hg : Dif l
  · have hgt := difB_true hg
    rw [hgt] at K ⊢
    have K2 := Lib.hid (fun W (hb : Below w.heap.size w W) => bandI_any A c l.length l W rfl hg (rd_more (rd_below hR hb (Nat.le_refl _)) hb.size))
    clear hgt hg hR
    show Calls _ _ _ _ (RetL w (band l) true)
    generalize band l = m at *
    go_enter Try.func21, Try.ntmps21
    go_wp2_with fail
    refine K.out.mono ?_; rintro e w1 ⟨rfl, hb1⟩
    go_wp2_with fail
    refine (K2.out w1 hb1).mono ?_; rintro e w2 ⟨⟨v, rfl, ho⟩, hb2⟩
    have HO := Lib.hid ho
    clear ho
    go_wp2_with fail
    go_ret2
    exact retL_up hb1 (retL_own HO.out hb2)
  · have hgf := difB_false hg
    rw [hgf] at K ⊢
    clear hgf hg hR
    go_enter Try.func21, Try.ntmps21
    go_wp2_with fail
    refine K.out.mono ?_; rintro e w1 ⟨rfl, hb1⟩
    go_wp2_with fail
    go_ret2
    exact retL_nil hb1
theorem band_le (l : List (Int × Int)) : (sel (difB l) (band l)).length ≤ 1048576 := by
  unfold sel
  split
  · rename_i h
    have := band_few (dif_of h)
    omega
  · simp
end Go.Proofs.Ythpbnfmfedggjaa
