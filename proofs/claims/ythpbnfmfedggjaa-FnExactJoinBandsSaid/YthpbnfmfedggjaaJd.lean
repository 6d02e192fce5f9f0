/- contract: the band of two lists together, the model's side -/
import Derived.Test.YthpbnfmfedggjaaJb
import Derived.Test.YthpbnfmfedggjaaJc
import Derived.Test.YthpbnfmfedggjaaBm0
import Derived.Test.YthpbnfmfedggjaaRdo
import Derived.Maps.AppendAt
namespace Go.Proofs.Ythpbnfmfedggjaa
open Go.ChangeShapes Go.WideShapes Go.ChangeAt Go.RowKit Go.Joins
set_option linter.unusedVariables false
set_option linter.unusedSimpArgs false
set_option maxRecDepth 4000
set_option maxHeartbeats 8000000 in
theorem specJoin_yes (A : Option Addr) (c : Nat) (l : List (Int × Int)) (A' : Option Addr) (c' : Nat) (r : List (Int × Int)) (w : World) (hn : l.length ≤ 1048576) (hcap : l.length ≤ c) (hc2 : c ≤ 9223372036854775807) (hR : Rd w w.heap.size A l) (hn' : r.length ≤ 1048576) (hcap' : r.length ≤ c') (hc2' : c' ≤ 9223372036854775807) (hR' : Rd w w.heap.size A' r) (hd : Dif l) (hd' : Dif r) :
    Calls Try.prog 31 #[.slice A l.length c, .slice A' r.length c'] w (RetL w (sel (difB (joinL l r)) (band (joinL l r))) (difB (joinL l r))) := by
  obtain ⟨i0, hi0, hz0, hz1, hz2⟩ := info_parts peg_info
  have HI := Lib.hid (And.intro hi0 (And.intro hz0 (And.intro hz1 hz2)))
  have K := Lib.hid (bdGood_any A c l w hn hcap hc2 hR)
  have K' := Lib.hid (fun W (hb : Below w.heap.size w W) => bdGood_any A' c' r W hn' hcap' hc2' (rd_more (rd_below hR' hb (Nat.le_refl _)) hb.size))
  rw [difB_true hd] at K
  rw [difB_true hd'] at K'
  have KH := Lib.hid (fun g cap k W (hk : k < r.length) (h : Rd W W.heap.size (some ⟨g, 0, none⟩) (joinK l r k)) => (bdHas_any (some ⟨g, 0, none⟩) cap (joinK l r k).length (joinK l r k) (vx r k) W rfl (by have := joinK_len l r k; have := hd.few; have := hd'.few; omega) h).mono fun e w' hh => (show e = .returned (.bool (decide (vx r k ∈ l))) ∧ Below W.heap.size W w' from ⟨hh.1.trans (ret_bool (joinK_has hd' hk)), hh.2⟩))
  have KF := Lib.hid (fun g cap W (h1 : (joinL l r).length ≤ cap) (h2 : cap ≤ 9223372036854775807) (h3 : (joinL l r).length ≤ 1048576) (h : Rd W W.heap.size (some ⟨g, 0, none⟩) (joinL l r)) => bdGood_any (some ⟨g, 0, none⟩) cap (joinL l r) W h3 h1 h2 h)
  have KN := Lib.hid (fun g cap W (hj : Dif (joinL l r)) (h : Rd W W.heap.size (some ⟨g, 0, none⟩) (joinL l r)) => bandS_any (some ⟨g, 0, none⟩) cap (joinL l r).length (joinL l r) W rfl hj h)
  have HJ := Lib.hid (And.intro (difB_true (l := joinL l r)) (difB_false (l := joinL l r)))
  have HIN := Lib.hid (fun k (hk : k < r.length) (h : vx r k ∈ l) => joinK_in (l := l) (r := r) hk h)
  have HOUT := Lib.hid (fun k (hk : k < r.length) (h : vx r k ∉ l) => joinK_out (l := l) (r := r) hk h)
  have HL : Hid (∀ k, k ≤ r.length → (joinK l r k).length ≤ 60 ∧ 1 ≤ (joinK l r k).length) := Lib.hid (fun k hk => by
    have := joinK_len l r k
    have := hd.few
    have := hd'.few
    refine ⟨by omega, ?_⟩
    unfold joinK
    rw [List.length_append]; omega)
  have H0 : Hid (joinK l r 0 = l) := Lib.hid (joinK_zero l r)
  have HE : Hid (joinK l r r.length = joinL l r) := Lib.hid rfl
  have hrc : Hid (∀ W, Below w.heap.size w W → ∀ i, i < r.length → ∃ b off, A' = some ⟨b, off, none⟩ ∧ b < w.heap.size ∧ W.cell? ⟨b, off + i * 2, none⟩ = some (.int .i64 (vx r i).1) ∧ W.cell? ⟨b, off + i * 2 + 1, none⟩ = some (.int .i64 (vx r i).2)) := Lib.hid (fun W hW i hi => by
    obtain ⟨b, off, e, hb, hc⟩ := hR' (by omega)
    obtain ⟨h1, h2⟩ := hc i _ (vx_get (by omega))
    exact ⟨b, off, e, hb, (hW.cell (p := ⟨b, off + i * 2, none⟩) hb).trans h1, (hW.cell (p := ⟨b, off + i * 2 + 1, none⟩) hb).trans h2⟩)
  obtain ⟨b0, off0, rfl, hb0, hc0⟩ := hR (by have := hd.few; omega)
  have HCF := Lib.hid (fun W (hW : Below w.heap.size w W) => flat_cells (w := W) (b := b0) (off := off0) (l := l) (fun i hi => ⟨(hW.cell (p := ⟨b0, off0 + i * 2, none⟩) hb0).trans (hc0 i _ (pt_get hi)).1, (hW.cell (p := ⟨b0, off0 + i * 2 + 1, none⟩) hb0).trans (hc0 i _ (pt_get hi)).2⟩))
  have HFL : Hid ((flat l).length = l.length * 2) := Lib.hid (flat_len l)
  have hl30 : l.length ≤ 30 := hd.few.2
  have HF1 : Hid (∀ u ∈ flat l, u.oneCell' = true) := Lib.hid (fun u hu => by
    obtain ⟨p, _, hp⟩ := List.mem_flatMap.1 hu
    simp at hp
    rcases hp with rfl | rfl <;> rfl)
  clear hR hR' hd hd' hi0 hz0 hz1 hz2 hc0
  generalize hM : r.length = m at *
  have HM := Lib.hid hM
  clear hM
  go_enter Try.func31, Try.ntmps31
  go_wp2_with fail
  refine K.out.mono ?_; rintro e w1 ⟨rfl, hb1⟩
  go_wp2_with fail
  refine (K'.out w1 hb1).mono ?_; rintro e w2 ⟨rfl, hb2⟩
  have B2 := hb1.trans (hb2.mono hb1.size)
  clear hb1 hb2 K K'
  have z2 : w.heap.size ≤ w2.heap.size := B2.size
  have hb02 : b0 < w2.heap.size := by omega
  go_wp2_with (at_builtin; refine wpList_append_own _ rfl _ _ 25 rfl w2.heap.size 38 i0 (.agg #[.int .i64 0, .int .i64 0]) 2 16 Try.underlying25 HI.out.1 HI.out.2.1 HI.out.2.2.1 HI.out.2.2.2 rfl (by decide) _ _ _ rfl (World.ownsRow_made w2 #[] 0 (Nat.le_refl _) (Nat.zero_le _) (by simp)) ⟨b0, off0, none⟩ l.length c (flat l) rfl ?qc1 ?qc2 ?qc3 ?qc4 ?qc5 ?qc6 ?_)
  case qc1 => exact HFL.out
  case qc2 =>
    intro j u hj
    exact HCF.out _ (Below.alloc B2 z2 _) j u hj
  case qc3 => exact HF1.out
  case qc4 => rw [Nat.zero_add]; unfold maxLen; omega
  case qc5 => rw [Nat.zero_add]; omega
  case qc6 => simp
  intro v0 w3 hown hgrow hnil
  have B3 : Below w.heap.size w w3 := B2.trans ((((Below.refl _ w2).alloc (Nat.le_refl _) _).grown hgrow (by simp) (by intro k hk; simp [Value.ownBlock] at hk; omega)).mono B2.size)
  have HO0 : Hid (w3.ownsRow w.heap.size 38 2 v0 (joinK l r 0).length (flat (joinK l r 0))) := Lib.hid (by
    rw [H0.out]
    exact own_base (by simpa using hown) B2.size)
  clear hown hgrow hnil B2 HCF HF1 HFL
  go_wp2_with fail
  go_loopg [6, 22] m (fun g o i wr => ∃ (k : Nat) (v : Value), v = o ∧ k ≤ m ∧ g = m - k ∧ i = .int .i64 k ∧ Below w.heap.size w wr ∧ Hid (wr.ownsRow w.heap.size 38 2 v (joinK l r k).length (flat (joinK l r k))))
  case atStart => exact ⟨0, _, rfl, Nat.zero_le _, rfl, rfl, B3, HO0⟩
  case round =>
    clear HO0 B3
    obtain ⟨k, v, rfl, hk, hg, rfl, hB, hO⟩ := hrel
    rename World => wo
    have HGK := Lib.hid hg
    clear hg
    obtain ⟨hl60, hl1⟩ := HL.out k hk
    by_cases hlt : k < m
    · obtain ⟨b, off, hA, hb, x1, x2⟩ := hrc.out wo hB k hlt
      subst hA
      have hin := HIN.out k hlt
      have hout := HOUT.out k hlt
      obtain ⟨gv, capv, rfl, _, _, hRv⟩ := rd_own hO.out (by omega)
      have HRV := Lib.hid hRv
      have KHk := Lib.hid (fun W h => KH.out gv capv k W hlt h)
      clear hRv
      have hzB := hB.size
      have zb : b < wo.heap.size := by omega
      have HIO := Lib.hid (And.intro hin hout)
      clear hin hout
      obtain ⟨q1, q2, hqe⟩ : ∃ q1 q2, vx r k = (q1, q2) := ⟨_, _, rfl⟩
      rw [hqe] at x1 x2 HIO KHk
      clear hqe
      generalize hK0 : joinK l r k = Jk at *
      have HK0 := Lib.hid hK0
      clear hK0
      go_wp2_with fail
      obtain ⟨Wc, hWc⟩ : ∃ Wc, Wc = (wo.alloc (.cells #[.int .i64 q1, .int .i64 q2] 38)) := ⟨_, rfl⟩
      rw [← hWc]
      have yWc0_0 : Wc.cell? ⟨wo.heap.size, 0, none⟩ = some (.int .i64 q1) := by rw [hWc]; go_simp
      have yWc0_1 : Wc.cell? ⟨wo.heap.size, 1, none⟩ = some (.int .i64 q2) := by rw [hWc]; go_simp
      have fWc0 : ∀ o, Wc.frozen? ⟨wo.heap.size, o, none⟩ = false := by intro o; rw [hWc]; (repeat rw [frozen?_alloc_cells]); simp [World.frozen?]
      have zWc0 : wo.heap.size < Wc.heap.size := by rw [hWc]; simp <;> omega
      have BWc : Below wo.heap.size wo Wc := by rw [hWc]; exact (Below.alloc (Below.refl _ _) (by simp <;> omega) _)
      have eWc : Hid (Wc.heap.size = wo.heap.size + 1) := Lib.hid (by rw [hWc]; simp)
      clear hWc
      have BC := hB.trans (BWc.mono hzB)
      have HRc := Lib.hid (rd_more (rd_below HRV.out BWc (Nat.le_refl _)) BWc.size)
      refine (KHk.out Wc HRc.out).mono ?_; rintro e w4 ⟨rfl, hb4⟩
      clear HRc HRV
      have B4 := BC.trans (hb4.mono BC.size)
      have y0 := ((bcell hb4).1 _ 0 zWc0).trans yWc0_0
      have y1 := ((bcell hb4).1 _ 1 zWc0).trans yWc0_1
      have z4 := Nat.lt_of_lt_of_le zWc0 hb4.size
      have HO4 := Lib.hid (ownB (ownB hO.out BWc (Nat.le_refl _)) hb4 (Nat.le_refl _))
      have hz4 := B4.size
      clear x1 x2 hb4 yWc0_0 yWc0_1 fWc0 eWc BWc zWc0 BC hO KHk
      by_cases hm : (q1, q2) ∈ l
      · have HK1 := Lib.hid (HIO.out.1 hm)
        rw [decide_eq_true hm]
        clear HIO hm
        go_wp2_with fail
        go_roundg (m - (k + 1))
        case measure => have := HGK.out; omega
        case rel => exact ⟨k + 1, _, rfl, by omega, rfl, by go_num, B4, Lib.hid (by rw [HK1.out]; exact HO4.out)⟩
      · have HK1 := Lib.hid (HIO.out.2 hm)
        rw [decide_eq_false hm]
        clear HIO hm
        have HBU := Lib.hid (Below.alloc B4 hz4 (.cells #[.int .i64 q1, .int .i64 q2] 38))
        have HO5 := Lib.hid (HO4.out.alloc (.cells #[.int .i64 q1, .int .i64 q2] 38))
        have hz5 := HBU.out.size
        go_wp2_with (at_builtin; refine wpList_append_own_at _ rfl (.tmp 30) (.tmp 32) 25 rfl w.heap.size 38 i0 (.agg #[.int .i64 0, .int .i64 0]) 2 16 Try.underlying25 HI.out.1 HI.out.2.1 HI.out.2.2.1 HI.out.2.2.2 rfl (by decide) _ Jk.length (flat Jk) rfl HO5.out ⟨w4.heap.size, 0, none⟩ 1 1 [.int .i64 q1, .int .i64 q2] rfl rfl (two_cells (by go_simp) (by go_simp)) (two_one _ _) (by unfold maxLen; omega) (by omega) hz5 ?_)
        intro v' w9 own9 hgr9 _ hat
        have B9 := HBU.out.grown hgr9 HBU.out.size (fun g hg => (World.ownsRow.lt HO5.out g hg).1)
        have HO9 : Hid (w9.ownsRow w.heap.size 38 2 v' (joinK l r (k + 1)).length (flat (joinK l r (k + 1)))) := Lib.hid (by
          rw [HK1.out, flat_snoc, List.length_append]
          exact own9)
        clear own9 hgr9 hat HBU HO5 HO4
        go_wp2_with fail
        go_roundg (m - (k + 1))
        case measure => have := HGK.out; omega
        case rel => exact ⟨k + 1, v', rfl, by omega, rfl, by go_num, B9, HO9⟩
    · have hkm : k = m := by omega
      subst hkm
      rw [← HM.out] at hO
      have HO := Lib.hid (show wo.ownsRow w.heap.size 38 2 v (joinL l r).length (flat (joinL l r)) from hO.out)
      have hl60' : (joinL l r).length ≤ 60 ∧ 1 ≤ (joinL l r).length := by
        rw [← HM.out] at hl60 hl1
        exact ⟨hl60, hl1⟩
      clear hO hl60 hl1 HL HIN HOUT
      obtain ⟨gv, capv, rfl, hcv1, hcv2, hRv⟩ := rd_own HO.out (by omega)
      have HRV := Lib.hid hRv
      have hcv3 : capv ≤ 9223372036854775807 := by unfold maxLen at hcv2; omega
      clear hRv hcv2
      have KG := Lib.hid (KF.out gv capv wo hcv1 hcv3 (by omega) HRV.out)
      have KB := Lib.hid (fun hj W h => KN.out gv capv W hj h)
      clear KF KN KH HE
      by_cases hj : Dif (joinL l r)
      · have hjt := HJ.out.1 hj
        rw [hjt] at KG
        have KB2 := Lib.hid (fun W h => KB.out hj W h)
        have HJT := Lib.hid hjt
        clear hjt hj HJ KB
        generalize band (joinL l r) = res at *
        generalize joinL l r = J at *
        go_wp2_with fail
        refine KG.out.mono ?_; rintro e w5 ⟨rfl, hb5⟩
        have HR5 := Lib.hid (rd_more (rd_below HRV.out hb5 (Nat.le_refl _)) hb5.size)
        have B5 := hB.trans (hb5.mono hB.size)
        clear HRV HO hb5
        go_wp2_with fail
        refine (KB2.out w5 HR5.out).mono ?_; rintro e w6 ⟨⟨v, rfl, ho⟩, hb6⟩
        have HO6 := Lib.hid ho
        clear ho
        go_wp2_with fail
        go_ret2
        rw [HJT.out]
        exact retL_up B5 (retL_own HO6.out hb6)
      · have hjf := HJ.out.2 hj
        rw [hjf] at KG
        have HJT := Lib.hid hjf
        clear hjf hj HJ KB
        generalize joinL l r = J at *
        go_wp2_with fail
        refine KG.out.mono ?_; rintro e w5 ⟨rfl, hb5⟩
        have B5 := hB.trans (hb5.mono hB.size)
        go_wp2_with fail
        go_ret2
        rw [HJT.out]
        exact retL_nil B5
theorem specJoinBands_any (A : Option Addr) (c : Nat) (l : List (Int × Int)) (A' : Option Addr) (c' : Nat) (r : List (Int × Int)) (w : World) (hn : l.length ≤ 1048576) (hcap : l.length ≤ c) (hc2 : c ≤ 9223372036854775807) (hR : Rd w w.heap.size A l) (hn' : r.length ≤ 1048576) (hcap' : r.length ≤ c') (hc2' : c' ≤ 9223372036854775807) (hR' : Rd w w.heap.size A' r) :
    Calls Try.prog 31 #[.slice A l.length c, .slice A' r.length c'] w (RetL w (sel (joB l r) (band (joinL l r))) (joB l r)) := by
  unfold joB
  by_cases hd : Dif l
  · by_cases hd' : Dif r
    · rw [difB_true hd, difB_true hd']
      exact specJoin_yes A c l A' c' r w hn hcap hc2 hR hn' hcap' hc2' hR' hd hd'
    · have K := Lib.hid (bdGood_any A c l w hn hcap hc2 hR)
      have K' := Lib.hid (fun W (hb : Below w.heap.size w W) => bdGood_any A' c' r W hn' hcap' hc2' (rd_more (rd_below hR' hb (Nat.le_refl _)) hb.size))
      rw [difB_true hd] at K ⊢
      rw [difB_false hd'] at K' ⊢
      show Calls _ _ _ _ (RetL w [] false)
      clear hR hR' hd hd'
      go_enter Try.func31, Try.ntmps31
      go_wp2_with fail
      refine K.out.mono ?_; rintro e w1 ⟨rfl, hb1⟩
      go_wp2_with fail
      refine (K'.out w1 hb1).mono ?_; rintro e w2 ⟨rfl, hb2⟩
      have B2 := hb1.trans (hb2.mono hb1.size)
      go_wp2_with fail
      go_ret2
      exact retL_nil B2
  · have K := Lib.hid (bdGood_any A c l w hn hcap hc2 hR)
    rw [difB_false hd] at K ⊢
    show Calls _ _ _ _ (RetL w [] false)
    clear hR hR' hd
    go_enter Try.func31, Try.ntmps31
    go_wp2_with fail
    refine K.out.mono ?_; rintro e w1 ⟨rfl, hb1⟩
    go_wp2_with fail
    go_ret2
    exact retL_nil hb1
end Go.Proofs.Ythpbnfmfedggjaa
