/- contracts: lists of pegs that are different, on both sides -/
import Derived.Test.YtakccbbdfcnjeaaT
import Derived.Test.YtakccbbdfcnjeaaRt
import Derived.BigRegion
namespace Go.Proofs.Ytakccbbdfcnjeaa
open Go.ChangeShapes Go.WideShapes Go.ChangeAt Go.RowKit Go.Joins
set_option linter.unusedVariables false
set_option linter.unusedSimpArgs false
set_option maxRecDepth 4000
/-- 1 to 30 different pegs -/
structure Dif (l : List (Int × Int)) : Prop where
  few : 1 ≤ l.length ∧ l.length ≤ 30
  fine : Fine l l.length
noncomputable def difB (l : List (Int × Int)) : Bool := @decide (Dif l) (Classical.propDecidable _)
theorem difB_true {l : List (Int × Int)} (h : Dif l) : difB l = true := by unfold difB; exact @decide_eq_true _ (Classical.propDecidable _) h
theorem difB_false {l : List (Int × Int)} (h : ¬ Dif l) : difB l = false := by unfold difB; exact @decide_eq_false _ (Classical.propDecidable _) h
theorem dif_of {l : List (Int × Int)} (h : difB l = true) : Dif l := by unfold difB at h; exact @of_decide_eq_true _ (Classical.propDecidable _) h
set_option maxRecDepth 100000 in
set_option maxHeartbeats 4000000 in
theorem bdGood_any (A : Option Addr) (c : Nat) (l : List (Int × Int)) (w : World) (hn : l.length ≤ 1048576) (hcap : l.length ≤ c) (hc2 : c ≤ 9223372036854775807) (hR : Rd w w.heap.size A l) :
    Calls Try.prog 52 #[.slice A l.length c] w fun e w' => e = .returned (.bool (difB l)) ∧ Below w.heap.size w w' := by
  by_cases hfew : 1 ≤ l.length ∧ l.length ≤ 30
  · have HR := Lib.hid hR
    clear hR
    have hL1 : ((1 : Int) ≤ (l.length : Int)) := by omega
    have hL2 : ((l.length : Int) ≤ 30) := by omega
    have HG := Lib.hid (fun h => difB_false (l := l) h)
    have HT := Lib.hid (fun h => difB_true (l := l) ⟨hfew, h⟩)
    clear hfew
    have hrd : ∀ i, i < l.length → ∃ b off, A = some ⟨b, off, none⟩ ∧ b < w.heap.size ∧ ∀ i, i < l.length → w.cell? ⟨b, off + i * 2, none⟩ = some (.int .i64 (vx l i).1) ∧ w.cell? ⟨b, off + i * 2 + 1, none⟩ = some (.int .i64 (vx l i).2) := fun i hi => by
      obtain ⟨b, off, e, hb, hc⟩ := HR.out (by omega)
      exact ⟨b, off, e, hb, fun i hi => hc i _ (vx_get hi)⟩
    obtain ⟨b, off, rfl, hb, hcell⟩ := hrd 0 (by omega)
    have HC := Lib.hid hcell
    clear hrd hcell HR
    generalize hN : l.length = n at *
    have HN := Lib.hid hN
    clear hN
    go_enter Try.func52, Try.ntmps52
    go_wp2_with fail
    refine (l1In_any _ _ _ _).mono ?_; rintro e _ ⟨rfl, rfl⟩
    go_wp2_with fail
    go_loopg [13] n (fun g i wr => ∃ k : Nat, k ≤ n ∧ g = n - k ∧ i = .int .i64 k ∧ Below w.heap.size w wr ∧ Hid (Fine l k))
    case atStart => exact ⟨0, Nat.zero_le _, rfl, rfl, Below.refl _ _, Lib.hid (fun i h => absurd h (Nat.not_lt_zero _))⟩
    case round =>
      obtain ⟨k, hk, hg, rfl, hB, hF⟩ := hrel
      rename World => wo
      have HGK := Lib.hid hg
      clear hg
      by_cases hlt : k < n
      · have hq1 : wo.cell? ⟨b, off + k * 2, none⟩ = some (.int .i64 (vx l k).1) := (hB.cell (p := ⟨b, off + k * 2, none⟩) hb).trans (HC.out k hlt).1
        have hq2 : wo.cell? ⟨b, off + k * 2 + 1, none⟩ = some (.int .i64 (vx l k).2) := (hB.cell (p := ⟨b, off + k * 2 + 1, none⟩) hb).trans (HC.out k hlt).2
        have K1 := Lib.hid (fun W => pgIs_any (vx l k).1 (vx l k).2 W)
        have hzB := hB.size
        by_cases hpg : isPegB (vx l k).1 (vx l k).2 = true
        · rw [hpg] at K1
          have HPG := Lib.hid hpg
          clear hpg
          go_wp2_with fail
          refine (K1.out _).mono ?_; rintro e w1 ⟨rfl, hb1⟩
          have B1 := (Below.alloc hB hzB (.cells #[.int .i64 (vx l k).1, .int .i64 (vx l k).2] 25)).trans (hb1.mono (by simp; omega))
          have hz1 : wo.heap.size < w1.heap.size := by (have := hb1.size; simp at this; omega)
          have x1 : w1.cell? ⟨wo.heap.size, 0, none⟩ = some (.int .i64 (vx l k).1) := ((bcell hb1).1 _ _ (by simp)).trans (by go_simp)
          have x2 : w1.cell? ⟨wo.heap.size, 1, none⟩ = some (.int .i64 (vx l k).2) := ((bcell hb1).1 _ _ (by simp)).trans (by go_simp)
          clear hq1 hq2 K1 hb1
          go_wp2_with fail
          go_loopg [25] k (fun g2 j wi => ∃ m : Nat, m ≤ k ∧ g2 = k - m ∧ j = .int .i64 m ∧ Below w.heap.size w wi ∧ wo.heap.size < wi.heap.size ∧ wi.cell? ⟨wo.heap.size, 0, none⟩ = some (.int .i64 (vx l k).1) ∧ wi.cell? ⟨wo.heap.size, 1, none⟩ = some (.int .i64 (vx l k).2) ∧ Hid (∀ j, j < m → vx l k ≠ vx l j))
          case atStart => exact ⟨0, Nat.zero_le _, rfl, rfl, B1, hz1, x1, x2, Lib.hid (fun j h => absurd h (Nat.not_lt_zero _))⟩
          case round =>
            obtain ⟨m, hm, hg2, rfl, hBi, hzi, y1, y2, hD⟩ := hrel
            have HGM := Lib.hid hg2
            clear hg2 x1 x2 B1 hz1
            by_cases hlm : m < k
            · obtain ⟨q1, q2, hqe, hq1, hq2⟩ : ∃ q1 q2, vx l m = (q1, q2) ∧ wr.cell? ⟨b, off + m * 2, none⟩ = some (.int .i64 q1) ∧ wr.cell? ⟨b, off + m * 2 + 1, none⟩ = some (.int .i64 q2) :=
                ⟨(vx l m).1, (vx l m).2, rfl, (hBi.cell (p := ⟨b, off + m * 2, none⟩) hb).trans (HC.out m (by omega)).1, (hBi.cell (p := ⟨b, off + m * 2 + 1, none⟩) hb).trans (HC.out m (by omega)).2⟩
              have HQE := Lib.hid hqe
              clear hqe
              by_cases heq : (vx l k).1 = q1 ∧ (vx l k).2 = q2
              · have hng : Hid (difB l = false) := Lib.hid (HG.out (fun h => (h.fine k (by have := HN.out; omega)).2 m hlm (by rw [HQE.out]; exact Prod.ext heq.1 heq.2)))
                obtain ⟨rfl, rfl⟩ := heq
                have B2 := Below.alloc hBi hBi.size (.cells #[.int .i64 (vx l k).1, .int .i64 (vx l k).2] 25)
                go_wp2_with fail
                go_ret
                exact ⟨ret_bool hng.out.symm, B2⟩
              · have hD2 : Hid (∀ j, j < m + 1 → vx l k ≠ vx l j) := Lib.hid (fun j hj => by
                  by_cases hjm : j = m
                  · subst hjm; intro e; rw [HQE.out] at e; exact heq ⟨by rw [e], by rw [e]⟩
                  · exact hD.out j (by omega))
                have B2 := Below.alloc hBi hBi.size (.cells #[.int .i64 q1, .int .i64 q2] 25)
                have z2 : wo.heap.size < (wr.alloc (.cells #[.int .i64 q1, .int .i64 q2] 25)).heap.size := by simp; omega
                have Y3 := Lib.hid ((World.cell?_alloc_lt wr (.cells #[.int .i64 q1, .int .i64 q2] 25) ⟨wo.heap.size, 0, none⟩ hzi).trans y1)
                have Y4 := Lib.hid ((World.cell?_alloc_lt wr (.cells #[.int .i64 q1, .int .i64 q2] 25) ⟨wo.heap.size, 1, none⟩ hzi).trans y2)
                clear hD
                by_cases h1 : (vx l k).1 = q1
                · have h2 : ¬ (vx l k).2 = q2 := fun h => heq ⟨h1, h⟩
                  clear heq
                  subst h1
                  go_wp2_with fail
                  go_roundg (k - (m + 1))
                  case measure => have := HGM.out; omega
                  case rel => exact ⟨m + 1, by omega, rfl, by go_num, B2, z2, Y3.out, Y4.out, hD2⟩
                · clear heq
                  go_wp2_with fail
                  go_roundg (k - (m + 1))
                  case measure => have := HGM.out; omega
                  case rel => exact ⟨m + 1, by omega, rfl, by go_num, B2, z2, Y3.out, Y4.out, hD2⟩
            · have hmk : m = k := by omega
              have hF2 : Hid (Fine l (k + 1)) := Lib.hid (fun i hi => by
                by_cases hik : i = k
                · subst hik; exact ⟨HPG.out, fun j hj => hD.out j (by omega)⟩
                · exact hF.out i (by omega))
              clear hD hF
              go_wp2_with fail
              go_roundg (n - (k + 1))
              case measure => have := HGK.out; omega
              case rel => exact ⟨k + 1, by omega, rfl, by go_num, hBi, hF2⟩
        · have hpf : isPegB (vx l k).1 (vx l k).2 = false := by simpa using hpg
          rw [hpf] at K1
          have hng : Hid (difB l = false) := Lib.hid (HG.out (fun h => hpg (h.fine k (by have := HN.out; omega)).1))
          clear hpg hpf
          go_wp2_with fail
          refine (K1.out _).mono ?_; rintro e w1 ⟨rfl, hb1⟩
          have B1 := (Below.alloc hB hzB (.cells #[.int .i64 (vx l k).1, .int .i64 (vx l k).2] 25)).trans (hb1.mono (by simp; omega))
          go_wp2_with fail
          go_ret
          exact ⟨ret_bool hng.out.symm, B1⟩
      · have hkn : n = k := by omega
        subst hkn
        have hgood : Hid (difB l = true) := Lib.hid (HT.out (by first | exact hF.out | (rw [HN.out]; exact hF.out)))
        clear hF HGK hlt hk HG
        go_wp2_with fail
        go_ret
        exact ⟨ret_bool hgood.out.symm, hB⟩
  · have hng : ¬ Dif l := fun h => hfew h.few
    rw [difB_false hng]
    have hf : (decide ((1 : Int) ≤ (l.length : Int)) && decide ((l.length : Int) ≤ 30)) = false := by simp; omega
    go_enter Try.func52, Try.ntmps52
    go_wp2_with fail
    refine (l1In_any _ _ _ _).mono ?_; rintro e _ ⟨rfl, rfl⟩
    rw [hf]
    go_wp2_with fail
    go_ret
    exact ⟨rfl, Below.refl _ _⟩
end Go.Proofs.Ytakccbbdfcnjeaa
