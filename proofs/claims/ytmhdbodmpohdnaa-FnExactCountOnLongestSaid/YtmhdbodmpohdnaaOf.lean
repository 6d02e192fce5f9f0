/- contracts: how many pegs of a board are so many steps from one -/
import Derived.Test.YtmhdbodmpohdnaaOe
import Derived.Test.YtmhdbodmpohdnaaM
namespace Go.Proofs.Ytmhdbodmpohdnaa
open Go.ChangeShapes Go.WideShapes Go.ChangeAt Go.RowKit Go.Joins
set_option linter.unusedVariables false
set_option linter.unusedSimpArgs false
set_option maxRecDepth 4000
/-- is peg number k of a board so many steps from p? -/
def awF (p1 p2 st : Int) (nh k : Nat) : Int := if stepN p1 p2 (bX nh k).1 (bX nh k).2 = st then 1 else 0
theorem awF_bd (p1 p2 st : Int) (nh k : Nat) : 0 ≤ awF p1 p2 st nh k ∧ awF p1 p2 st nh k ≤ 1 := by unfold awF; split <;> omega
theorem aw_bd (p1 p2 st : Int) (nh : Nat) {n k : Nat} (hk : k ≤ n) (hn : n ≤ 144) : 0 ≤ sm (awF p1 p2 st nh) k ∧ sm (awF p1 p2 st nh) k ≤ 144 := by
  have := sm_bd (f := awF p1 p2 st nh) (c := 1) (n := k) (fun i _ => awF_bd _ _ _ _ _)
  omega
/-- a row that came back from a call, read later -/
theorem retP_read {w w1 : World} {f : Nat → Int × Int} {n : Nat} {e : Ending} (h : RetP w (firsts f n) e w1) :
    ∃ A c, e = .returned (.slice A n c) ∧ n ≤ c ∧ c ≤ maxLen ∧ Below w.heap.size w w1 ∧ ∀ W, Below w1.heap.size w1 W → ∀ i, i < n → ∃ b off, A = some ⟨b, off, none⟩ ∧ b < w1.heap.size ∧ W.cell? ⟨b, off + i * 2, none⟩ = some (.int .i64 (f i).1) ∧ W.cell? ⟨b, off + i * 2 + 1, none⟩ = some (.int .i64 (f i).2) := by
  obtain ⟨A, c, rfl, h1, h2, hb, hr⟩ := h
  rw [firsts_len] at h1 hr
  refine ⟨A, c, by rw [firsts_len], h1, h2, hb, fun W hW i hi => ?_⟩
  obtain ⟨b, off, e, b1, b2, hc⟩ := hr (by omega)
  obtain ⟨⟨x1, x2⟩, _⟩ := hc i hi
  rw [firsts_pt f n i hi] at x1 x2
  exact ⟨b, off, e, b2, (hW.cell (p := ⟨b, off + i * 2, none⟩) b2).trans x1, (hW.cell (p := ⟨b, off + i * 2 + 1, none⟩) b2).trans x2⟩
theorem bX_sz {nw nh k : Nat} (h1 : nw ≤ 12) (h2 : nh ≤ 12) (hk : k < nw * nh) : Sz (bX nh k).1 (bX nh k).2 := by
  have := bX_bd hk
  unfold Sz
  omega
set_option maxHeartbeats 2000000 in
theorem countAway_any (nw nh : Nat) (p1 p2 st : Int) (w : World) (h1 : nw ≤ 12) (h2 : nh ≤ 12) (hp : Sz p1 p2) :
    Calls Try.prog 47 #[.agg #[.int .i64 nw, .int .i64 nh], .agg #[.int .i64 p1, .int .i64 p2], .int .i64 st] w fun e w' => e = .returned (.int .i64 (sm (awF p1 p2 st nh) (nw * nh))) ∧ Below w.heap.size w w' := by
  have KP := Lib.hid (fun W => boardPegs_any nw nh W h1 h2)
  have h3 := bd_mul h1 h2
  have KS : Hid (∀ k W, k < nw * nh → Calls Try.prog 63 #[.agg #[.int .i64 p1, .int .i64 p2], .agg #[.int .i64 (bX nh k).1, .int .i64 (bX nh k).2]] W fun e w' => e = .returned (.int .i64 (stepN p1 p2 (bX nh k).1 (bX nh k).2)) ∧ Below W.heap.size W w') :=
    Lib.hid (fun k W hk => stepsTo_any _ _ _ _ W hp (bX_sz h1 h2 hk))
  have HN : Hid (∀ k, sm (awF p1 p2 st nh) (k + 1) = sm (awF p1 p2 st nh) k + if stepN p1 p2 (bX nh k).1 (bX nh k).2 = st then 1 else 0) := Lib.hid (fun k => rfl)
  have HB : Hid (∀ k, k ≤ nw * nh → 0 ≤ sm (awF p1 p2 st nh) k ∧ sm (awF p1 p2 st nh) k ≤ 144) := Lib.hid (fun k hk => aw_bd _ _ _ _ hk h3)
  have H0 : Hid (sm (awF p1 p2 st nh) 0 = 0) := Lib.hid rfl
  generalize sm (awF p1 p2 st nh) = F at *
  generalize bX nh = f at *
  generalize nw * nh = n at *
  go_enter Try.func47, Try.ntmps47
  go_wp2_with fail
  obtain ⟨W0, hW0⟩ : ∃ W0, W0 = ((w.alloc (.cells #[.int .i64 ((nw : Int)), .int .i64 ((nh : Int))] 34)).alloc (.cells #[.int .i64 p1, .int .i64 p2] 28)) := ⟨_, rfl⟩
  rw [← hW0]
  have yW00_0 : W0.cell? ⟨w.heap.size, 0, none⟩ = some (.int .i64 ((nw : Int))) := by rw [hW0]; go_simp
  have yW00_1 : W0.cell? ⟨w.heap.size, 1, none⟩ = some (.int .i64 ((nh : Int))) := by rw [hW0]; go_simp
  have fW00 : ∀ o, W0.frozen? ⟨w.heap.size, o, none⟩ = false := by intro o; rw [hW0]; (repeat rw [frozen?_alloc_cells]); simp [World.frozen?]
  have zW00 : w.heap.size < W0.heap.size := by rw [hW0]; simp <;> omega
  have yW01_0 : W0.cell? ⟨w.heap.size + 1, 0, none⟩ = some (.int .i64 p1) := by rw [hW0]; go_simp
  have yW01_1 : W0.cell? ⟨w.heap.size + 1, 1, none⟩ = some (.int .i64 p2) := by rw [hW0]; go_simp
  have fW01 : ∀ o, W0.frozen? ⟨w.heap.size + 1, o, none⟩ = false := by intro o; rw [hW0]; (repeat rw [frozen?_alloc_cells]); simp [World.frozen?]
  have zW01 : w.heap.size + 1 < W0.heap.size := by rw [hW0]; simp <;> omega
  have BW0 : Below w.heap.size w W0 := by rw [hW0]; exact (Below.alloc (Below.alloc (Below.refl _ _) (by simp <;> omega) _) (by simp <;> omega) _)
  have eW0 : Hid (W0.heap.size = w.heap.size + 2) := Lib.hid (by rw [hW0]; simp)
  clear hW0
  refine (KP.out W0).mono ?_; intro e w1 hret
  obtain ⟨A, c, rfl, hc1, hc2, hb1, hrd⟩ := retP_read hret
  have HC := Lib.hid hrd
  have y0 := ((bcell hb1).1 _ 0 zW01).trans yW01_0
  have y1 := ((bcell hb1).1 _ 1 zW01).trans yW01_1
  have z1 := Nat.lt_of_lt_of_le zW01 hb1.size
  have BB := BW0.trans (hb1.mono BW0.size)
  unfold maxLen at hc2
  clear hret hrd hb1 yW00_0 yW00_1 yW01_0 yW01_1 fW00 fW01 zW00 zW01 eW0 BW0 KP
  go_wp2_with fail
  go_loopg [7, 13] n (fun g s i wr => ∃ k : Nat, k ≤ n ∧ g = n - k ∧ i = .int .i64 k ∧ s = .int .i64 (F k) ∧ Below w1.heap.size w1 wr)
  case atStart => exact ⟨0, Nat.zero_le _, rfl, rfl, by rw [H0.out], Below.refl _ _⟩
  case round =>
    obtain ⟨k, hk, hg, rfl, rfl, hB⟩ := hrel
    rename World => wo
    have HGK := Lib.hid hg
    clear hg
    obtain ⟨s1, s2⟩ := HB.out k hk
    by_cases hlt : k < n
    · obtain ⟨b, off, hA, hb, x1, x2⟩ := HC.out wo hB k hlt
      subst hA
      have HNk := Lib.hid (HN.out k)
      have KSk := Lib.hid (fun W => KS.out k W hlt)
      have zB := hB.size
      have zo := Nat.lt_of_lt_of_le z1 zB
      have zb := Nat.lt_of_lt_of_le hb zB
      have v0 := ((bcell hB).1 _ 0 z1).trans y0
      have v1 := ((bcell hB).1 _ 1 z1).trans y1
      generalize F k = t at *
      generalize stepN p1 p2 (f k).1 (f k).2 = sN at *
      obtain ⟨q1, q2, hqe⟩ : ∃ q1 q2, f k = (q1, q2) := ⟨_, _, rfl⟩
      rw [hqe] at x1 x2 KSk
      clear hqe
      go_wp2_with fail
      obtain ⟨Wc, hWc⟩ : ∃ Wc, Wc = (wo.alloc (.cells #[.int .i64 q1, .int .i64 q2] 28)) := ⟨_, rfl⟩
      rw [← hWc]
      have yWc0_0 : Wc.cell? ⟨wo.heap.size, 0, none⟩ = some (.int .i64 q1) := by rw [hWc]; go_simp
      have yWc0_1 : Wc.cell? ⟨wo.heap.size, 1, none⟩ = some (.int .i64 q2) := by rw [hWc]; go_simp
      have fWc0 : ∀ o, Wc.frozen? ⟨wo.heap.size, o, none⟩ = false := by intro o; rw [hWc]; (repeat rw [frozen?_alloc_cells]); simp [World.frozen?]
      have zWc0 : wo.heap.size < Wc.heap.size := by rw [hWc]; simp <;> omega
      have BWc : Below wo.heap.size wo Wc := by rw [hWc]; exact (Below.alloc (Below.refl _ _) (by simp <;> omega) _)
      have eWc : Hid (Wc.heap.size = wo.heap.size + 1) := Lib.hid (by rw [hWc]; simp)
      clear hWc
      have BC := hB.trans (BWc.mono zB)
      refine (KSk.out Wc).mono ?_; rintro e w4 ⟨rfl, hb4⟩
      have B4 := BC.trans (hb4.mono BC.size)
      clear x1 x2 v0 v1 yWc0_0 yWc0_1 fWc0 zWc0 eWc BWc hb4 KSk
      by_cases hs : sN = st
      · have HK1 := Lib.hid (HNk.out.trans (by rw [if_pos hs]))
        subst hs
        clear HNk
        go_wp2_with fail
        go_roundg (n - (k + 1))
        case measure => have := HGK.out; omega
        case rel => exact ⟨k + 1, by omega, rfl, by go_num, by rw [HK1.out], B4⟩
      · have HK1 := Lib.hid (HNk.out.trans (by rw [if_neg hs, Int.add_zero]))
        clear HNk
        go_wp2_with fail
        go_roundg (n - (k + 1))
        case measure => have := HGK.out; omega
        case rel => exact ⟨k + 1, by omega, rfl, by go_num, by rw [HK1.out], B4⟩
    · obtain rfl : k = n := by omega
      go_wp2_with fail
      go_ret
      exact ⟨rfl, BB.trans (hB.mono BB.size)⟩
end Go.Proofs.Ytmhdbodmpohdnaa
