/- contract: is a point in a list, the model's side -/
import Derived.Test.YthpbnfmfedggjaaBb
import Derived.BigRegion
namespace Go.Proofs.Ythpbnfmfedggjaa
open Go.ChangeShapes Go.WideShapes Go.ChangeAt Go.RowKit Go.Joins
set_option linter.unusedVariables false
set_option linter.unusedSimpArgs false
set_option maxRecDepth 4000
set_option maxHeartbeats 4000000 in
theorem bdHas_any (A : Option Addr) (c n : Nat) (l : List (Int × Int)) (p : Int × Int) (w : World) (hln : l.length = n) (hn : n ≤ 1048576) (hR : Rd w w.heap.size A l) :
    Calls Try.prog 63 #[.slice A n c, .agg #[.int .i64 p.1, .int .i64 p.2]] w fun e w' => e = .returned (.bool (decide (p ∈ l))) ∧ Below w.heap.size w w' := by
  have HN := Lib.hid hln
  have HC : Hid (∀ W, Below w.heap.size w W → ∀ i, i < n → ∃ b off, A = some ⟨b, off, none⟩ ∧ b < w.heap.size ∧ W.cell? ⟨b, off + i * 2, none⟩ = some (.int .i64 (vx l i).1) ∧ W.cell? ⟨b, off + i * 2 + 1, none⟩ = some (.int .i64 (vx l i).2)) := Lib.hid (fun W hW i hi => by
    obtain ⟨b, off, e, hb, hc⟩ := hR (by omega)
    obtain ⟨h1, h2⟩ := hc i _ (vx_get (by omega))
    exact ⟨b, off, e, hb, (hW.cell (p := ⟨b, off + i * 2, none⟩) hb).trans h1, (hW.cell (p := ⟨b, off + i * 2 + 1, none⟩) hb).trans h2⟩)
  clear hR hln
  obtain ⟨p1, p2⟩ := p
  have HI := Lib.hid (in_iff (l := l) (p := (p1, p2)))
  have HY : Hid ((p1, p2) ∈ l → decide ((p1, p2) ∈ l) = true) := Lib.hid (fun h => decide_eq_true h)
  have HZ : Hid ((p1, p2) ∉ l → decide ((p1, p2) ∈ l) = false) := Lib.hid (fun h => decide_eq_false h)
  generalize decide ((p1, p2) ∈ l) = r at *
  go_enter Try.func63, Try.ntmps63
  go_wp2_with fail
  obtain ⟨W1, hW1⟩ : ∃ W1, W1 = (w.alloc (.cells #[.int .i64 p1, .int .i64 p2] 38)) := ⟨_, rfl⟩
  rw [← hW1]
  have yW10_0 : W1.cell? ⟨w.heap.size, 0, none⟩ = some (.int .i64 p1) := by rw [hW1]; go_simp
  have yW10_1 : W1.cell? ⟨w.heap.size, 1, none⟩ = some (.int .i64 p2) := by rw [hW1]; go_simp
  have fW10 : ∀ o, W1.frozen? ⟨w.heap.size, o, none⟩ = false := by intro o; rw [hW1]; (repeat rw [frozen?_alloc_cells]); simp [World.frozen?]
  have zW10 : w.heap.size < W1.heap.size := by rw [hW1]; simp <;> omega
  have BW1 : Below w.heap.size w W1 := by rw [hW1]; exact (Below.alloc (Below.refl _ _) (by simp <;> omega) _)
  have eW1 : Hid (W1.heap.size = w.heap.size + 1) := Lib.hid (by rw [hW1]; simp)
  clear hW1
  go_loopg [9] n (fun g i wr => ∃ k : Nat, k ≤ n ∧ g = n - k ∧ i = .int .i64 k ∧ Below W1.heap.size W1 wr ∧ Hid (∀ j, j < k → vx l j ≠ (p1, p2)))
  case atStart => exact ⟨0, Nat.zero_le _, rfl, rfl, Below.refl _ _, Lib.hid (fun i h => absurd h (Nat.not_lt_zero _))⟩
  case round =>
    obtain ⟨k, hk, hg, rfl, hB, hF⟩ := hrel
    rename World => wo
    have HGK := Lib.hid hg
    clear hg
    have BP := BW1.trans (hB.mono BW1.size)
    by_cases hlt : k < n
    · obtain ⟨b, off, hA, hb, x1, x2⟩ := HC.out wo BP k hlt
      subst hA
      have zb : b < wo.heap.size := Nat.lt_of_lt_of_le hb BP.size
      obtain ⟨hcB, hfB⟩ := bcell hB
      have y1 := (hcB _ 0 zW10).trans yW10_0
      have y2 := (hcB _ 1 zW10).trans yW10_1
      have zw : w.heap.size < wo.heap.size := Nat.lt_of_lt_of_le zW10 hB.size
      obtain ⟨q1, q2, hqe⟩ : ∃ q1 q2, vx l k = (q1, q2) := ⟨_, _, rfl⟩
      rw [hqe] at x1 x2
      have HQE := Lib.hid hqe
      have hz0 := hB.size
      have BA := Below.alloc hB hz0 (.cells #[.int .i64 q1, .int .i64 q2] 38)
      have BPA := Below.alloc BP BP.size (.cells #[.int .i64 q1, .int .i64 q2] 38)
      clear hqe hcB hfB yW10_0 yW10_1 fW10 zW10 hB
      by_cases h1 : p1 = q1
      · by_cases h2 : p2 = q2
        · subst h1; subst h2
          have hin : Hid (r = true) := Lib.hid (HY.out (HI.out.2 ⟨k, by have := HN.out; omega, HQE.out⟩))
          go_wp2_with fail
          go_ret
          exact ⟨ret_bool hin.out.symm, BPA⟩
        · have hF2 : Hid (∀ j, j < k + 1 → vx l j ≠ (p1, p2)) := Lib.hid (fun j hj => by
            by_cases hjk : j = k
            · subst hjk; intro e; rw [HQE.out] at e; injection e with e1 e2; exact h2 e2.symm
            · exact hF.out j (by omega))
          subst h1
          go_wp2_with fail
          go_roundg (n - (k + 1))
          case measure => have := HGK.out; omega
          case rel => exact ⟨k + 1, by omega, rfl, by go_num, BA, hF2⟩
      · have hF2 : Hid (∀ j, j < k + 1 → vx l j ≠ (p1, p2)) := Lib.hid (fun j hj => by
          by_cases hjk : j = k
          · subst hjk; intro e; rw [HQE.out] at e; injection e with e1 e2; exact h1 e1.symm
          · exact hF.out j (by omega))
        go_wp2_with fail
        go_roundg (n - (k + 1))
        case measure => have := HGK.out; omega
        case rel => exact ⟨k + 1, by omega, rfl, by go_num, BA, hF2⟩
    · have hkn : n = k := by omega
      subst hkn
      have hno : Hid (r = false) := Lib.hid (HZ.out (fun h => by
        obtain ⟨i, hi, e⟩ := HI.out.1 h
        exact hF.out i (by have := HN.out; omega) e))
      go_wp2_with fail
      go_ret
      exact ⟨ret_bool hno.out.symm, BP⟩
end Go.Proofs.Ythpbnfmfedggjaa
