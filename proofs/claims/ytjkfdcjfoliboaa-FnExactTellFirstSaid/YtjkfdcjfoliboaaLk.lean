/- contract: the model's list told backwards -/
import Derived.Test.YtjkfdcjfoliboaaLa
namespace Go.Proofs.Ytjkfdcjfoliboaa
open Go.ChangeShapes Go.WideShapes Go.ChangeAt Go.RowKit Go.Joins
set_option linter.unusedVariables false
set_option linter.unusedSimpArgs false
set_option maxRecDepth 4000
/-- corner number n - i: told backwards from the same corner -/
def backF (l : List (Int × Int)) (i : Nat) : Int × Int := vx l (l.length - i)
set_option maxHeartbeats 2000000 in
theorem pgBack_any (A : Option Addr) (c : Nat) (l : List (Int × Int)) (w : World) (h3 : 1 ≤ l.length) (hn : l.length ≤ 10) (hR : Rd w w.heap.size A l) :
    Calls Try.prog 50 #[.slice A l.length c] w (RetP w (firsts (backF l) l.length)) := by
  obtain ⟨b, off, rfl, hb, HC⟩ := pts_of (by omega) hR
  obtain ⟨i0, hi0, hz0, hz1, hz2⟩ := info_parts peg_info
  have HI := Lib.hid (And.intro hi0 (And.intro hz0 (And.intro hz1 hz2)))
  clear hi0 hz0 hz1 hz2 hR
  have h0 := HC.out w (Below.refl _ _) 0 (by omega)
  simp only [Nat.zero_mul, Nat.add_zero] at h0
  have hB0 : Hid (backF l 0 = vx l 0) := Lib.hid (by unfold backF; rw [Nat.sub_zero, ← vx_per, Nat.mod_self])
  have hBk : Hid (∀ k, backF l k = vx l (l.length - k)) := Lib.hid (fun _ => rfl)
  generalize hN : l.length = n at *
  have HN := Lib.hid hN
  clear hN
  have hr0 : Hid (Row (w.alloc (.cells #[.int .i64 (vx l 0).1, .int .i64 (vx l 0).2] 34)) w.heap.size (.slice (some ⟨w.heap.size, 0, none⟩) 1 1) (backF l) 1) := Lib.hid (by
    have := World.ownsRow_lit (base := w.heap.size) (e := 34) (size := 2) w #[.int .i64 (vx l 0).1, .int .i64 (vx l 0).2] 1 (Nat.le_refl _) (by simp [maxLen]) rfl
    unfold Row
    rw [firsts_succ, flat_snoc, hB0.out]
    exact this)
  have b0 := Below.alloc (Below.refl w.heap.size w) (Nat.le_refl _) (.cells #[.int .i64 (vx l 0).1, .int .i64 (vx l 0).2] 34)
  have hn0 : 0 < n := by omega
  go_enter Try.func50, Try.ntmps50
  go_wp2_with fail
  clear h0
  go_loopg [3, 4] n (fun g s i wr => ∃ (k : Nat) (v : Value), s = v ∧ 1 ≤ k ∧ k ≤ n ∧ g = n + 1 - k ∧ i = .int .i64 ((n : Int) - (k : Int)) ∧ Below w.heap.size w wr ∧ Hid (Row wr w.heap.size v (backF l) k))
  case atStart => exact ⟨1, _, rfl, Nat.le_refl _, by omega, by omega, by simp, b0, hr0⟩
  case round =>
    clear b0 hr0
    obtain ⟨k, v, rfl, hk1, hk, hg, rfl, hB, hr⟩ := hrel
    rename World => wo
    have HGK := Lib.hid hg
    clear hg
    by_cases hlt : k < n
    · have hq := HC.out wo hB (n - k) (by omega)
      have e2 : ((n : Int) - (k : Int)).toNat = n - k := by omega
      have e3 : (0 : Int) < (n : Int) - (k : Int) := by omega
      have e4 : (0 : Int) ≤ (n : Int) - (k : Int) := by omega
      have e5 : (n : Int) - (k : Int) < (n : Int) := by omega
      have hzB := hB.size
      have RA := Lib.hid (row_alloc hr.out (.cells #[.int .i64 (vx l (n - k)).1, .int .i64 (vx l (n - k)).2] 34))
      have BA := Lib.hid (Below.alloc hB hzB (.cells #[.int .i64 (vx l (n - k)).1, .int .i64 (vx l (n - k)).2] 34))
      clear hr
      go_wp2_with (at_builtin; refine wpList_append_own _ rfl (.tmp 16) (.tmp 21) 26 rfl w.heap.size 34 i0 (.agg #[.int .i64 0, .int .i64 0]) 2 16 Try.underlying26 HI.out.1 HI.out.2.1 HI.out.2.2.1 HI.out.2.2.2 rfl (by decide) _ k (flat (firsts (backF l) k)) rfl RA.out ⟨wo.heap.size, 0, none⟩ 1 1 [.int .i64 (vx l (n - k)).1, .int .i64 (vx l (n - k)).2] rfl rfl (two_cells (by go_simp) (by go_simp)) (two_one _ _) (by unfold maxLen; omega) (by omega) (by simp; omega) ?_)
      intro v' w1 hown hgr _
      rw [← hBk.out k] at hown
      have RB := row_push BA.out RA.out hown hgr
      have R1 := Lib.hid RB.1
      have B1 := RB.2
      clear RB hown hgr hq e2 e3 e4 e5
      go_wp2_with fail
      go_roundg (n + 1 - (k + 1))
      case measure => have := HGK.out; omega
      case rel => exact ⟨k + 1, _, rfl, by omega, by omega, rfl, by go_num, B1, R1⟩
    · have hkn : n = k := by omega
      subst hkn
      go_wp2_with fail
      go_ret
      exact retP_row hr.out hB
end Go.Proofs.Ytjkfdcjfoliboaa
