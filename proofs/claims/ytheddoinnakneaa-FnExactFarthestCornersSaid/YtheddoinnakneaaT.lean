/- contracts: the model's IsPolygon; arePegs -/
import Derived.Test.YtheddoinnakneaaQ
namespace Go.Proofs.Ytheddoinnakneaa
open Go.ChangeShapes Go.WideShapes Go.ChangeAt Go.RowKit Go.Joins
set_option linter.unusedVariables false
set_option linter.unusedSimpArgs false
set_option maxRecDepth 4000
/-- all of them are pegs -/
def pegsB (l : List (Int × Int)) : Bool := l.all isPg
theorem pegsB_iff (l : List (Int × Int)) : pegsB l = true ↔ ∀ i, i < l.length → isPg (vx l i) = true := by
  unfold pegsB
  rw [List.all_eq_true]
  constructor
  · intro h i hi
    exact h _ (List.mem_of_getElem? (vx_get hi))
  · intro h p hp
    obtain ⟨i, hi, rfl⟩ := List.mem_iff_getElem.1 hp
    have := h i hi
    have e := vx_get hi
    rw [List.getElem?_eq_getElem hi] at e
    injection e with e
    rw [e]; exact this
theorem arePegs_any (A : Option Addr) (c : Nat) (l : List (Int × Int)) (w : World) (hn : l.length ≤ 1048576) (hR : Rd w w.heap.size A l) :
    Calls Try.prog 86 #[.slice A l.length c] w fun e w' => e = .returned (.bool (pegsB l)) ∧ Below w.heap.size w w' := by
  have HR := Lib.hid hR
  clear hR
  have HI := Lib.hid (pegsB_iff l)
  have HF := Lib.hid (fun h : ¬ pegsB l = true => (by simpa using h : pegsB l = false))
  generalize hN : l.length = n at *
  have HN := Lib.hid hN
  clear hN
  go_enter Try.func86, Try.ntmps86
  go_wp2_with fail
  go_loopg [7] n (fun g i wr => ∃ k : Nat, k ≤ n ∧ g = n - k ∧ i = .int .i64 k ∧ Below w.heap.size w wr ∧ Hid (∀ j, j < k → isPg (vx l j) = true))
  case atStart => exact ⟨0, Nat.zero_le _, rfl, rfl, Below.refl _ _, Lib.hid (fun i h => absurd h (Nat.not_lt_zero _))⟩
  case round =>
    obtain ⟨k, hk, hg, rfl, hB, hF⟩ := hrel
    rename World => wo
    have HGK := Lib.hid hg
    clear hg
    by_cases hlt : k < n
    · obtain ⟨b, off, hA, hb, hcell⟩ := HR.out (by have := HN.out; omega)
      subst hA
      obtain ⟨hc1, hc2⟩ := hcell k _ (vx_get (by have := HN.out; omega))
      clear hcell HR
      have hq1 : wo.cell? ⟨b, off + k * 2, none⟩ = some (.int .i64 (vx l k).1) := (hB.cell (p := ⟨b, off + k * 2, none⟩) hb).trans hc1
      have hq2 : wo.cell? ⟨b, off + k * 2 + 1, none⟩ = some (.int .i64 (vx l k).2) := (hB.cell (p := ⟨b, off + k * 2 + 1, none⟩) hb).trans hc2
      clear hc1 hc2
      have K1 := Lib.hid (fun W => implIsPeg_any (vx l k).1 (vx l k).2 W)
      have hzB := hB.size
      by_cases hpg : isPegB (vx l k).1 (vx l k).2 = true
      · rw [hpg] at K1
        have hF2 : Hid (∀ j, j < k + 1 → isPg (vx l j) = true) := Lib.hid (fun j hj => by
          by_cases hjk : j = k
          · subst hjk; exact hpg
          · exact hF.out j (by omega))
        clear hpg hF
        go_wp2_with fail
        refine (K1.out _).mono ?_; rintro e w1 ⟨rfl, hb1⟩
        have B1 := (Below.alloc hB hzB (.cells #[.int .i64 (vx l k).1, .int .i64 (vx l k).2] 56)).trans (hb1.mono (by simp; omega))
        go_wp2_with fail
        go_roundg (n - (k + 1))
        case measure => have := HGK.out; omega
        case rel => exact ⟨k + 1, by omega, rfl, by go_num, B1, hF2⟩
      · have hpf : isPegB (vx l k).1 (vx l k).2 = false := by simpa using hpg
        rw [hpf] at K1
        have hng : Hid (pegsB l = false) := Lib.hid (HF.out (fun h => hpg (HI.out.1 h k (by have := HN.out; omega))))
        clear hpg hpf
        go_wp2_with fail
        refine (K1.out _).mono ?_; rintro e w1 ⟨rfl, hb1⟩
        have B1 := (Below.alloc hB hzB (.cells #[.int .i64 (vx l k).1, .int .i64 (vx l k).2] 56)).trans (hb1.mono (by simp; omega))
        go_wp2_with fail
        go_ret
        exact ⟨ret_bool hng.out.symm, B1⟩
    · have hkn : n = k := by omega
      subst hkn
      have hy : Hid (pegsB l = true) := Lib.hid (HI.out.2 (fun i hi => hF.out i (by have := HN.out; omega)))
      go_wp2_with fail
      go_ret
      exact ⟨ret_bool hy.out.symm, hB⟩
end Go.Proofs.Ytheddoinnakneaa
