/- contracts: squares on a board, both sides -/
import Derived.Test.YtmhdbodmpohdnaaOa
import Derived.Test.YtmhdbodmpohdnaaOc
namespace Go.Proofs.Ytmhdbodmpohdnaa
open Go.ChangeShapes Go.WideShapes Go.ChangeAt Go.RowKit Go.Joins
set_option linter.unusedVariables false
set_option linter.unusedSimpArgs false
set_option maxRecDepth 4000
def sqF (w h : Int) (s : Nat) : Int := (s : Int) * (w - (s : Int)) * (h - (s : Int))
/-- squares -/
def sqsN (w h : Int) : Int := sm (sqF w h) (min w h).toNat
theorem sqF_bd {w h : Int} (h1 : 1 ≤ w) (h2 : w ≤ 12) (h3 : 1 ≤ h) (h4 : h ≤ 12) {s : Nat} (hs : s < (min w h).toNat) :
    (0 ≤ (s : Int) * (w - (s : Int)) ∧ (s : Int) * (w - (s : Int)) ≤ 144) ∧ 0 ≤ sqF w h s ∧ sqF w h s ≤ 1728 := by
  have hs' : (s : Int) < min w h := by omega
  have a1 := mul_bd (x := (s : Int)) (y := w - (s : Int)) (m := 12) (n := 12) (by omega) (by omega) (by omega) (by omega)
  have a0 := Int.mul_nonneg (show 0 ≤ (s : Int) by omega) (show 0 ≤ w - (s : Int) by omega)
  have a3 := mul_bd (x := (s : Int) * (w - (s : Int))) (y := h - (s : Int)) (m := 144) (n := 12) (by omega) (by omega) (by omega) (by omega)
  have a2 := Int.mul_nonneg a0 (show 0 ≤ h - (s : Int) by omega)
  unfold sqF
  omega
theorem sqs_bd {w h : Int} (h1 : 1 ≤ w) (h2 : w ≤ 12) (h3 : 1 ≤ h) (h4 : h ≤ 12) {s : Nat} (hs : s ≤ (min w h).toNat) : 0 ≤ sm (sqF w h) s ∧ sm (sqF w h) s ≤ 20736 := by
  have := sm_bd (f := sqF w h) (c := 1728) (n := s) (fun i hi => (sqF_bd h1 h2 h3 h4 (by omega)).2)
  omega
set_option maxHeartbeats 2000000 in
theorem specCountSquares_any (w h : Int) (W : World) :
    Calls Try.prog 19 #[.int .i64 w, .int .i64 h] W fun e w' => e = .returned (.tuple #[.int .i64 (bdV (bdB 12 w h) (sqsN w h)), .bool (bdB 12 w h)]) ∧ Below W.heap.size W w' := by
  have K := Lib.hid (ctBoard_any w h 12 W)
  have KM := Lib.hid (fun W => l1Least_any w h W)
  by_cases hg : bdB 12 w h = true
  · obtain ⟨h1, h2, h3, h4⟩ := bdB_true hg
    have HF := Lib.hid (fun s hs => sqF_bd h1 h2 h3 h4 (s := s) hs)
    have HS := Lib.hid (fun s hs => sqs_bd h1 h2 h3 h4 (s := s) hs)
    rw [hg] at K ⊢
    rw [bdV_t]
    unfold sqsN
    obtain ⟨m, hm⟩ : ∃ m : Int, m = min w h := ⟨_, rfl⟩
    rw [← hm] at KM HF HS ⊢
    have hm1 : 1 ≤ m := by omega
    have hm2 : m ≤ 12 := by omega
    have hm3 : m ≤ w := by omega
    have hm4 : m ≤ h := by omega
    clear hg hm
    go_enter Try.func19, Try.ntmps19
    go_wp2_with fail
    refine K.out.mono ?_; rintro e w1 ⟨rfl, hb1⟩
    go_wp2_with fail
    go_loopg [6, 7] (m.toNat) (fun g n s wr => ∃ k : Nat, 1 ≤ k ∧ k ≤ m.toNat ∧ g = m.toNat + 1 - k ∧ s = .int .i64 k ∧ n = .int .i64 (sm (sqF w h) k) ∧ Below W.heap.size W wr)
    case atStart => exact ⟨1, Nat.le_refl _, by omega, by omega, rfl, by simp [sm, sqF], hb1⟩
    case round =>
      obtain ⟨k, hk1, hk, hg, rfl, rfl, hB⟩ := hrel
      rename World => wo
      have HGK := Lib.hid hg
      clear hg hb1
      obtain ⟨s1, s2⟩ := HS.out k hk
      by_cases hlt : (k : Int) < m
      · obtain ⟨⟨f1, f2⟩, f3, f4⟩ := HF.out k (by omega)
        have HN : Hid (sm (sqF w h) (k + 1) = sm (sqF w h) k + (k : Int) * (w - (k : Int)) * (h - (k : Int))) := Lib.hid rfl
        unfold sqF at f3 f4
        generalize sm (sqF w h) k = t at *
        go_wp2_with fail
        refine (KM.out _).mono ?_; rintro e _ ⟨rfl, rfl⟩
        go_wp2_with fail
        go_roundg (m.toNat + 1 - (k + 1))
        case measure => have := HGK.out; omega
        case rel => exact ⟨k + 1, by omega, by omega, rfl, by go_num, by rw [HN.out], hB⟩
      · obtain rfl : m.toNat = k := by omega
        go_wp2_with fail
        refine (KM.out _).mono ?_; rintro e _ ⟨rfl, rfl⟩
        go_wp2_with fail
        go_ret2
        exact ⟨rfl, hB⟩
  · have hf : bdB 12 w h = false := by simpa using hg
    rw [hf] at K ⊢
    rw [bdV_f]
    clear hg hf KM
    go_enter Try.func19, Try.ntmps19
    go_wp2_with fail
    refine K.out.mono ?_; rintro e w1 ⟨rfl, hb1⟩
    go_wp2_with fail
    go_ret2
    exact ⟨rfl, hb1⟩
set_option maxHeartbeats 2000000 in
theorem implCountSquares_any (w h : Int) (W : World) :
    Calls Try.prog 20 #[.int .i64 w, .int .i64 h] W fun e w' => e = .returned (.tuple #[.int .i64 (bdV (bdB 12 w h) (sqsN w h)), .bool (bdB 12 w h)]) ∧ Below W.heap.size W w' := by
  by_cases hg : bdB 12 w h = true
  · have K := Lib.hid (boardUpTo_t 12 w h W hg)
    obtain ⟨h1, h2, h3, h4⟩ := bdB_true hg
    have HF := Lib.hid (fun s hs => sqF_bd h1 h2 h3 h4 (s := s) hs)
    have HS := Lib.hid (fun s hs => sqs_bd h1 h2 h3 h4 (s := s) hs)
    have HMI : ∀ x y : Int, (if y < x then y else x) = min x y := fun x y => by omega
    rw [hg, bdV_t]
    unfold sqsN
    obtain ⟨m, hm⟩ : ∃ m : Int, m = min w h := ⟨_, rfl⟩
    have HMM := Lib.hid hm
    rw [← hm] at HF HS ⊢
    have hm1 : 1 ≤ m := by omega
    have hm2 : m ≤ 12 := by omega
    have hm3 : m ≤ w := by omega
    have hm4 : m ≤ h := by omega
    clear hg hm
    go_enter Try.func20, Try.ntmps20
    go_wp2_with fail
    refine K.out.mono ?_; rintro e w1 ⟨rfl, hb1⟩
    have BA := Below.alloc hb1 hb1.size (.cells #[.int .i64 w, .int .i64 h] 34)
    go_wp2_with fail
    go_loopg [8, 9] (m.toNat) (fun g n s wr => ∃ k : Nat, 1 ≤ k ∧ k ≤ m.toNat ∧ g = m.toNat + 1 - k ∧ s = .int .i64 k ∧ n = .int .i64 (sm (sqF w h) k) ∧ Below W.heap.size W wr)
    case atStart => exact ⟨1, Nat.le_refl _, by omega, by omega, rfl, by simp [sm, sqF], BA⟩
    case round =>
      obtain ⟨k, hk1, hk, hg, rfl, rfl, hB⟩ := hrel
      rename World => wo
      have HGK := Lib.hid hg
      clear hg hb1 BA
      obtain ⟨s1, s2⟩ := HS.out k hk
      have hmm : min w h = m := HMM.out.symm
      by_cases hlt : (k : Int) < m
      · obtain ⟨⟨f1, f2⟩, f3, f4⟩ := HF.out k (by omega)
        have HN : Hid (sm (sqF w h) (k + 1) = sm (sqF w h) k + (k : Int) * (w - (k : Int)) * (h - (k : Int))) := Lib.hid rfl
        unfold sqF at f3 f4
        generalize sm (sqF w h) k = t at *
        go_wp2_with fail
        go_roundg (m.toNat + 1 - (k + 1))
        case measure => have := HGK.out; omega
        case rel => exact ⟨k + 1, by omega, by omega, rfl, by go_num, by rw [HN.out], hB⟩
      · obtain rfl : m.toNat = k := by omega
        go_wp2_with fail
        go_ret2
        exact ⟨rfl, hB⟩
  · have hf : bdB 12 w h = false := by simpa using hg
    have K := Lib.hid (boardUpTo_f 12 w h W hf)
    rw [hf, bdV_f]
    clear hg hf
    go_enter Try.func20, Try.ntmps20
    go_wp2_with fail
    refine K.out.mono ?_; rintro e w1 ⟨rfl, hb1⟩
    have BA := Below.alloc hb1 hb1.size (.cells #[.int .i64 0, .int .i64 0] 34)
    go_wp2_with fail
    go_ret2
    exact ⟨rfl, BA⟩
end Go.Proofs.Ytmhdbodmpohdnaa
