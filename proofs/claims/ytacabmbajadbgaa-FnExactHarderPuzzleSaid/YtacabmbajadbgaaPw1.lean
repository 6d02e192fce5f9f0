/- contracts: how many pegs fit some of the clues; the least of a list of numbers, and its index -/
import Derived.Test.YtacabmbajadbgaaPw0
namespace Go.Proofs.Ytacabmbajadbgaa
open Go.ChangeShapes Go.WideShapes Go.ChangeAt Go.RowKit Go.Joins
set_option linter.unusedVariables false
set_option linter.unusedSimpArgs false
set_option maxRecDepth 4000
theorem puzB_part {s : Int} {n : Nat} {f : Nat → Int} (h : puzB s n f = true) {a b : Nat} (hbn : b ≤ n) : puzB s (b - a) (fun i => f (a * 4 + i)) = true := by
  obtain ⟨h1, h2, h3, h4⟩ := puzB_t h
  have e : inQ 1 12 s = true := by unfold inQ; simp [h1, h2]
  have e2 : allC s (fun i => f (a * 4 + i)) (b - a) = true := (allC_iff _ _ _).2 (fun i hi => by
    have := h4 (a + i) (by omega)
    rw [show (a + i) * 4 = a * 4 + i * 4 by omega, show a * 4 + i * 4 + 1 = a * 4 + (i * 4 + 1) by omega, show a * 4 + i * 4 + 2 = a * 4 + (i * 4 + 2) by omega, show a * 4 + i * 4 + 3 = a * 4 + (i * 4 + 3) by omega] at this
    exact this)
  unfold puzB
  rw [e, e2]
  simp
  omega
theorem rdi_part {w : World} {B bk off n a b : Nat} {A' : Option Addr} {f : Nat → Int} (h : RdI w B (some ⟨bk, off, none⟩) (n * 4) f) (hA : a < b → A' = some ⟨bk, off + a * 4, none⟩) (hbn : b ≤ n) : RdI w B A' ((b - a) * 4) (fun i => f (a * 4 + i)) := by
  intro h0
  obtain ⟨b', o', e, hb, hc⟩ := h (by omega)
  injection e with e
  injection e with e1 e2
  subst e1 e2
  exact ⟨bk, off + a * 4, hA (by omega), hb, fun i hi => by
    have := hc (a * 4 + i) (by omega)
    rw [← Nat.add_assoc] at this
    exact this⟩
/-- the pegs that fit the clues a to b - 1 -/
noncomputable def solC (ns : Nat) (f : Nat → Int) (a b : Nat) : List (Int × Int) := solK (fun i => f (a * 4 + i)) (b - a) (ns + 1) ((ns + 1) * (ns + 1))
theorem solC_len {ns : Nat} (h : ns ≤ 12) (f : Nat → Int) (a b : Nat) : (solC ns f a b).length ≤ 169 := by
  have h1 := solK_len (fun i => f (a * 4 + i)) (b - a) (ns + 1) ((ns + 1) * (ns + 1))
  have h2 : (ns + 1) * (ns + 1) ≤ 13 * 13 := Nat.mul_le_mul (by omega) (by omega)
  unfold solC
  omega
/-- the first index of the least number so far, and that number -/
def bst (g : Nat → Nat) : Nat → Nat × Nat
  | 0 => (0, 0)
  | k + 1 => if k = 0 ∨ g k < (bst g k).2 then (k, g k) else bst g k
def mnN (g : Nat → Nat) : Nat → Nat
  | 0 => g 0
  | k + 1 => min (mnN g k) (g k)
theorem bst_is (g : Nat → Nat) : ∀ n, 0 < n → (bst g n).1 < n ∧ g (bst g n).1 = (bst g n).2 ∧ (∀ j, j < n → (bst g n).2 ≤ g j) ∧ ∀ j, j < (bst g n).1 → (bst g n).2 < g j
  | 0, h => absurd h (Nat.lt_irrefl _)
  | k + 1, _ => by
    unfold bst
    split
    · rename_i hc
      refine ⟨Nat.lt_succ_self k, rfl, fun j hj => ?_, fun j hj => ?_⟩
      · rcases Nat.lt_or_ge j k with h | h
        · rcases hc with hc | hc
          · omega
          · have := (bst_is g k (by omega)).2.2.1 j h
            simp only
            omega
        · obtain rfl : j = k := by omega
          exact Nat.le_refl _
      · simp only at hj ⊢
        rcases hc with hc | hc
        · omega
        · have := (bst_is g k (by omega)).2.2.1 j hj
          omega
    · rename_i hc
      have hk : 0 < k := by omega
      obtain ⟨h1, h2, h3, h4⟩ := bst_is g k hk
      refine ⟨by omega, h2, fun j hj => ?_, h4⟩
      rcases Nat.lt_or_ge j k with h | h
      · exact h3 j h
      · obtain rfl : j = k := by omega
        omega
theorem mn_le (g : Nat → Nat) : ∀ n j, j < n → mnN g n ≤ g j
  | 0, j, h => absurd h (Nat.not_lt_zero _)
  | k + 1, j, h => by
    rw [mnN]
    rcases Nat.lt_or_ge j k with g1 | g1
    · have := mn_le g k j g1; omega
    · obtain rfl : j = k := by omega
      omega
theorem mn_ge (g : Nat → Nat) (x : Nat) : ∀ n, x ≤ g 0 → (∀ j, j < n → x ≤ g j) → x ≤ mnN g n
  | 0, h, _ => h
  | k + 1, h, h2 => by
    have := mn_ge g x k h (fun j hj => h2 j (by omega))
    have := h2 k (by omega)
    rw [mnN]
    omega
theorem mn_is (g : Nat → Nat) {n : Nat} (h : 0 < n) : mnN g n = (bst g n).2 := by
  obtain ⟨h1, h2, h3, h4⟩ := bst_is g n h
  have a := mn_le g n _ h1
  have b := mn_ge g (bst g n).2 n (h3 0 h) h3
  omega
theorem min_ifN (x y : Nat) : (if (y : Int) < (x : Int) then Value.int .i64 (y : Int) else Value.int .i64 (x : Int)) = Value.int .i64 ((min x y : Nat) : Int) := by
  split
  · rw [Nat.min_eq_right (by omega)]
  · rw [Nat.min_eq_left (by omega)]
theorem min_ifI (x y : Nat) : (if (y : Int) < (x : Int) then (y : Int) else (x : Int)) = ((min x y : Nat) : Int) := by
  split
  · rw [Nat.min_eq_right (by omega)]
  · rw [Nat.min_eq_left (by omega)]
set_option maxHeartbeats 1000000 in
theorem slMin_any (bk c n : Nat) (g : Nat → Nat) (w : World) (h0 : 0 < n) (hn : n ≤ 1048576) (hR : RdI w w.heap.size (some ⟨bk, 0, none⟩) n (fun i => (g i : Int))) :
    Calls Try.prog 69 #[.slice (some ⟨bk, 0, none⟩) n c] w fun e w' => e = .returned (.int .i64 (mnN g n : Int)) ∧ Below w.heap.size w w' := by
  obtain ⟨b, off, e, hb, hc⟩ := hR h0
  injection e with e
  injection e with e1 e2
  subst e1 e2
  have HC := Lib.hid hc
  have hx0 := hc 0 h0
  simp only [Nat.zero_add] at hx0
  have hm0 : Hid ((g 0 : Int) = (mnN g 1 : Int)) := Lib.hid (by simp [mnN])
  have HS : Hid (∀ k, ((min (mnN g k) (g k) : Nat) : Int) = (mnN g (k + 1) : Int)) := Lib.hid (fun k => rfl)
  have h1 : ¬ ((n : Int) < 1) := by omega
  have h2 : (0 : Int) < (n : Int) := by omega
  clear hc
  go_enter Try.func69, Try.ntmps69
  go_wp2_with fail
  go_loopg [3, 4] n (fun gg a i wr => ∃ k : Nat, 1 ≤ k ∧ k ≤ n ∧ gg = n + 1 - k ∧ i = .int .i64 (k : Int) ∧ a = .int .i64 (mnN g k : Int) ∧ Below w.heap.size w wr)
  case atStart => exact ⟨1, by omega, by omega, by omega, rfl, by rw [hm0.out], by repeat (first | exact Below.refl _ _ | apply Below.drew)⟩
  case round =>
    obtain ⟨k, hk1, hk, hgg, rfl, rfl, hB⟩ := hrel
    rename World => wo
    have HGK := Lib.hid hgg
    clear hgg
    by_cases hlt : k < n
    · have q := (hB.cell (p := ⟨bk, 0 + k, none⟩) hb).trans (HC.out k hlt)
      rw [Nat.zero_add] at q
      have hbo := Nat.lt_of_lt_of_le hb hB.size
      have s1 := HS.out k
      have M1 : Hid ((g k : Int) < (mnN g k : Int) → (g k : Int) = (mnN g (k + 1) : Int)) := Lib.hid (fun h => by rw [← s1]; omega)
      have M2 : Hid (¬ (g k : Int) < (mnN g k : Int) → (mnN g k : Int) = (mnN g (k + 1) : Int)) := Lib.hid (fun h => by rw [← s1]; omega)
      clear s1
      obtain ⟨m2, hm2⟩ : ∃ m2, m2 = mnN g (k + 1) := ⟨_, rfl⟩
      rw [← hm2] at M1 M2
      have HM := Lib.hid hm2
      clear hm2
      generalize mnN g k = m1 at *
      generalize g k = gk at *
      by_cases hc : (gk : Int) < (m1 : Int)
      · have M := Lib.hid (M1.out hc)
        go_wp2_with fail
        go_roundg (n + 1 - (k + 1))
        case measure => have := HGK.out; omega
        case rel => exact ⟨k + 1, by omega, by omega, rfl, by go_num, by rw [M.out, HM.out], hB⟩
      · have M := Lib.hid (M2.out hc)
        go_wp2_with fail
        go_roundg (n + 1 - (k + 1))
        case measure => have := HGK.out; omega
        case rel => exact ⟨k + 1, by omega, by omega, rfl, by go_num, by rw [M.out, HM.out], hB⟩
    · obtain rfl : k = n := by omega
      go_wp2_with fail
      go_ret
      exact ⟨rfl, hB⟩
set_option maxHeartbeats 1000000 in
theorem slIndex_any (bk c n r : Nat) (g : Nat → Nat) (v : Nat) (w : World) (hr : r < n) (hv : g r = v) (hne : ∀ j, j < r → g j ≠ v) (hn : n ≤ 1048576) (hR : RdI w w.heap.size (some ⟨bk, 0, none⟩) n (fun i => (g i : Int))) :
    Calls Try.prog 68 #[.slice (some ⟨bk, 0, none⟩) n c, .int .i64 (v : Int)] w fun e w' => e = .returned (.int .i64 (r : Int)) ∧ Below w.heap.size w w' := by
  obtain ⟨b, off, e, hb, hc⟩ := hR (by omega)
  injection e with e
  injection e with e1 e2
  subst e1 e2
  have HC := Lib.hid hc
  have HN := Lib.hid hne
  have HV := Lib.hid hv
  clear hc hne hv
  go_enter Try.func68, Try.ntmps68
  go_wp2_with fail
  go_loopg [8] n (fun gg i wr => ∃ k : Nat, k ≤ r ∧ gg = n - k ∧ i = .int .i64 (k : Int) ∧ Below w.heap.size w wr)
  case atStart => exact ⟨0, Nat.zero_le _, rfl, rfl, by repeat (first | exact Below.refl _ _ | apply Below.drew)⟩
  case round =>
    obtain ⟨k, hk, hgg, rfl, hB⟩ := hrel
    rename World => wo
    have HGK := Lib.hid hgg
    clear hgg
    have hlt : k < n := by omega
    have q := (hB.cell (p := ⟨bk, 0 + k, none⟩) hb).trans (HC.out k hlt)
    rw [Nat.zero_add] at q
    have hbo := Nat.lt_of_lt_of_le hb hB.size
    by_cases hkr : k = r
    · subst hkr
      rw [HV.out] at q
      go_wp2_with fail
      go_ret
      exact ⟨rfl, hB⟩
    · have hne := HN.out k (by omega)
      have hne2 : ¬ (v : Int) = (g k : Int) := by omega
      generalize g k = gk at *
      clear hne
      go_wp2_with fail
      go_roundg (n - (k + 1))
      case measure => have := HGK.out; omega
      case rel => exact ⟨k + 1, by omega, rfl, by go_num, hB⟩
end Go.Proofs.Ytacabmbajadbgaa
