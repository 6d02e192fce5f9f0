/- contracts: AreAround, the program -/
import Derived.Test.YtchdpcndhgjkpaaRi2
import Derived.Test.YtchdpcndhgjkpaaRi3
namespace Go.Proofs.Ytchdpcndhgjkpaa
open Go.ChangeShapes Go.WideShapes Go.ChangeAt Go.RowKit Go.Joins
set_option linter.unusedVariables false
set_option linter.unusedSimpArgs false
set_option maxRecDepth 4000
theorem dmk_congr {F G : Nat → Int} {c : Nat} (h : ∀ i, i < c → F i = G i) (hc : 0 < c) : ∀ i, dmk F c i = dmk G c i ∧ dmk F c (i + 1) = dmk G c (i + 1) := by
  intro i
  induction i with
  | zero => exact ⟨rfl, rfl⟩
  | succ i ih =>
    refine ⟨ih.2, ?_⟩
    show (F ((i + 1) % c) * (dmk F c (i + 1)).1 - (dmk F c i).1, F ((i + 1) % c) * (dmk F c (i + 1)).2 - (dmk F c i).2) = (G ((i + 1) % c) * (dmk G c (i + 1)).1 - (dmk G c i).1, G ((i + 1) % c) * (dmk G c (i + 1)).2 - (dmk G c i).2)
    rw [ih.1, ih.2, h _ (Nat.mod_lt _ hc)]
theorem sN_congr {F G : Nat → Int} {c : Nat} (h : ∀ i, i < c → F i = G i) : sN F c = sN G c := by
  induction c with
  | zero => rfl
  | succ c ih => show sN F c + F c = sN G c + G c; rw [ih (fun i hi => h i (by omega)), h c (by omega)]
theorem arI_congr {F G : Nat → Int} {c : Nat} (h : ∀ i, i < c → F i = G i) (hc : 0 < c) : arI F c = arI G c := by
  unfold arI
  rw [(dmk_congr h hc c).1, (dmk_congr h hc c).2, sN_congr h]
theorem allIn_six {f : Nat → Int} {n : Nat} (h : allIn (-6) 2 f n = true) : ∀ i, i < n → -6 ≤ f i ∧ f i ≤ 2 := by
  intro i hi
  by_cases hq : inQ (-6) 2 (f i) = true
  · unfold inQ at hq
    simpa [Bool.and_eq_true] using hq
  · rw [allIn_false hi (by simpa using hq)] at h; cases h
theorem numB_T {f : Nat → Int} {n : Nat} (h : numB f n = true) : 3 ≤ n ∧ n ≤ 9 ∧ Six f n := by
  unfold numB at h
  simp only [Bool.and_eq_true] at h
  have h1 := h.1
  unfold inQ at h1
  simp only [Bool.and_eq_true, decide_eq_true_eq] at h1
  exact ⟨by omega, by omega, fun i hi => by have := allIn_six h.2 i hi; omega⟩
theorem cF_eq (f : Nat → Int) (n : Nat) : ∀ i, i < n → cF f n i = f i := fun i hi => by unfold cF; rw [if_pos hi]
def arB2 (f : Nat → Int) (n : Nat) : Bool := numB f n && arI f n
set_option maxHeartbeats 1000000 in
theorem implAreAround_any (A : Option Addr) (c n : Nat) (f : Nat → Int) (w : World) (hn : n ≤ 1048576) (hR : RdI w w.heap.size A n f) :
    Calls Try.prog 30 #[.slice A n c] w fun e w' => e = .returned (.tuple #[.bool (arB2 f n), .bool (numB f n)]) ∧ Below w.heap.size w w' := by
  have K := Lib.hid (ringOf_any A c n f w hn hR)
  unfold arB2
  cases hb : numB f n
  · rw [hb] at K
    have K' : Hid (Calls Try.prog 46 #[.slice A n c] w fun e w' => e = .returned (.tuple #[.agg #[.int .i64 0, .int .i64 0, .int .i64 0, .int .i64 0, .int .i64 0, .int .i64 0, .int .i64 0, .int .i64 0, .int .i64 0, .int .i64 0], .bool false]) ∧ Below w.heap.size w w') := Lib.hid K.out
    clear K hb hR
    go_enter Try.func30, Try.ntmps30
    go_wp2_with fail
    refine K'.out.mono ?_; rintro e w1 ⟨rfl, hb1⟩
    go_wp2_with fail
    go_ret2
    exact ⟨rfl, by repeat (first | with_reducible assumption | with_reducible exact Below.refl _ _ | with_reducible apply Below.drew | ((with_reducible refine Below.setCell ?_ ?_ _); rotate_left; (first | exact Nat.le_refl _ | omega | (simp <;> omega))) | ((with_reducible refine Below.alloc ?_ hb1.size _)) | ((with_reducible refine Below.alloc ?_ ?_ _); rotate_left; (first | exact hb1.size | omega | (simp <;> omega))))⟩
  · rw [hb] at K
    obtain ⟨h3, h9, h6⟩ := numB_T hb
    have K' : Hid (Calls Try.prog 46 #[.slice A n c] w fun e w' => e = .returned (.tuple #[rv (cF f n) n, .bool true]) ∧ Below w.heap.size w w') := Lib.hid K.out
    have hs : Six (cF f n) n := fun i hi => by rw [cF_eq f n i hi]; exact h6 i hi
    have KA := Lib.hid (fun W => isAround_any (cF f n) n W h3 h9 hs)
    rw [arI_congr (cF_eq f n) (by omega)] at KA
    unfold rv at K' KA
    generalize arI f n = ans at *
    clear K hb hR h6 hs
    go_enter Try.func30, Try.ntmps30
    go_wp2_with fail
    refine K'.out.mono ?_; rintro e w1 ⟨rfl, hb1⟩
    go_wp2_with fail
    have B2 := Below.alloc hb1 hb1.size (.cells #[.int .i64 (cF f n 0), .int .i64 (cF f n 1), .int .i64 (cF f n 2), .int .i64 (cF f n 3), .int .i64 (cF f n 4), .int .i64 (cF f n 5), .int .i64 (cF f n 6), .int .i64 (cF f n 7), .int .i64 (cF f n 8), .int .i64 n] 62)
    refine (KA.out _).mono ?_; rintro e w3 ⟨rfl, hb3⟩
    have B3 := B2.trans (hb3.mono B2.size)
    clear hb3 B2
    go_wp2_with fail
    go_ret2
    exact ⟨rfl, B3⟩
end Go.Proofs.Ytchdpcndhgjkpaa
