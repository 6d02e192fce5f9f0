/- contracts: AreAround, the model -/
import Derived.Test.YtchdpcndhgjkpaaRi4
import Derived.Test.YtchdpcndhgjkpaaA
namespace Go.Proofs.Ytchdpcndhgjkpaa
open Go.ChangeShapes Go.WideShapes Go.ChangeAt Go.RowKit Go.Joins
set_option linter.unusedVariables false
set_option linter.unusedSimpArgs false
set_option maxRecDepth 4000
set_option maxHeartbeats 1000000 in
theorem duNumber_any (A : Option Addr) (c n : Nat) (f : Nat → Int) (w : World) (hn : n ≤ 1048576) (hR : RdI w w.heap.size A n f) :
    Calls Try.prog 44 #[.slice A n c] w fun e w' => e = .returned (.bool (numB f n)) ∧ Below w.heap.size w w' := by
  have KI := Lib.hid (fun W => l1In_any (n : Int) 3 9 W)
  have KA := Lib.hid (fun W (hb : Below w.heap.size w W) => l1All_any A c n f (-6) 2 W hn (rdi_below hR hb (Nat.le_refl _)))
  by_cases hq : 3 ≤ n ∧ n ≤ 9
  · have e0 : numB f n = allIn (-6) 2 f n := by unfold numB; rw [show inQ 3 9 n = true by unfold inQ; simp; omega]; rfl
    rw [show (decide ((3 : Int) ≤ n) && decide ((n : Int) ≤ 9)) = true by simp; omega] at KI
    rw [e0]
    generalize allIn (-6) 2 f n = b at *
    clear e0 hR
    go_enter Try.func44, Try.ntmps44
    go_wp2_with fail
    refine (KI.out w).mono ?_; rintro e _ ⟨rfl, rfl⟩
    go_wp2_with fail
    refine (KA.out _ (Below.refl _ _)).mono ?_; rintro e w2 ⟨rfl, hb2⟩
    go_wp2_with fail
    go_ret
    exact ⟨rfl, hb2⟩
  · have e0 : numB f n = false := by unfold numB; rw [show inQ 3 9 n = false by unfold inQ; simp; omega]; rfl
    rw [show (decide ((3 : Int) ≤ n) && decide ((n : Int) ≤ 9)) = false by simp; omega] at KI
    rw [e0]
    clear e0 hR KA
    go_enter Try.func44, Try.ntmps44
    go_wp2_with fail
    refine (KI.out w).mono ?_; rintro e _ ⟨rfl, rfl⟩
    go_wp2_with fail
    go_ret
    exact ⟨rfl, (by repeat (first | exact Below.refl _ _ | assumption | apply Below.drew | refine Below.alloc ?_ (by simp <;> omega) _))⟩
set_option maxHeartbeats 1000000 in
theorem duSum_any (A : Option Addr) (c n : Nat) (f : Nat → Int) (w : World) (hn : n ≤ 9) (h6 : Six f n) (hR : RdI w w.heap.size A n f) :
    Calls Try.prog 68 #[.slice A n c] w fun e w' => e = .returned (.int .i64 (sN f n)) ∧ Below w.heap.size w w' := by
  have HR := Lib.hid (fun W (hb : Below w.heap.size w W) => rdi_below hR hb (Nat.le_refl _))
  have HB := Lib.hid (fun k (hk : k ≤ n) => sN_bd (F := f) (n := k) (fun i hi => h6 i (by omega)))
  have HF := Lib.hid h6
  have HS : Hid (∀ k, sN f (k + 1) = sN f k + f k) := Lib.hid (fun _ => rfl)
  have H0 : Hid (sN f 0 = 0) := Lib.hid rfl
  clear hR h6
  go_enter Try.func68, Try.ntmps68
  go_wp2_with fail
  go_loopg [3, 8] n (fun gg s x wr => ∃ k : Nat, k ≤ n ∧ gg = n - k ∧ x = .int .i64 k ∧ s = .int .i64 (sN f k) ∧ Below w.heap.size w wr)
  case atStart => exact ⟨0, Nat.zero_le _, rfl, rfl, by rw [H0.out], Below.refl _ _⟩
  case round =>
    obtain ⟨k, hk, hgg, rfl, rfl, hB⟩ := hrel
    rename World => wo
    have HGK := Lib.hid hgg
    clear hgg
    by_cases hlt : k < n
    · obtain ⟨ba, off, rfl, hb, hc⟩ := HR.out wo hB (by omega)
      have x0 := hc k hlt
      have b1 := HB.out k (by omega)
      have b2 := HF.out k hlt
      have hS := HS.out k
      generalize f k = x at *
      generalize hsk : sN f k = sk at *
      have i1 : IntKind.i64.wrap (sk + x) = sk + x := IntWalk.i64_in _ (by omega)
      clear b1 b2 hsk hc HR
      go_wp2_with fail
      go_roundg (n - (k + 1))
      case measure => have := HGK.out; omega
      case rel => exact ⟨k + 1, by omega, rfl, by go_num, by rw [hS], hB⟩
    · obtain rfl : k = n := by omega
      clear HR
      go_wp2_with fail
      go_ret
      exact ⟨rfl, hB⟩
end Go.Proofs.Ytchdpcndhgjkpaa
