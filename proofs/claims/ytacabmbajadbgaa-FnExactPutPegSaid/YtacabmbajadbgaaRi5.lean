/- contracts: AreAround, the model -/
import Derived.Test.YtacabmbajadbgaaRi4
import Derived.Test.YtacabmbajadbgaaA
namespace Go.Proofs.Ytacabmbajadbgaa
open Go.ChangeShapes Go.WideShapes Go.ChangeAt Go.RowKit Go.Joins
set_option linter.unusedVariables false
set_option linter.unusedSimpArgs false
set_option maxRecDepth 4000
set_option maxHeartbeats 1000000 in
theorem duNumber_any (A : Option Addr) (c n : Nat) (f : Nat → Int) (w : World) (hn : n ≤ 1048576) (hR : RdI w w.heap.size A n f) :
    Calls Try.prog 83 #[.slice A n c] w fun e w' => e = .returned (.bool (numB f n)) ∧ Below w.heap.size w w' := by
  have KI := Lib.hid (fun W => l1In_any (n : Int) 3 9 W)
  have KA := Lib.hid (fun W (hb : Below w.heap.size w W) => l1All_any A c n f (-6) 2 W hn (rdi_below hR hb (Nat.le_refl _)))
  by_cases hq : 3 ≤ n ∧ n ≤ 9
  · have e0 : numB f n = allIn (-6) 2 f n := by unfold numB; rw [show inQ 3 9 n = true by unfold inQ; simp; omega]; rfl
    rw [show (decide ((3 : Int) ≤ n) && decide ((n : Int) ≤ 9)) = true by simp; omega] at KI
    rw [e0]
    generalize allIn (-6) 2 f n = b at *
    clear e0 hR
    go_enter Try.func83, Try.ntmps83
    go_wp2_with fail
    refine (KI.out w).mono ?_; rintro e _ ⟨rfl, rfl⟩
    go_wp2_with fail
    refine (KA.out _ (Below.refl _ _)).mono ?_; rintro e w2 ⟨rfl, hb2⟩
    go_wp2_with fail
    go_ret
    exact ⟨rfl, hb2⟩
  · have e0 : numB f n = false := by unfold numB; rw [show inQ 3 9 n = false by unfold inQ; simp; omega]; rfl
    rw [show (decide ((3 : Int) ≤ n) && decide ((n : Int) ≤ 9)) = false by simp; omega] at KI
    rw [e0]
    clear e0 hR KA
    go_enter Try.func83, Try.ntmps83
    go_wp2_with fail
    refine (KI.out w).mono ?_; rintro e _ ⟨rfl, rfl⟩
    go_wp2_with fail
    go_ret
    exact ⟨rfl, (by repeat (first | exact Below.refl _ _ | assumption | apply Below.drew | refine Below.alloc ?_ (by simp <;> omega) _))⟩
end Go.Proofs.Ytacabmbajadbgaa
