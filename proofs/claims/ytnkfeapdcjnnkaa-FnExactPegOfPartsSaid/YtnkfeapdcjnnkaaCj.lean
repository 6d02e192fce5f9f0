/- contract: PegOfParts, the model, at a triangle and three numbers -/
import Derived.Test.YtnkfeapdcjnnkaaCe
import Derived.Test.YtnkfeapdcjnnkaaCi
import Derived.BigRegion
namespace Go.Proofs.Ytnkfeapdcjnnkaa
open Go.ChangeShapes Go.WideShapes Go.ChangeAt Go.RowKit Go.Joins
set_option linter.unusedVariables false
set_option linter.unusedSimpArgs false
def numB (x : Int) : Bool := decide (-1000000 ≤ x) && decide (x ≤ 1000000)
def pqB (x y z T X Y : Int) : Bool := (numB x && (numB y && numB z)) && (decide (x + y + z = T) && (decide (X.tmod T = 0) && (decide (Y.tmod T = 0) && isPegB (X.tdiv T) (Y.tdiv T))))
/-- three numbers in memory -/
def Ri3 (w : World) (b off : Nat) (x y z : Int) : Prop := w.cell? ⟨b, off, none⟩ = some (.int .i64 x) ∧ w.cell? ⟨b, off + 1, none⟩ = some (.int .i64 y) ∧ w.cell? ⟨b, off + 2, none⟩ = some (.int .i64 z)
theorem ri3_of {w : World} {A : Option Addr} {f : Nat → Int} (h : RdI w w.heap.size A 3 f) : ∃ b off, A = some ⟨b, off, none⟩ ∧ b < w.heap.size ∧ Hid (∀ W, Below w.heap.size w W → Ri3 W b off (f 0) (f 1) (f 2)) := by
  obtain ⟨b, off, e, hb, hc⟩ := h (by omega)
  refine ⟨b, off, e, hb, Lib.hid fun W hW => ?_⟩
  have c := fun o => hW.cell (p := ⟨b, o, none⟩) hb
  exact ⟨(c _).trans (hc 0 (by omega)), (c _).trans (hc 1 (by omega)), (c _).trans (hc 2 (by omega))⟩
set_option maxHeartbeats 1000000 in
theorem l1All3_any (b off c : Nat) (x y z : Int) (w : World) (hb : b < w.heap.size) (H : Hid (∀ W, Below w.heap.size w W → Ri3 W b off x y z)) :
    Calls Try.prog 54 #[.slice (some ⟨b, off, none⟩) 3 c, .int .i64 (-1000000), .int .i64 1000000] w fun e w' => e = .returned (.bool (numB x && (numB y && numB z))) ∧ Below w.heap.size w w' := by
  have KI := Lib.hid (fun n W => l1In_any n (-1000000) 1000000 W)
  go_enter Try.func54, Try.ntmps54
  go_wp2_with fail
  go_loopg [11] 3 (fun g i wr => ∃ k : Nat, k ≤ 3 ∧ g = 3 - k ∧ i = .int .i64 k ∧ Below w.heap.size w wr ∧ Hid ((0 < k → numB x = true) ∧ (1 < k → numB y = true) ∧ (2 < k → numB z = true)))
  case atStart => exact ⟨0, Nat.zero_le _, rfl, rfl, Below.refl _ _, Lib.hid ⟨fun h => absurd h (by omega), fun h => absurd h (by omega), fun h => absurd h (by omega)⟩⟩
  case round =>
    obtain ⟨k, hk, hg, rfl, hB, hF⟩ := hrel
    rename World => wo
    obtain ⟨x0, x1, x2⟩ := H.out wo hB
    have hz : b < wo.heap.size := by have := hB.size; omega
    rcases (show k = 0 ∨ k = 1 ∨ k = 2 ∨ k = 3 by omega) with rfl | rfl | rfl | rfl
    · by_cases hn : numB x = true
      · have HN := Lib.hid hn
        unfold numB at hn
        have F2 := Lib.hid (show ((0 < 1 → numB x = true) ∧ (1 < 1 → numB y = true) ∧ (2 < 1 → numB z = true)) from ⟨fun _ => HN.out, fun h => absurd h (by omega), fun h => absurd h (by omega)⟩)
        go_wp2_with fail
        refine (KI.out _ _).mono ?_; rintro e _ ⟨rfl, rfl⟩
        rw [hn]
        clear hn
        go_wp2_with fail
        go_roundg (3 - (0 + 1))
        case measure => omega
        case rel => exact ⟨0 + 1, by omega, rfl, by go_num, hB, F2⟩
      · have hn2 : numB x = false := by simpa using hn
        have HN := Lib.hid hn2
        unfold numB at hn2
        clear hn
        go_wp2_with fail
        refine (KI.out _ _).mono ?_; rintro e _ ⟨rfl, rfl⟩
        rw [hn2]
        clear hn2
        go_wp2_with fail
        go_ret
        exact ⟨by rw [HN.out]; rfl, hB⟩
    · by_cases hn : numB y = true
      · have HN := Lib.hid hn
        unfold numB at hn
        have F2 := Lib.hid (show ((0 < 2 → numB x = true) ∧ (1 < 2 → numB y = true) ∧ (2 < 2 → numB z = true)) from ⟨fun _ => hF.out.1 (by omega), fun _ => HN.out, fun h => absurd h (by omega)⟩)
        go_wp2_with fail
        refine (KI.out _ _).mono ?_; rintro e _ ⟨rfl, rfl⟩
        rw [hn]
        clear hn
        go_wp2_with fail
        go_roundg (3 - (1 + 1))
        case measure => omega
        case rel => exact ⟨1 + 1, by omega, rfl, by go_num, hB, F2⟩
      · have hn2 : numB y = false := by simpa using hn
        have HN := Lib.hid hn2
        unfold numB at hn2
        clear hn
        go_wp2_with fail
        refine (KI.out _ _).mono ?_; rintro e _ ⟨rfl, rfl⟩
        rw [hn2]
        clear hn2
        go_wp2_with fail
        go_ret
        exact ⟨by rw [HN.out]; simp, hB⟩
    · by_cases hn : numB z = true
      · have HN := Lib.hid hn
        unfold numB at hn
        have F2 := Lib.hid (show ((0 < 3 → numB x = true) ∧ (1 < 3 → numB y = true) ∧ (2 < 3 → numB z = true)) from ⟨fun _ => hF.out.1 (by omega), fun _ => hF.out.2.1 (by omega), fun _ => HN.out⟩)
        go_wp2_with fail
        refine (KI.out _ _).mono ?_; rintro e _ ⟨rfl, rfl⟩
        rw [hn]
        clear hn
        go_wp2_with fail
        go_roundg (3 - (2 + 1))
        case measure => omega
        case rel => exact ⟨2 + 1, by omega, rfl, by go_num, hB, F2⟩
      · have hn2 : numB z = false := by simpa using hn
        have HN := Lib.hid hn2
        unfold numB at hn2
        clear hn
        go_wp2_with fail
        refine (KI.out _ _).mono ?_; rintro e _ ⟨rfl, rfl⟩
        rw [hn2]
        clear hn2
        go_wp2_with fail
        go_ret
        exact ⟨by rw [HN.out]; simp, hB⟩
    · go_wp2_with fail
      go_ret
      exact ⟨by rw [hF.out.1 (by omega), hF.out.2.1 (by omega), hF.out.2.2 (by omega)]; rfl, hB⟩
end Go.Proofs.Ytnkfeapdcjnnkaa
