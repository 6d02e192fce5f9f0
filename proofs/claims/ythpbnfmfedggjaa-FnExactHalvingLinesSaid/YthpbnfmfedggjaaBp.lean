/- contracts: the program's sums around a band -/
import Derived.Test.YthpbnfmfedggjaaSca
import Derived.Test.YthpbnfmfedggjaaSb
namespace Go.Proofs.Ythpbnfmfedggjaa
open Go.ChangeShapes Go.WideShapes Go.ChangeAt Go.RowKit Go.Joins
set_option linter.unusedVariables false
set_option linter.unusedSimpArgs false
set_option maxRecDepth 4000
def gi (b : Bool) (x : Int) : Int := if b = true then x else 0
theorem ret_tup {a b : Int} {c : Bool} (h : a = b) : Ending.returned (.tuple #[.int .i64 a, .bool c]) = .returned (.tuple #[.int .i64 b, .bool c]) := by rw [h]
theorem gi_true (x : Int) : gi true x = x := rfl
theorem gi_false (x : Int) : gi false x = 0 := rfl
theorem areaW_any (A : Option Addr) (c : Nat) (l : List (Int × Int)) (w : World) (h1 : 0 < l.length) (hn : l.length ≤ 60) (hp : ∀ i, i < l.length → isPg (vx l i) = true) (hR : Rd w w.heap.size A l) :
    Calls Try.prog 54 #[.slice A l.length c, .func (.func 55) #[] #[]] w fun e w' => e = .returned (.int .i64 (areaN l)) ∧ Below w.heap.size w w' :=
  sumAroundW_any A c l w 55 (fun i => cr (vx l i) (vx l (i + 1))) h1 hn hR Try.call55
    (fun i _ => by have := cr_bd (vx_pg hp h1 i) (vx_pg hp h1 (i + 1)); omega)
    (fun i _ W => areaPart_any _ _ _ _ W (vx_pg hp h1 i) (vx_pg hp h1 (i + 1)))
theorem stepsW_any (A : Option Addr) (c : Nat) (l : List (Int × Int)) (w : World) (h1 : 0 < l.length) (hn : l.length ≤ 60) (hp : ∀ i, i < l.length → isPg (vx l i) = true) (hR : Rd w w.heap.size A l) :
    Calls Try.prog 54 #[.slice A l.length c, .func (.func 58) #[] #[]] w fun e w' => e = .returned (.int .i64 (onN l)) ∧ Below w.heap.size w w' :=
  sumAroundW_any A c l w 58 (fun i => stepN (vx l i).1 (vx l i).2 (vx l (i + 1)).1 (vx l (i + 1)).2) h1 hn hR Try.call58
    (fun i _ => by have := stepN_bd (a1 := (vx l i).1) (a2 := (vx l i).2) (b1 := (vx l (i + 1)).1) (b2 := (vx l (i + 1)).2) (vx_pg hp h1 i) (vx_pg hp h1 (i + 1)); omega)
    (fun i _ W => steps_any _ _ _ _ W (vx_pg hp h1 i) (vx_pg hp h1 (i + 1)))
/-- for no corner at all -/
theorem areaNone_any (A : Option Addr) (c : Nat) (w : World) :
    Calls Try.prog 54 #[.slice A 0 c, .func (.func 55) #[] #[]] w fun e w' => e = .returned (.int .i64 0) ∧ Below w.heap.size w w' := by
  have K : Hid (Calls Try.prog 81 #[.slice A 0 c] w fun e w' => (∃ X cx, e = .returned (.slice X 0 cx)) ∧ Below w.heap.size w w') := Lib.hid (by
    obtain ⟨i0, hi0, hz0, hz1, hz2⟩ := info_parts corner_info
    have hmk := fun W => run_make (P := Try.prog) W 79 60 i0 _ Try.underlying79 hi0 hz0 .i64 .i64 (0 : Int) (0 : Int) (by omega) (by omega) (by rw [hz2]; omega) (by omega)
    go_enter Try.func81, Try.ntmps81
    go_wp2_with fail
    go_loopg [13] 0 (fun g i wr => g = 0 ∧ i = .int .i64 0 ∧ Below w.heap.size w wr)
    case atStart => exact ⟨rfl, rfl, (Below.refl _ _).alloc (Nat.le_refl _) _⟩
    case round =>
      obtain ⟨hg, rfl, hB⟩ := hrel
      clear hmk
      go_wp2_with fail
      go_ret
      exact ⟨⟨_, _, rfl⟩, hB⟩)
  go_enter Try.func54, Try.ntmps54
  go_wp2_with fail
  refine K.out.mono ?_; rintro e w1 ⟨⟨X, cx, rfl⟩, hb1⟩
  go_wp2_with fail
  go_loopg [5, 11] 0 (fun gg s i wr => gg = 0 ∧ i = .int .i64 0 ∧ s = .int .i64 0 ∧ Below w.heap.size w wr)
  case atStart => exact ⟨rfl, rfl, rfl, hb1⟩
  case round =>
    obtain ⟨hg, rfl, rfl, hB⟩ := hrel
    go_wp2_with fail
    go_ret
    exact ⟨rfl, hB⟩
end Go.Proofs.Ythpbnfmfedggjaa
