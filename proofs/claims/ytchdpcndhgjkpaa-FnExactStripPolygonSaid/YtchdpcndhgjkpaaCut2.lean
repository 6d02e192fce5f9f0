/- contracts: StripPolygon, on both sides -/
import Derived.Test.YtchdpcndhgjkpaaLa
import Derived.Test.YtchdpcndhgjkpaaLs
namespace Go.Proofs.Ytchdpcndhgjkpaa
open Go.ChangeShapes Go.WideShapes Go.ChangeAt Go.RowKit Go.Joins
set_option linter.unusedVariables false
set_option linter.unusedSimpArgs false
set_option maxRecDepth 4000
/-- a rectangle of some steps -/
def strL (s : Int) : List (Int × Int) := [(0, 0), (s, 0), (s, 1), (0, 1)]
def inS (s : Int) : Bool := decide (1 ≤ s) && decide (s ≤ 5)
theorem strip_ret (w : World) (s : Int) : RetL w (strL s) true (.returned (.tuple #[.slice (some ⟨w.heap.size, 0, none⟩) 4 4, .bool true])) (w.alloc (.cells #[.int .i64 0, .int .i64 0, .int .i64 s, .int .i64 0, .int .i64 s, .int .i64 1, .int .i64 0, .int .i64 1] 49)) := by
  refine ⟨some ⟨w.heap.size, 0, none⟩, 4, rfl, Nat.le_refl _, by unfold maxLen; omega, (Below.refl _ _).alloc (Nat.le_refl _) _, fun _ => ⟨w.heap.size, 0, rfl, Nat.le_refl _, by simp, fun i hi => ?_⟩⟩
  have hi4 : i < 4 := hi
  have f : ∀ o, (w.alloc (.cells #[.int .i64 0, .int .i64 0, .int .i64 s, .int .i64 0, .int .i64 s, .int .i64 1, .int .i64 0, .int .i64 1] 49)).frozen? ⟨w.heap.size, o, none⟩ = false := fun o => by rw [frozen?_alloc_cells]; simp [World.frozen?]
  match i, hi4 with
  | 0, _ => exact ⟨⟨by go_simp; rfl, by go_simp; rfl⟩, f _, f _⟩
  | 1, _ => exact ⟨⟨by go_simp; rfl, by go_simp; rfl⟩, f _, f _⟩
  | 2, _ => exact ⟨⟨by go_simp; rfl, by go_simp; rfl⟩, f _, f _⟩
  | 3, _ => exact ⟨⟨by go_simp; rfl, by go_simp; rfl⟩, f _, f _⟩
theorem specStripPolygon_any (s : Int) (w : World) :
    Calls Try.prog 17 #[.int .i64 s] w (RetL w (sel (inS s) (strL s)) (inS s)) := by
  have K := Lib.hid (fun W => l1In_any s 1 5 W)
  change Hid (∀ W, Calls Try.prog 43 #[.int .i64 s, .int .i64 1, .int .i64 5] W fun e w' => e = .returned (.bool (inS s)) ∧ W = w') at K
  have R := Lib.hid (strip_ret w s)
  by_cases h : inS s = true
  · rw [h] at K ⊢
    rw [show sel true (strL s) = strL s from rfl]
    generalize hQ : RetL w (strL s) true = Q at *
    clear hQ
    go_enter Try.func17, Try.ntmps17
    go_wp2_with fail
    refine (K.out w).mono ?_; rintro e _ ⟨rfl, rfl⟩
    go_wp2_with fail
    exact R.out
  · have hf : inS s = false := by simpa using h
    rw [hf] at K ⊢
    rw [show sel false (strL s) = [] from rfl]
    clear R h hf
    go_enter Try.func17, Try.ntmps17
    go_wp2_with fail
    refine (K.out w).mono ?_; rintro e _ ⟨rfl, rfl⟩
    go_wp2_with fail
    go_ret2
    exact retL_nil (Below.refl _ _)
theorem implStripPolygon_any (s : Int) (w : World) :
    Calls Try.prog 18 #[.int .i64 s] w (RetL w (sel (inS s) (strL s)) (inS s)) := by
  have R := Lib.hid (strip_ret w s)
  by_cases h1 : s < 1
  · have hf : inS s = false := by unfold inS; simp; omega
    rw [hf, show sel false (strL s) = [] from rfl]
    clear R hf
    go_enter Try.func18, Try.ntmps18
    go_wp2_with fail
    go_ret2
    exact retL_nil (Below.refl _ _)
  · by_cases h2 : 5 < s
    · have hf : inS s = false := by unfold inS; simp; omega
      rw [hf, show sel false (strL s) = [] from rfl]
      clear R hf
      go_enter Try.func18, Try.ntmps18
      go_wp2_with fail
      go_ret2
      exact retL_nil (Below.refl _ _)
    · have hf : inS s = true := by unfold inS; simp; omega
      rw [hf, show sel true (strL s) = strL s from rfl]
      clear hf
      generalize hQ : RetL w (strL s) true = Q at *
      clear hQ
      go_enter Try.func18, Try.ntmps18
      go_wp2_with fail
      exact R.out
end Go.Proofs.Ytchdpcndhgjkpaa
