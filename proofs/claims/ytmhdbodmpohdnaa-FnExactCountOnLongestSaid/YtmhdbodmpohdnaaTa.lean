/- contracts: which lists are triangles, on both sides -/
import Derived.Test.YtmhdbodmpohdnaaSa
import Derived.Test.YtmhdbodmpohdnaaQg
import Derived.Test.YtmhdbodmpohdnaaX
import Derived.StillTailTactics
namespace Go.Proofs.Ytmhdbodmpohdnaa
open Go.ChangeShapes Go.WideShapes Go.ChangeAt Go.RowKit Go.Joins
set_option linter.unusedVariables false
set_option linter.unusedSimpArgs false
set_option maxRecDepth 4000
/-- is a list a triangle? -/
noncomputable def tB (l : List (Int × Int)) : Bool := decide (l.length = 3) && goodB l
/-- a triangle with these corners -/
def Tri (l : List (Int × Int)) (a1 a2 b1 b2 c1 c2 : Int) : Prop := l = [(a1, a2), (b1, b2), (c1, c2)] ∧ Good l
theorem tB_true {l : List (Int × Int)} (h : tB l = true) : ∃ a1 a2 b1 b2 c1 c2, Tri l a1 a2 b1 b2 c1 c2 := by
  unfold tB at h
  rw [Bool.and_eq_true, decide_eq_true_eq] at h
  obtain ⟨h1, h2⟩ := h
  obtain ⟨p, q, r, rfl⟩ : ∃ p q r, l = [p, q, r] := by
    match l, h1 with
    | [p, q, r], _ => exact ⟨p, q, r, rfl⟩
  refine ⟨p.1, p.2, q.1, q.2, r.1, r.2, rfl, ?_⟩
  apply Classical.byContradiction
  intro hn
  rw [goodB_false hn] at h2
  cases h2
theorem tri_tB {l : List (Int × Int)} {a1 a2 b1 b2 c1 c2 : Int} (h : Tri l a1 a2 b1 b2 c1 c2) : tB l = true := by
  unfold tB
  rw [goodB_true h.2, h.1]
  rfl
/-- the corners of a triangle are pegs -/
theorem tri_bd {l : List (Int × Int)} {a1 a2 b1 b2 c1 c2 : Int} (h : Tri l a1 a2 b1 b2 c1 c2) :
    (-40 ≤ a1 ∧ a1 ≤ 40) ∧ (-40 ≤ a2 ∧ a2 ≤ 40) ∧ (-40 ≤ b1 ∧ b1 ≤ 40) ∧ (-40 ≤ b2 ∧ b2 ≤ 40) ∧ (-40 ≤ c1 ∧ c1 ≤ 40) ∧ (-40 ≤ c2 ∧ c2 ≤ 40) := by
  obtain ⟨rfl, hg⟩ := h
  have h0 := hg.pegs 0 (by simp)
  have h1 := hg.pegs 1 (by simp)
  have h2 := hg.pegs 2 (by simp)
  have e0 : vx [(a1, a2), (b1, b2), (c1, c2)] 0 = (a1, a2) := rfl
  have e1 : vx [(a1, a2), (b1, b2), (c1, c2)] 1 = (b1, b2) := rfl
  have e2 : vx [(a1, a2), (b1, b2), (c1, c2)] 2 = (c1, c2) := rfl
  rw [e0] at h0; rw [e1] at h1; rw [e2] at h2
  unfold isPg isPegB at h0 h1 h2
  simp only [Bool.and_eq_true, decide_eq_true_eq] at h0 h1 h2
  exact ⟨h0.1, h0.2, h1.1, h1.2, h2.1, h2.2⟩
/-- three points in memory -/
def Rd3 (w : World) (b off : Nat) (a1 a2 b1 b2 c1 c2 : Int) : Prop :=
  w.cell? ⟨b, off, none⟩ = some (.int .i64 a1) ∧ w.cell? ⟨b, off + 1, none⟩ = some (.int .i64 a2) ∧ w.cell? ⟨b, off + 2, none⟩ = some (.int .i64 b1) ∧ w.cell? ⟨b, off + 3, none⟩ = some (.int .i64 b2) ∧ w.cell? ⟨b, off + 4, none⟩ = some (.int .i64 c1) ∧ w.cell? ⟨b, off + 5, none⟩ = some (.int .i64 c2)
theorem rd3_of {w : World} {A : Option Addr} {a1 a2 b1 b2 c1 c2 : Int} (hR : Rd w w.heap.size A [(a1, a2), (b1, b2), (c1, c2)]) :
    ∃ b off, A = some ⟨b, off, none⟩ ∧ b < w.heap.size ∧ Hid (∀ W, Below w.heap.size w W → Rd3 W b off a1 a2 b1 b2 c1 c2) := by
  obtain ⟨b, off, e, hb, hc⟩ := hR (by simp)
  refine ⟨b, off, e, hb, Lib.hid fun W hW => ?_⟩
  have c := fun o => hW.cell (p := ⟨b, o, none⟩) hb
  have h0 := hc 0 _ rfl
  have h1 := hc 1 _ rfl
  have h2 := hc 2 _ rfl
  simp only [Nat.zero_mul, Nat.add_zero, Nat.one_mul] at h0 h1 h2
  exact ⟨(c _).trans h0.1, (c _).trans h0.2, (c _).trans h1.1, (c _).trans h1.2, (c _).trans h2.1, (c _).trans h2.2⟩
/-- what the program makes of a list: a triangle, or zeros and no -/
def threeV (b : Bool) (a1 a2 b1 b2 c1 c2 : Int) : Value := .tuple #[.agg #[.int .i64 a1, .int .i64 a2, .int .i64 b1, .int .i64 b2, .int .i64 c1, .int .i64 c2], .bool b]
end Go.Proofs.Ytmhdbodmpohdnaa
