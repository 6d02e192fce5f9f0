/- contracts: which lists are triangles, on both sides -/
import Derived.Test.YtieimijkkjhegaaSa
import Derived.Test.YtieimijkkjhegaaQg
import Derived.Test.YtieimijkkjhegaaX
import Derived.StillTailTactics
namespace Go.Proofs.Ytieimijkkjhegaa
open Go.ChangeShapes Go.WideShapes Go.ChangeAt Go.RowKit Go.Joins
set_option linter.unusedVariables false
set_option linter.unusedSimpArgs false
set_option maxRecDepth 4000
/-- is a list a triangle? -/
noncomputable def tB (l : List (Int × Int)) : Bool := decide (l.length = 3) && goodB l
/-- a triangle with these corners -/
def Tri (l : List (Int × Int)) (a1 a2 b1 b2 c1 c2 : Int) : Prop := l = [(a1, a2), (b1, b2), (c1, c2)] ∧ Good l
theorem tB_true {l : List (Int × Int)} (h : tB l = true) : ∃ a1 a2 b1 b2 c1 c2, Tri l a1 a2 b1 b2 c1 c2 := by
  unfold tB at h
  rw [Bool.and_eq_true, decide_eq_true_eq] at h
  obtain ⟨h1, h2⟩ := h
  obtain ⟨p, q, r, rfl⟩ : ∃ p q r, l = [p, q, r] := by
    match l, h1 with
    | [p, q, r], _ => exact ⟨p, q, r, rfl⟩
  refine ⟨p.1, p.2, q.1, q.2, r.1, r.2, rfl, ?_⟩
  apply Classical.byContradiction
  intro hn
  rw [goodB_false hn] at h2
  cases h2
theorem tri_tB {l : List (Int × Int)} {a1 a2 b1 b2 c1 c2 : Int} (h : Tri l a1 a2 b1 b2 c1 c2) : tB l = true := by
  unfold tB
  rw [goodB_true h.2, h.1]
  rfl
/-- the corners of a triangle are pegs -/
theorem tri_bd {l : List (Int × Int)} {a1 a2 b1 b2 c1 c2 : Int} (h : Tri l a1 a2 b1 b2 c1 c2) :
    (-40 ≤ a1 ∧ a1 ≤ 40) ∧ (-40 ≤ a2 ∧ a2 ≤ 40) ∧ (-40 ≤ b1 ∧ b1 ≤ 40) ∧ (-40 ≤ b2 ∧ b2 ≤ 40) ∧ (-40 ≤ c1 ∧ c1 ≤ 40) ∧ (-40 ≤ c2 ∧ c2 ≤ 40) := by
  obtain ⟨rfl, hg⟩ := h
  have h0 := hg.pegs 0 (by simp)
  have h1 := hg.pegs 1 (by simp)
  have h2 := hg.pegs 2 (by simp)
  have e0 : vx [(a1, a2), (b1, b2), (c1, c2)] 0 = (a1, a2) := rfl
  have e1 : vx [(a1, a2), (b1, b2), (c1, c2)] 1 = (b1, b2) := rfl
  have e2 : vx [(a1, a2), (b1, b2), (c1, c2)] 2 = (c1, c2) := rfl
  rw [e0] at h0; rw [e1] at h1; rw [e2] at h2
  unfold isPg isPegB at h0 h1 h2
  simp only [Bool.and_eq_true, decide_eq_true_eq] at h0 h1 h2
  exact ⟨h0.1, h0.2, h1.1, h1.2, h2.1, h2.2⟩
/-- three points in memory -/
def Rd3 (w : World) (b off : Nat) (a1 a2 b1 b2 c1 c2 : Int) : Prop :=
  w.cell? ⟨b, off, none⟩ = some (.int .i64 a1) ∧ w.cell? ⟨b, off + 1, none⟩ = some (.int .i64 a2) ∧ w.cell? ⟨b, off + 2, none⟩ = some (.int .i64 b1) ∧ w.cell? ⟨b, off + 3, none⟩ = some (.int .i64 b2) ∧ w.cell? ⟨b, off + 4, none⟩ = some (.int .i64 c1) ∧ w.cell? ⟨b, off + 5, none⟩ = some (.int .i64 c2)
theorem rd3_of {w : World} {A : Option Addr} {a1 a2 b1 b2 c1 c2 : Int} (hR : Rd w w.heap.size A [(a1, a2), (b1, b2), (c1, c2)]) :
    ∃ b off, A = some ⟨b, off, none⟩ ∧ b < w.heap.size ∧ Hid (∀ W, Below w.heap.size w W → Rd3 W b off a1 a2 b1 b2 c1 c2) := by
  obtain ⟨b, off, e, hb, hc⟩ := hR (by simp)
  refine ⟨b, off, e, hb, Lib.hid fun W hW => ?_⟩
  have c := fun o => hW.cell (p := ⟨b, o, none⟩) hb
  have h0 := hc 0 _ rfl
  have h1 := hc 1 _ rfl
  have h2 := hc 2 _ rfl
  simp only [Nat.zero_mul, Nat.add_zero, Nat.one_mul] at h0 h1 h2
  exact ⟨(c _).trans h0.1, (c _).trans h0.2, (c _).trans h1.1, (c _).trans h1.2, (c _).trans h2.1, (c _).trans h2.2⟩
theorem trThree_any (A : Option Addr) (c : Nat) (l : List (Int × Int)) (w : World) (hn : l.length ≤ 1048576) (hcap : l.length ≤ c) (hc2 : c ≤ 9223372036854775807) (hR : Rd w w.heap.size A l) :
    Calls Try.prog 55 #[.slice A l.length c] w fun e w' => e = .returned (.bool (tB l)) ∧ Below w.heap.size w w' := by
  have K := Lib.hid (pgGood_any A c l w hn hcap hc2 hR)
  by_cases h3 : l.length = 3
  · have e : tB l = goodB l := by unfold tB; rw [h3]; rfl
    rw [e]
    generalize goodB l = b at *
    rw [h3] at K ⊢
    clear h3 e hR hn hcap
    go_enter Try.func55, Try.ntmps55
    go_wp2_with fail
    refine K.out.mono ?_; rintro e w1 ⟨rfl, hb1⟩
    go_wp2_with fail
    go_ret
    exact ⟨rfl, hb1⟩
  · have e : tB l = false := by unfold tB; rw [decide_eq_false h3]; rfl
    have d1 : ((l.length : Int) == 3) = false := by simp; omega
    rw [e]
    clear h3 e hR K
    go_enter Try.func55, Try.ntmps55
    go_wp2_with fail
    go_ret
    exact ⟨rfl, Below.refl _ _⟩
/-- what the program makes of a list: a triangle, or zeros and no -/
def threeV (b : Bool) (a1 a2 b1 b2 c1 c2 : Int) : Value := .tuple #[.agg #[.int .i64 a1, .int .i64 a2, .int .i64 b1, .int .i64 b2, .int .i64 c1, .int .i64 c2], .bool b]
theorem threeOf_no (A : Option Addr) (c : Nat) (l : List (Int × Int)) (w : World) (hn : l.length ≤ 1048576) (hR : Rd w w.heap.size A l) (ht : tB l = false) :
    Calls Try.prog 61 #[.slice A l.length c] w fun e w' => e = .returned (threeV false 0 0 0 0 0 0) ∧ Below w.heap.size w w' := by
  have HB := Lib.hid (Below.alloc (Below.refl w.heap.size w) (Nat.le_refl _) (.cells #[.int .i64 0, .int .i64 0, .int .i64 0, .int .i64 0, .int .i64 0, .int .i64 0] 76))
  have K := Lib.hid (fun W (hb : Below w.heap.size w W) => implIsPolygon_any A c l W hn (rd_more (rd_below hR hb (Nat.le_refl _)) hb.size))
  by_cases h3 : l.length = 3
  · have e : goodB l = false := by unfold tB at ht; rw [h3] at ht; simpa using ht
    rw [e, h3] at K
    rw [h3]
    clear h3 e hR hn ht
    go_enter Try.func61, Try.ntmps61
    go_wp2_with fail
    refine (K.out _ HB.out).mono ?_; rintro e w1 ⟨rfl, hb1⟩
    have B1 := HB.out.trans (hb1.mono HB.out.size)
    obtain ⟨hc, hf⟩ := bcell hb1
    have hz : w.heap.size < w1.heap.size := by (have := hb1.size; simp at this; omega)
    go_wp2_with fail
    exact bodyPost_ret (v := threeV false 0 0 0 0 0 0) (by simp [results, Try.results61, go_sem, threeV, hc, hz]) rfl ⟨rfl, Below.setCell (Below.setCell (Below.setCell (Below.setCell (Below.setCell (Below.setCell B1 (Nat.le_refl _) _) (Nat.le_refl _) _) (Nat.le_refl _) _) (Nat.le_refl _) _) (Nat.le_refl _) _) (Nat.le_refl _) _⟩
  · have d1 : ((l.length : Int) == 3) = false := by simp; omega
    have d2 : ((l.length : Int) != 3) = true := by simp; omega
    clear h3 hR K ht
    go_enter Try.func61, Try.ntmps61
    go_wp2_with fail
    exact bodyPost_ret (v := threeV false 0 0 0 0 0 0) (by simp [results, Try.results61, go_sem, threeV]) rfl ⟨rfl, HB.out⟩
set_option maxHeartbeats 400000 in
theorem threeOf_yes (A : Option Addr) (c : Nat) (l : List (Int × Int)) (a1 a2 b1 b2 c1 c2 : Int) (w : World) (hR : Rd w w.heap.size A l) (ht : Tri l a1 a2 b1 b2 c1 c2) :
    Calls Try.prog 61 #[.slice A l.length c] w fun e w' => e = .returned (threeV true a1 a2 b1 b2 c1 c2) ∧ Below w.heap.size w w' := by
  have HB := Lib.hid (Below.alloc (Below.refl w.heap.size w) (Nat.le_refl _) (.cells #[.int .i64 0, .int .i64 0, .int .i64 0, .int .i64 0, .int .i64 0, .int .i64 0] 76))
  have K := Lib.hid (fun W (hb : Below w.heap.size w W) => implIsPolygon_any A c l W (by rw [ht.1]; simp) (rd_more (rd_below hR hb (Nat.le_refl _)) hb.size))
  obtain ⟨rfl, hg⟩ := ht
  rw [goodB_true hg] at K
  obtain ⟨b, off, rfl, hb, H3⟩ := rd3_of hR
  clear hg hR
  change Hid (∀ W, Below w.heap.size w W → Calls Try.prog 80 #[.slice (some ⟨b, off, none⟩) 3 c] W fun e w' => e = .returned (.bool true) ∧ Below W.heap.size W w') at K
  change Calls Try.prog 61 #[.slice (some ⟨b, off, none⟩) 3 c] w _
  go_enter Try.func61, Try.ntmps61
  go_wp2_with fail
  refine (K.out _ HB.out).mono ?_; rintro e w1 ⟨rfl, hb1⟩
  have B1 := HB.out.trans (hb1.mono HB.out.size)
  obtain ⟨hc, hf⟩ := bcell hb1
  have hz : w.heap.size < w1.heap.size := by (have := hb1.size; simp at this; omega)
  obtain ⟨x0, x1, x2, x3, x4, x5⟩ := H3.out w1 B1
  have r0 : ∀ o, w1.cell? ⟨w.heap.size, o, none⟩ = (w.alloc (.cells #[.int .i64 0, .int .i64 0, .int .i64 0, .int .i64 0, .int .i64 0, .int .i64 0] 76)).cell? ⟨w.heap.size, o, none⟩ := fun o => hc _ _ (by simp)
  have f0 : ∀ o, w1.frozen? ⟨w.heap.size, o, none⟩ = (w.alloc (.cells #[.int .i64 0, .int .i64 0, .int .i64 0, .int .i64 0, .int .i64 0, .int .i64 0] 76)).frozen? ⟨w.heap.size, o, none⟩ := fun o => hf _ _ (by simp)
  clear hc hf
  go_wp2_with fail
  refine wp_region_still_tail 10 (by kernel_rfl) (by kernel_rfl) ?_
  change wpStill _ _ w1.drew (fun a' => wpList _ _ _ _ a' w1.drew) _ _
  simp only [List.take_succ_cons, List.take_zero, List.drop_succ_cons, List.drop_zero]
  repeat still_step
  try refine wpStill_nil ?_
  go_wp2_with fail
  refine bodyPost_ret (v := threeV true a1 a2 b1 b2 c1 c2) (by simp [results, Try.results61, go_sem, threeV, r0, hz]) rfl ?_
  refine ⟨rfl, ?_⟩
  repeat (first | with_reducible assumption | with_reducible exact Below.refl _ _ | with_reducible apply Below.drew | ((with_reducible refine Below.setCell ?_ ?_ _); rotate_left; (first | exact Nat.le_refl _ | omega | (simp <;> omega))) | ((with_reducible refine Below.alloc ?_ ?_ _); rotate_left; (first | omega | (simp <;> omega))))
end Go.Proofs.Ytieimijkkjhegaa
