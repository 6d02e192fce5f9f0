/- contracts: sides, brought pegs, moves of whole numbers, shears, on both sides -/
import Derived.Test.YtieimijkkjhegaaMd
namespace Go.Proofs.Ytieimijkkjhegaa
open Go.ChangeShapes Go.WideShapes Go.ChangeAt Go.RowKit Go.Joins
set_option linter.unusedVariables false
set_option linter.unusedSimpArgs false
set_option maxRecDepth 4000
def Fz (w : World) (g : Nat) : Prop := ∀ o, w.frozen? ⟨g, o, none⟩ = false
theorem fz_below {w w' : World} {g B : Nat} (h : Fz w g) (hb : Below B w w') (hg : g < B) : Fz w' g := fun o => (World.frozen?_of_block (hb.block g hg)).trans (h o)
def Own6 (w : World) (g : Nat) (a b c d x y : Int) : Prop := At6 w g a b c d x y ∧ Fz w g
def Own2 (w : World) (g : Nat) (a b : Int) : Prop := (g < w.heap.size ∧ w.cell? ⟨g, 0, none⟩ = some (.int .i64 a) ∧ w.cell? ⟨g, 1, none⟩ = some (.int .i64 b)) ∧ Fz w g
theorem own6_below {w w' : World} {g : Nat} {a b c d x y : Int} (h : Own6 w g a b c d x y) (hb : Below w.heap.size w w') (hg : g < w.heap.size) : Own6 w' g a b c d x y := ⟨at6_below h.1 hb hg, fz_below h.2 hb hg⟩
theorem own2_below {w w' : World} {g : Nat} {a b : Int} (h : Own2 w g a b) (hb : Below w.heap.size w w') (hg : g < w.heap.size) : Own2 w' g a b := by
  obtain ⟨⟨h0, h1, h2⟩, h3⟩ := h
  have k := fun o => hb.cell (p := ⟨g, o, none⟩) hg
  have := hb.size
  exact ⟨⟨by omega, (k _).trans h1, (k _).trans h2⟩, fz_below h3 hb hg⟩
def bsel (b : Bool) (v : Int) : Int := if b = true then v else 0
theorem bsel_t (v : Int) : bsel true v = v := rfl
theorem bsel_f (v : Int) : bsel false v = 0 := rfl
theorem good_bd {a b c d x y : Int} (h : goodM a b c d x y = true) : ((-20 ≤ a ∧ a ≤ 20) ∧ (-20 ≤ b ∧ b ≤ 20) ∧ (-20 ≤ c ∧ c ≤ 20) ∧ (-20 ≤ d ∧ d ≤ 20)) ∧ ((-80 ≤ x ∧ x ≤ 80) ∧ (-80 ≤ y ∧ y ≤ 80)) := by
  unfold goodM boxM at h
  simp only [Bool.and_eq_true] at h
  exact ⟨all4_bd h.1.1, all2_bd h.1.2⟩
theorem good_all4 {a b c d x y : Int} (h : goodM a b c d x y = true) : allIn (-20) 20 (q4 a b c d) 4 = true := by
  unfold goodM boxM at h
  simp only [Bool.and_eq_true] at h
  exact h.1.1
theorem bring_any (a b c d x y p1 p2 : Int) (w : World) (ha : -100000000 ≤ a ∧ a ≤ 100000000) (hb : -100000000 ≤ b ∧ b ≤ 100000000) (hc : -100000000 ≤ c ∧ c ≤ 100000000) (hd : -100000000 ≤ d ∧ d ≤ 100000000) (hx : -100000000000000000 ≤ x ∧ x ≤ 100000000000000000) (hy : -100000000000000000 ≤ y ∧ y ≤ 100000000000000000) (hp : -2000000000 ≤ p1 ∧ p1 ≤ 2000000000) (hq : -2000000000 ≤ p2 ∧ p2 ≤ 2000000000) :
    Calls Try.prog 73 #[.agg #[.int .i64 a, .int .i64 b, .int .i64 c, .int .i64 d, .int .i64 x, .int .i64 y], .agg #[.int .i64 p1, .int .i64 p2]] w fun e w' => e = .returned (.agg #[.int .i64 (a * p1 + b * p2 + x), .int .i64 (c * p1 + d * p2 + y)]) ∧ Below w.heap.size w w' := by
  obtain ⟨m1, m2⟩ := mul_bd (x := a) (y := p1) (m := 100000000) (n := 2000000000) (by omega) (by omega) (by omega) (by omega)
  obtain ⟨m3, m4⟩ := mul_bd (x := b) (y := p2) (m := 100000000) (n := 2000000000) (by omega) (by omega) (by omega) (by omega)
  obtain ⟨m5, m6⟩ := mul_bd (x := c) (y := p1) (m := 100000000) (n := 2000000000) (by omega) (by omega) (by omega) (by omega)
  obtain ⟨m7, m8⟩ := mul_bd (x := d) (y := p2) (m := 100000000) (n := 2000000000) (by omega) (by omega) (by omega) (by omega)
  have s1 : IntKind.i64.wrap (a * p1) = a * p1 := IntWalk.i64_in _ (by omega)
  have s2 : IntKind.i64.wrap (b * p2) = b * p2 := IntWalk.i64_in _ (by omega)
  have s3 : IntKind.i64.wrap (c * p1) = c * p1 := IntWalk.i64_in _ (by omega)
  have s4 : IntKind.i64.wrap (d * p2) = d * p2 := IntWalk.i64_in _ (by omega)
  have s5 : IntKind.i64.wrap (a * p1 + b * p2) = a * p1 + b * p2 := IntWalk.i64_in _ (by omega)
  have s6 : IntKind.i64.wrap (c * p1 + d * p2) = c * p1 + d * p2 := IntWalk.i64_in _ (by omega)
  have s7 : IntKind.i64.wrap (a * p1 + b * p2 + x) = a * p1 + b * p2 + x := IntWalk.i64_in _ (by omega)
  have s8 : IntKind.i64.wrap (c * p1 + d * p2 + y) = c * p1 + d * p2 + y := IntWalk.i64_in _ (by omega)
  clear m1 m2 m3 m4 m5 m6 m7 m8 ha hb hc hd hx hy hp hq
  go_enter Try.func73, Try.ntmps73
  go_wp2_with fail
  exact bodyPost_ret (v := .agg #[.int .i64 (a * p1 + b * p2 + x), .int .i64 (c * p1 + d * p2 + y)]) (by simp [results, Try.results73, go_sem]) rfl ⟨rfl, (by repeat (first | exact Below.refl _ _ | assumption | apply Below.drew | refine Below.alloc ?_ (by simp <;> omega) _))⟩
end Go.Proofs.Ytieimijkkjhegaa
