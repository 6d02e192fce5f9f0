/- contracts: sides, brought pegs, moves of whole numbers, shears, on both sides -/
import Derived.Test.YtjlihafpnppchaaMe
namespace Go.Proofs.Ytjlihafpnppchaa
open Go.ChangeShapes Go.WideShapes Go.ChangeAt Go.RowKit Go.Joins
set_option linter.unusedVariables false
set_option linter.unusedSimpArgs false
def Fz (w : World) (g : Nat) : Prop := ∀ o, w.frozen? ⟨g, o, none⟩ = false
theorem fz_below {w w' : World} {g B : Nat} (h : Fz w g) (hb : Below B w w') (hg : g < B) : Fz w' g := fun o => (World.frozen?_of_block (hb.block g hg)).trans (h o)
def Own6 (w : World) (g : Nat) (a b c d x y : Int) : Prop := At6 w g a b c d x y ∧ Fz w g
def Own2 (w : World) (g : Nat) (a b : Int) : Prop := (g < w.heap.size ∧ w.cell? ⟨g, 0, none⟩ = some (.int .i64 a) ∧ w.cell? ⟨g, 1, none⟩ = some (.int .i64 b)) ∧ Fz w g
theorem own6_below {w w' : World} {g : Nat} {a b c d x y : Int} (h : Own6 w g a b c d x y) (hb : Below w.heap.size w w') (hg : g < w.heap.size) : Own6 w' g a b c d x y := ⟨at6_below h.1 hb hg, fz_below h.2 hb hg⟩
theorem own2_below {w w' : World} {g : Nat} {a b : Int} (h : Own2 w g a b) (hb : Below w.heap.size w w') (hg : g < w.heap.size) : Own2 w' g a b := by
  obtain ⟨⟨h0, h1, h2⟩, h3⟩ := h
  have k := fun o => hb.cell (p := ⟨g, o, none⟩) hg
  have := hb.size
  exact ⟨⟨by omega, (k _).trans h1, (k _).trans h2⟩, fz_below h3 hb hg⟩
def bsel (b : Bool) (v : Int) : Int := if b = true then v else 0
theorem bsel_t (v : Int) : bsel true v = v := rfl
theorem bsel_f (v : Int) : bsel false v = 0 := rfl
theorem good_bd {a b c d x y : Int} (h : goodM a b c d x y = true) : ((-20 ≤ a ∧ a ≤ 20) ∧ (-20 ≤ b ∧ b ≤ 20) ∧ (-20 ≤ c ∧ c ≤ 20) ∧ (-20 ≤ d ∧ d ≤ 20)) ∧ ((-80 ≤ x ∧ x ≤ 80) ∧ (-80 ≤ y ∧ y ≤ 80)) := by
  unfold goodM boxM at h
  simp only [Bool.and_eq_true] at h
  exact ⟨all4_bd h.1.1, all2_bd h.1.2⟩
theorem good_all4 {a b c d x y : Int} (h : goodM a b c d x y = true) : allIn (-20) 20 (q4 a b c d) 4 = true := by
  unfold goodM boxM at h
  simp only [Bool.and_eq_true] at h
  exact h.1.1
set_option maxHeartbeats 1000000 in
theorem specSideOfMove_any (a b c d x y : Int) (w : World) :
    Calls Try.prog 17 #[.agg #[.int .i64 a, .int .i64 b, .int .i64 c, .int .i64 d, .int .i64 x, .int .i64 y]] w fun e w' => e = .returned (.tuple #[.int .i64 (bsel (goodM a b c d x y) (a * d - b * c)), .bool (goodM a b c d x y)]) ∧ Below w.heap.size w w' := by
  have K := Lib.hid (fun W => mvGood_any a b c d x y W)
  by_cases hg : goodM a b c d x y = true
  · have h4 := good_all4 hg
    obtain ⟨⟨u1, u2⟩, ⟨u3, u4⟩⟩ := side_bd h4
    rw [hg] at K ⊢
    rw [bsel_t]
    clear hg h4
    go_enter Try.func17, Try.ntmps17
    go_wp2_with fail
    obtain ⟨W0, hW0⟩ : ∃ W0, W0 = (w.alloc (.cells #[.int .i64 a, .int .i64 b, .int .i64 c, .int .i64 d, .int .i64 x, .int .i64 y] 25)) := ⟨_, rfl⟩
    rw [← hW0]
    have yW00_0 : W0.cell? ⟨w.heap.size, 0, none⟩ = some (.int .i64 a) := by rw [hW0]; go_simp
    have yW00_1 : W0.cell? ⟨w.heap.size, 1, none⟩ = some (.int .i64 b) := by rw [hW0]; go_simp
    have yW00_2 : W0.cell? ⟨w.heap.size, 2, none⟩ = some (.int .i64 c) := by rw [hW0]; go_simp
    have yW00_3 : W0.cell? ⟨w.heap.size, 3, none⟩ = some (.int .i64 d) := by rw [hW0]; go_simp
    have yW00_4 : W0.cell? ⟨w.heap.size, 4, none⟩ = some (.int .i64 x) := by rw [hW0]; go_simp
    have yW00_5 : W0.cell? ⟨w.heap.size, 5, none⟩ = some (.int .i64 y) := by rw [hW0]; go_simp
    have fW00 : ∀ o, W0.frozen? ⟨w.heap.size, o, none⟩ = false := by intro o; rw [hW0]; (repeat rw [frozen?_alloc_cells]); simp [World.frozen?]
    have zW00 : w.heap.size < W0.heap.size := by rw [hW0]; simp <;> omega
    have BW0 : Below w.heap.size w W0 := by rw [hW0]; exact (Below.alloc (Below.refl _ _) (by simp <;> omega) _)
    have eW0 : Hid (W0.heap.size = w.heap.size + 1) := Lib.hid (by rw [hW0]; simp)
    clear hW0
    have E6 := Lib.hid (show Own6 W0 (w.heap.size) a b c d x y from ⟨⟨zW00, yW00_0, yW00_1, yW00_2, yW00_3, yW00_4, yW00_5⟩, fW00⟩)
    clear zW00 fW00 yW00_0 yW00_1 yW00_2 yW00_3 yW00_4 yW00_5 eW0
    refine (K.out _).mono ?_; rintro e w1 ⟨rfl, hbw1⟩
    have Bw1 := BW0.trans (hbw1.mono BW0.size)
    have E6 := Lib.hid (own6_below E6.out hbw1 E6.out.1.1)
    clear hbw1 BW0
    obtain ⟨⟨zp, cp0, cp1, cp2, cp3, cp4, cp5⟩, fp⟩ := E6.out
    unfold Fz at fp
    go_wp2_with fail
    go_ret2
    exact ⟨rfl, Bw1⟩
  · have hg : goodM a b c d x y = false := by simpa using hg
    rw [hg] at K ⊢
    rw [bsel_f]
    clear hg
    go_enter Try.func17, Try.ntmps17
    go_wp2_with fail
    obtain ⟨W0, hW0⟩ : ∃ W0, W0 = (w.alloc (.cells #[.int .i64 a, .int .i64 b, .int .i64 c, .int .i64 d, .int .i64 x, .int .i64 y] 25)) := ⟨_, rfl⟩
    rw [← hW0]
    have yW00_0 : W0.cell? ⟨w.heap.size, 0, none⟩ = some (.int .i64 a) := by rw [hW0]; go_simp
    have yW00_1 : W0.cell? ⟨w.heap.size, 1, none⟩ = some (.int .i64 b) := by rw [hW0]; go_simp
    have yW00_2 : W0.cell? ⟨w.heap.size, 2, none⟩ = some (.int .i64 c) := by rw [hW0]; go_simp
    have yW00_3 : W0.cell? ⟨w.heap.size, 3, none⟩ = some (.int .i64 d) := by rw [hW0]; go_simp
    have yW00_4 : W0.cell? ⟨w.heap.size, 4, none⟩ = some (.int .i64 x) := by rw [hW0]; go_simp
    have yW00_5 : W0.cell? ⟨w.heap.size, 5, none⟩ = some (.int .i64 y) := by rw [hW0]; go_simp
    have fW00 : ∀ o, W0.frozen? ⟨w.heap.size, o, none⟩ = false := by intro o; rw [hW0]; (repeat rw [frozen?_alloc_cells]); simp [World.frozen?]
    have zW00 : w.heap.size < W0.heap.size := by rw [hW0]; simp <;> omega
    have BW0 : Below w.heap.size w W0 := by rw [hW0]; exact (Below.alloc (Below.refl _ _) (by simp <;> omega) _)
    have eW0 : Hid (W0.heap.size = w.heap.size + 1) := Lib.hid (by rw [hW0]; simp)
    clear hW0
    have E6 := Lib.hid (show Own6 W0 (w.heap.size) a b c d x y from ⟨⟨zW00, yW00_0, yW00_1, yW00_2, yW00_3, yW00_4, yW00_5⟩, fW00⟩)
    clear zW00 fW00 yW00_0 yW00_1 yW00_2 yW00_3 yW00_4 yW00_5 eW0
    refine (K.out _).mono ?_; rintro e w1 ⟨rfl, hbw1⟩
    have Bw1 := BW0.trans (hbw1.mono BW0.size)
    have E6 := Lib.hid (own6_below E6.out hbw1 E6.out.1.1)
    clear hbw1 BW0
    go_wp2_with fail
    go_ret2
    exact ⟨rfl, Bw1⟩
set_option maxHeartbeats 1000000 in
theorem implSideOfMove_any (a b c d x y : Int) (w : World) :
    Calls Try.prog 18 #[.agg #[.int .i64 a, .int .i64 b, .int .i64 c, .int .i64 d, .int .i64 x, .int .i64 y]] w fun e w' => e = .returned (.tuple #[.int .i64 (bsel (goodM a b c d x y) (a * d - b * c)), .bool (goodM a b c d x y)]) ∧ Below w.heap.size w w' := by
  have K := Lib.hid (fun W => implIsMove_any a b c d x y W)
  by_cases hg : goodM a b c d x y = true
  · have h4 := good_all4 hg
    obtain ⟨⟨u1, u2⟩, ⟨u3, u4⟩⟩ := side_bd h4
    have KW := Lib.hid (fun W => whole_any a b c d x y W)
    have KS := Lib.hid (fun W => side_any a b c d x y W h4)
    rw [hg] at K ⊢
    rw [bsel_t]
    clear hg h4
    go_enter Try.func18, Try.ntmps18
    go_wp2_with fail
    obtain ⟨W0, hW0⟩ : ∃ W0, W0 = (w.alloc (.cells #[.int .i64 a, .int .i64 b, .int .i64 c, .int .i64 d, .int .i64 x, .int .i64 y] 25)) := ⟨_, rfl⟩
    rw [← hW0]
    have yW00_0 : W0.cell? ⟨w.heap.size, 0, none⟩ = some (.int .i64 a) := by rw [hW0]; go_simp
    have yW00_1 : W0.cell? ⟨w.heap.size, 1, none⟩ = some (.int .i64 b) := by rw [hW0]; go_simp
    have yW00_2 : W0.cell? ⟨w.heap.size, 2, none⟩ = some (.int .i64 c) := by rw [hW0]; go_simp
    have yW00_3 : W0.cell? ⟨w.heap.size, 3, none⟩ = some (.int .i64 d) := by rw [hW0]; go_simp
    have yW00_4 : W0.cell? ⟨w.heap.size, 4, none⟩ = some (.int .i64 x) := by rw [hW0]; go_simp
    have yW00_5 : W0.cell? ⟨w.heap.size, 5, none⟩ = some (.int .i64 y) := by rw [hW0]; go_simp
    have fW00 : ∀ o, W0.frozen? ⟨w.heap.size, o, none⟩ = false := by intro o; rw [hW0]; (repeat rw [frozen?_alloc_cells]); simp [World.frozen?]
    have zW00 : w.heap.size < W0.heap.size := by rw [hW0]; simp <;> omega
    have BW0 : Below w.heap.size w W0 := by rw [hW0]; exact (Below.alloc (Below.refl _ _) (by simp <;> omega) _)
    have eW0 : Hid (W0.heap.size = w.heap.size + 1) := Lib.hid (by rw [hW0]; simp)
    clear hW0
    have E6 := Lib.hid (show Own6 W0 (w.heap.size) a b c d x y from ⟨⟨zW00, yW00_0, yW00_1, yW00_2, yW00_3, yW00_4, yW00_5⟩, fW00⟩)
    clear zW00 fW00 yW00_0 yW00_1 yW00_2 yW00_3 yW00_4 yW00_5 eW0
    refine (K.out _).mono ?_; rintro e w1 ⟨rfl, hbw1⟩
    have Bw1 := BW0.trans (hbw1.mono BW0.size)
    have E6 := Lib.hid (own6_below E6.out hbw1 E6.out.1.1)
    clear hbw1 BW0
    obtain ⟨⟨zp, cp0, cp1, cp2, cp3, cp4, cp5⟩, fp⟩ := E6.out
    unfold Fz at fp
    go_wp2_with fail
    clear zp fp cp0 cp1 cp2 cp3 cp4 cp5
    refine (KW.out _).mono ?_; rintro e w2 ⟨rfl, hbw2⟩
    have Bw2 := Bw1.trans (hbw2.mono Bw1.size)
    clear hbw2 Bw1
    go_wp2_with fail
    refine (KS.out _).mono ?_; rintro e w3 ⟨rfl, hbw3⟩
    have Bw3 := Bw2.trans (hbw3.mono Bw2.size)
    clear hbw3 Bw2
    go_wp2_with fail
    go_ret2
    exact ⟨rfl, Bw3⟩
  · have hg : goodM a b c d x y = false := by simpa using hg
    rw [hg] at K ⊢
    rw [bsel_f]
    clear hg
    go_enter Try.func18, Try.ntmps18
    go_wp2_with fail
    obtain ⟨W0, hW0⟩ : ∃ W0, W0 = (w.alloc (.cells #[.int .i64 a, .int .i64 b, .int .i64 c, .int .i64 d, .int .i64 x, .int .i64 y] 25)) := ⟨_, rfl⟩
    rw [← hW0]
    have yW00_0 : W0.cell? ⟨w.heap.size, 0, none⟩ = some (.int .i64 a) := by rw [hW0]; go_simp
    have yW00_1 : W0.cell? ⟨w.heap.size, 1, none⟩ = some (.int .i64 b) := by rw [hW0]; go_simp
    have yW00_2 : W0.cell? ⟨w.heap.size, 2, none⟩ = some (.int .i64 c) := by rw [hW0]; go_simp
    have yW00_3 : W0.cell? ⟨w.heap.size, 3, none⟩ = some (.int .i64 d) := by rw [hW0]; go_simp
    have yW00_4 : W0.cell? ⟨w.heap.size, 4, none⟩ = some (.int .i64 x) := by rw [hW0]; go_simp
    have yW00_5 : W0.cell? ⟨w.heap.size, 5, none⟩ = some (.int .i64 y) := by rw [hW0]; go_simp
    have fW00 : ∀ o, W0.frozen? ⟨w.heap.size, o, none⟩ = false := by intro o; rw [hW0]; (repeat rw [frozen?_alloc_cells]); simp [World.frozen?]
    have zW00 : w.heap.size < W0.heap.size := by rw [hW0]; simp <;> omega
    have BW0 : Below w.heap.size w W0 := by rw [hW0]; exact (Below.alloc (Below.refl _ _) (by simp <;> omega) _)
    have eW0 : Hid (W0.heap.size = w.heap.size + 1) := Lib.hid (by rw [hW0]; simp)
    clear hW0
    have E6 := Lib.hid (show Own6 W0 (w.heap.size) a b c d x y from ⟨⟨zW00, yW00_0, yW00_1, yW00_2, yW00_3, yW00_4, yW00_5⟩, fW00⟩)
    clear zW00 fW00 yW00_0 yW00_1 yW00_2 yW00_3 yW00_4 yW00_5 eW0
    refine (K.out _).mono ?_; rintro e w1 ⟨rfl, hbw1⟩
    have Bw1 := BW0.trans (hbw1.mono BW0.size)
    have E6 := Lib.hid (own6_below E6.out hbw1 E6.out.1.1)
    clear hbw1 BW0
    go_wp2_with fail
    go_ret2
    exact ⟨rfl, Bw1⟩
theorem mvPeg_any (a b c d x y p1 p2 : Int) (w : World) (ha : -10000000 ≤ a ∧ a ≤ 10000000) (hb : -10000000 ≤ b ∧ b ≤ 10000000) (hc : -10000000 ≤ c ∧ c ≤ 10000000) (hd : -10000000 ≤ d ∧ d ≤ 10000000) (hx : -1000000000 ≤ x ∧ x ≤ 1000000000) (hy : -1000000000 ≤ y ∧ y ≤ 1000000000) (hp : -100000 ≤ p1 ∧ p1 ≤ 100000) (hq : -100000 ≤ p2 ∧ p2 ≤ 100000) :
    Calls Try.prog 38 #[.agg #[.int .i64 a, .int .i64 b, .int .i64 c, .int .i64 d, .int .i64 x, .int .i64 y], .agg #[.int .i64 p1, .int .i64 p2]] w fun e w' => e = .returned (.agg #[.int .i64 (a * p1 + b * p2 + x), .int .i64 (c * p1 + d * p2 + y)]) ∧ Below w.heap.size w w' := by
  obtain ⟨m1, m2⟩ := mul_bd (x := a) (y := p1) (m := 10000000) (n := 100000) (by omega) (by omega) (by omega) (by omega)
  obtain ⟨m3, m4⟩ := mul_bd (x := b) (y := p2) (m := 10000000) (n := 100000) (by omega) (by omega) (by omega) (by omega)
  obtain ⟨m5, m6⟩ := mul_bd (x := c) (y := p1) (m := 10000000) (n := 100000) (by omega) (by omega) (by omega) (by omega)
  obtain ⟨m7, m8⟩ := mul_bd (x := d) (y := p2) (m := 10000000) (n := 100000) (by omega) (by omega) (by omega) (by omega)
  have s1 : IntKind.i64.wrap (a * p1) = a * p1 := IntWalk.i64_in _ (by omega)
  have s2 : IntKind.i64.wrap (b * p2) = b * p2 := IntWalk.i64_in _ (by omega)
  have s3 : IntKind.i64.wrap (c * p1) = c * p1 := IntWalk.i64_in _ (by omega)
  have s4 : IntKind.i64.wrap (d * p2) = d * p2 := IntWalk.i64_in _ (by omega)
  have s5 : IntKind.i64.wrap (a * p1 + b * p2) = a * p1 + b * p2 := IntWalk.i64_in _ (by omega)
  have s6 : IntKind.i64.wrap (c * p1 + d * p2) = c * p1 + d * p2 := IntWalk.i64_in _ (by omega)
  have s7 : IntKind.i64.wrap (a * p1 + b * p2 + x) = a * p1 + b * p2 + x := IntWalk.i64_in _ (by omega)
  have s8 : IntKind.i64.wrap (c * p1 + d * p2 + y) = c * p1 + d * p2 + y := IntWalk.i64_in _ (by omega)
  clear m1 m2 m3 m4 m5 m6 m7 m8 ha hb hc hd hx hy hp hq
  go_enter Try.func38, Try.ntmps38
  go_wp2_with fail
  exact bodyPost_ret (v := .agg #[.int .i64 (a * p1 + b * p2 + x), .int .i64 (c * p1 + d * p2 + y)]) (by simp [results, Try.results38, go_sem]) rfl ⟨rfl, (by repeat (first | exact Below.refl _ _ | assumption | apply Below.drew | refine Below.alloc ?_ (by simp <;> omega) _))⟩
theorem bring_any (a b c d x y p1 p2 : Int) (w : World) (ha : -10000000 ≤ a ∧ a ≤ 10000000) (hb : -10000000 ≤ b ∧ b ≤ 10000000) (hc : -10000000 ≤ c ∧ c ≤ 10000000) (hd : -10000000 ≤ d ∧ d ≤ 10000000) (hx : -1000000000 ≤ x ∧ x ≤ 1000000000) (hy : -1000000000 ≤ y ∧ y ≤ 1000000000) (hp : -100000 ≤ p1 ∧ p1 ≤ 100000) (hq : -100000 ≤ p2 ∧ p2 ≤ 100000) :
    Calls Try.prog 40 #[.agg #[.int .i64 a, .int .i64 b, .int .i64 c, .int .i64 d, .int .i64 x, .int .i64 y], .agg #[.int .i64 p1, .int .i64 p2]] w fun e w' => e = .returned (.agg #[.int .i64 (a * p1 + b * p2 + x), .int .i64 (c * p1 + d * p2 + y)]) ∧ Below w.heap.size w w' := by
  obtain ⟨m1, m2⟩ := mul_bd (x := a) (y := p1) (m := 10000000) (n := 100000) (by omega) (by omega) (by omega) (by omega)
  obtain ⟨m3, m4⟩ := mul_bd (x := b) (y := p2) (m := 10000000) (n := 100000) (by omega) (by omega) (by omega) (by omega)
  obtain ⟨m5, m6⟩ := mul_bd (x := c) (y := p1) (m := 10000000) (n := 100000) (by omega) (by omega) (by omega) (by omega)
  obtain ⟨m7, m8⟩ := mul_bd (x := d) (y := p2) (m := 10000000) (n := 100000) (by omega) (by omega) (by omega) (by omega)
  have s1 : IntKind.i64.wrap (a * p1) = a * p1 := IntWalk.i64_in _ (by omega)
  have s2 : IntKind.i64.wrap (b * p2) = b * p2 := IntWalk.i64_in _ (by omega)
  have s3 : IntKind.i64.wrap (c * p1) = c * p1 := IntWalk.i64_in _ (by omega)
  have s4 : IntKind.i64.wrap (d * p2) = d * p2 := IntWalk.i64_in _ (by omega)
  have s5 : IntKind.i64.wrap (a * p1 + b * p2) = a * p1 + b * p2 := IntWalk.i64_in _ (by omega)
  have s6 : IntKind.i64.wrap (c * p1 + d * p2) = c * p1 + d * p2 := IntWalk.i64_in _ (by omega)
  have s7 : IntKind.i64.wrap (a * p1 + b * p2 + x) = a * p1 + b * p2 + x := IntWalk.i64_in _ (by omega)
  have s8 : IntKind.i64.wrap (c * p1 + d * p2 + y) = c * p1 + d * p2 + y := IntWalk.i64_in _ (by omega)
  clear m1 m2 m3 m4 m5 m6 m7 m8 ha hb hc hd hx hy hp hq
  go_enter Try.func40, Try.ntmps40
  go_wp2_with fail
  exact bodyPost_ret (v := .agg #[.int .i64 (a * p1 + b * p2 + x), .int .i64 (c * p1 + d * p2 + y)]) (by simp [results, Try.results40, go_sem]) rfl ⟨rfl, (by repeat (first | exact Below.refl _ _ | assumption | apply Below.drew | refine Below.alloc ?_ (by simp <;> omega) _))⟩
end Go.Proofs.Ytjlihafpnppchaa
