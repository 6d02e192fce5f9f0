/- contracts: what is a move, the model -/
import Derived.Test.YtieimijkkjhegaaMa
import Derived.Test.YtieimijkkjhegaaC
namespace Go.Proofs.Ytieimijkkjhegaa
open Go.ChangeShapes Go.WideShapes Go.ChangeAt Go.RowKit Go.Joins
set_option linter.unusedVariables false
set_option linter.unusedSimpArgs false
set_option maxRecDepth 4000
def q4 (a b c d : Int) : Nat → Int
  | 0 => a | 1 => b | 2 => c | _ => d
def q2 (x y : Int) : Nat → Int
  | 0 => x | _ => y
def boxM (a b c d x y : Int) : Bool := allIn (-20) 20 (q4 a b c d) 4 && allIn (-80) 80 (q2 x y) 2
def goodM (a b c d x y : Int) : Bool := boxM a b c d x y && decide (((a * d - b * c).natAbs : Int) = 1)
theorem all4 (a b c d : Int) (lo hi : Int) : allIn lo hi (q4 a b c d) 4 = (inQ lo hi a && inQ lo hi b && inQ lo hi c && inQ lo hi d) := rfl
theorem all2 (a b : Int) (lo hi : Int) : allIn lo hi (q2 a b) 2 = (inQ lo hi a && inQ lo hi b) := rfl
theorem all4_bd {a b c d : Int} (h : allIn (-20) 20 (q4 a b c d) 4 = true) : (-20 ≤ a ∧ a ≤ 20) ∧ (-20 ≤ b ∧ b ≤ 20) ∧ (-20 ≤ c ∧ c ≤ 20) ∧ (-20 ≤ d ∧ d ≤ 20) := by
  rw [all4] at h; unfold inQ at h; simp only [Bool.and_eq_true, decide_eq_true_eq] at h; omega
theorem wide4 {a b c d : Int} (h : allIn (-20) 20 (q4 a b c d) 4 = true) : (-10000000 ≤ a ∧ a ≤ 10000000) ∧ (-10000000 ≤ b ∧ b ≤ 10000000) ∧ (-10000000 ≤ c ∧ c ≤ 10000000) ∧ (-10000000 ≤ d ∧ d ≤ 10000000) := by
  have := all4_bd h; omega
theorem all2_bd {x y : Int} (h : allIn (-80) 80 (q2 x y) 2 = true) : (-80 ≤ x ∧ x ≤ 80) ∧ (-80 ≤ y ∧ y ≤ 80) := by
  rw [all2] at h; unfold inQ at h; simp only [Bool.and_eq_true, decide_eq_true_eq] at h; omega
/-- the products of a move's side are small -/
theorem side_bd {a b c d : Int} (h : allIn (-20) 20 (q4 a b c d) 4 = true) : (-400 ≤ a * d ∧ a * d ≤ 400) ∧ (-400 ≤ b * c ∧ b * c ≤ 400) := by
  obtain ⟨⟨h1, h2⟩, ⟨h3, h4⟩, ⟨h5, h6⟩, ⟨h7, h8⟩⟩ := all4_bd h
  have m1 := mul_bd (x := a) (y := d) (m := 20) (n := 20) (by omega) (by omega) (by omega) (by omega)
  have m2 := mul_bd (x := b) (y := c) (m := 20) (n := 20) (by omega) (by omega) (by omega) (by omega)
  omega
theorem rdi4 {w : World} {g : Nat} {a b c d : Int} (hz : g < w.heap.size) (h0 : w.cell? ⟨g, 0, none⟩ = some (.int .i64 a)) (h1 : w.cell? ⟨g, 1, none⟩ = some (.int .i64 b)) (h2 : w.cell? ⟨g, 2, none⟩ = some (.int .i64 c)) (h3 : w.cell? ⟨g, 3, none⟩ = some (.int .i64 d)) :
    RdI w w.heap.size (some ⟨g, 0, none⟩) 4 (q4 a b c d) := fun _ => ⟨g, 0, rfl, hz, fun i hi => by
  rw [Nat.zero_add]
  rcases (show i = 0 ∨ i = 1 ∨ i = 2 ∨ i = 3 by omega) with rfl | rfl | rfl | rfl <;> assumption⟩
theorem rdi2 {w : World} {g : Nat} {a b : Int} (hz : g < w.heap.size) (h0 : w.cell? ⟨g, 0, none⟩ = some (.int .i64 a)) (h1 : w.cell? ⟨g, 1, none⟩ = some (.int .i64 b)) :
    RdI w w.heap.size (some ⟨g, 0, none⟩) 2 (q2 a b) := fun _ => ⟨g, 0, rfl, hz, fun i hi => by
  rw [Nat.zero_add]
  rcases (show i = 0 ∨ i = 1 by omega) with rfl | rfl <;> assumption⟩
/-- six numbers of a move in memory -/
def At6 (w : World) (g : Nat) (a b c d x y : Int) : Prop := g < w.heap.size ∧ w.cell? ⟨g, 0, none⟩ = some (.int .i64 a) ∧ w.cell? ⟨g, 1, none⟩ = some (.int .i64 b) ∧ w.cell? ⟨g, 2, none⟩ = some (.int .i64 c) ∧ w.cell? ⟨g, 3, none⟩ = some (.int .i64 d) ∧ w.cell? ⟨g, 4, none⟩ = some (.int .i64 x) ∧ w.cell? ⟨g, 5, none⟩ = some (.int .i64 y)
theorem at6_below {w w' : World} {g : Nat} {a b c d x y : Int} (h : At6 w g a b c d x y) {B : Nat} (hb : Below B w w') (hg : g < B) : At6 w' g a b c d x y := by
  obtain ⟨h0, h1, h2, h3, h4, h5, h6⟩ := h
  have k := fun o => hb.cell (p := ⟨g, o, none⟩) hg
  have := hb.size
  exact ⟨by omega, (k _).trans h1, (k _).trans h2, (k _).trans h3, (k _).trans h4, (k _).trans h5, (k _).trans h6⟩
set_option maxHeartbeats 1000000 in
theorem mvGood_any (a b c d x y : Int) (w : World) :
    Calls Try.prog 67 #[.agg #[.int .i64 a, .int .i64 b, .int .i64 c, .int .i64 d, .int .i64 x, .int .i64 y]] w fun e w' => e = .returned (.bool (goodM a b c d x y)) ∧ Below w.heap.size w w' := by
  have KA := Lib.hid (fun (A : Option Addr) W h => l1All_any A 4 4 (q4 a b c d) (-20) 20 W (by omega) h)
  have KB := Lib.hid (fun (A : Option Addr) W h => l1All_any A 2 2 (q2 x y) (-80) 80 W (by omega) h)
  by_cases h4 : allIn (-20) 20 (q4 a b c d) 4 = true
  · by_cases h2 : allIn (-80) 80 (q2 x y) 2 = true
    · have e : goodM a b c d x y = decide (((a * d - b * c).natAbs : Int) = 1) := by unfold goodM boxM; rw [h4, h2]; rfl
      obtain ⟨⟨u1, u2⟩, ⟨u3, u4⟩⟩ := side_bd h4
      have KC := Lib.hid (fun W => l1Abs_any (a * d - b * c) W (by omega) (by omega))
      rw [e]
      rw [h4] at KA
      rw [h2] at KB
      clear e h4 h2
      by_cases hs : ((a * d - b * c).natAbs : Int) = 1
      all_goals
        go_enter Try.func67, Try.ntmps67
        go_wp2_with fail
        obtain ⟨W1, hW1⟩ : ∃ W1, W1 = ((w.alloc (.cells #[.int .i64 a, .int .i64 b, .int .i64 c, .int .i64 d, .int .i64 x, .int .i64 y] 37)).alloc (.cells #[.int .i64 a, .int .i64 b, .int .i64 c, .int .i64 d] 3)) := ⟨_, rfl⟩
        rw [← hW1]
        have yW10_0 : W1.cell? ⟨w.heap.size, 0, none⟩ = some (.int .i64 a) := by rw [hW1]; go_simp
        have yW10_1 : W1.cell? ⟨w.heap.size, 1, none⟩ = some (.int .i64 b) := by rw [hW1]; go_simp
        have yW10_2 : W1.cell? ⟨w.heap.size, 2, none⟩ = some (.int .i64 c) := by rw [hW1]; go_simp
        have yW10_3 : W1.cell? ⟨w.heap.size, 3, none⟩ = some (.int .i64 d) := by rw [hW1]; go_simp
        have yW10_4 : W1.cell? ⟨w.heap.size, 4, none⟩ = some (.int .i64 x) := by rw [hW1]; go_simp
        have yW10_5 : W1.cell? ⟨w.heap.size, 5, none⟩ = some (.int .i64 y) := by rw [hW1]; go_simp
        have fW10 : ∀ o, W1.frozen? ⟨w.heap.size, o, none⟩ = false := by intro o; rw [hW1]; (repeat rw [frozen?_alloc_cells]); simp [World.frozen?]
        have zW10 : w.heap.size < W1.heap.size := by rw [hW1]; simp <;> omega
        have yW11_0 : W1.cell? ⟨w.heap.size + 1, 0, none⟩ = some (.int .i64 a) := by rw [hW1]; go_simp
        have yW11_1 : W1.cell? ⟨w.heap.size + 1, 1, none⟩ = some (.int .i64 b) := by rw [hW1]; go_simp
        have yW11_2 : W1.cell? ⟨w.heap.size + 1, 2, none⟩ = some (.int .i64 c) := by rw [hW1]; go_simp
        have yW11_3 : W1.cell? ⟨w.heap.size + 1, 3, none⟩ = some (.int .i64 d) := by rw [hW1]; go_simp
        have fW11 : ∀ o, W1.frozen? ⟨w.heap.size + 1, o, none⟩ = false := by intro o; rw [hW1]; (repeat rw [frozen?_alloc_cells]); simp [World.frozen?]
        have zW11 : w.heap.size + 1 < W1.heap.size := by rw [hW1]; simp <;> omega
        have BW1 : Below w.heap.size w W1 := by rw [hW1]; exact (Below.alloc (Below.alloc (Below.refl _ _) (by simp <;> omega) _) (by simp <;> omega) _)
        have eW1 : Hid (W1.heap.size = w.heap.size + 2) := Lib.hid (by rw [hW1]; simp)
        clear hW1
        have Z1 := eW1.out
        have E1 := Lib.hid (at6_below (B := W1.heap.size) (w := W1) (w' := W1) ⟨by omega, yW10_0, yW10_1, yW10_2, yW10_3, yW10_4, yW10_5⟩ (Below.refl _ _) (by omega))
        refine (KA.out _ _ (rdi4 (by omega) yW11_0 yW11_1 yW11_2 yW11_3)).mono ?_; rintro e w2 ⟨rfl, hb2⟩
        have B2 := BW1.trans (hb2.mono (by omega))
        have E2 := at6_below E1.out hb2 (by omega)
        clear yW10_0 yW10_1 yW10_2 yW10_3 yW10_4 yW10_5 yW11_0 yW11_1 yW11_2 yW11_3 fW10 fW11 zW10 zW11 BW1 E1 eW1 Z1 hb2
        obtain ⟨z2, y0, y1, y2, y3, y4, y5⟩ := E2
        have E2 := Lib.hid (show At6 w2 w.heap.size a b c d x y from ⟨z2, y0, y1, y2, y3, y4, y5⟩)
        go_wp2_with fail
        obtain ⟨W3, hW3⟩ : ∃ W3, W3 = (w2.alloc (.cells #[.int .i64 x, .int .i64 y] 3)) := ⟨_, rfl⟩
        rw [← hW3]
        have yW30_0 : W3.cell? ⟨w2.heap.size, 0, none⟩ = some (.int .i64 x) := by rw [hW3]; go_simp
        have yW30_1 : W3.cell? ⟨w2.heap.size, 1, none⟩ = some (.int .i64 y) := by rw [hW3]; go_simp
        have fW30 : ∀ o, W3.frozen? ⟨w2.heap.size, o, none⟩ = false := by intro o; rw [hW3]; (repeat rw [frozen?_alloc_cells]); simp [World.frozen?]
        have zW30 : w2.heap.size < W3.heap.size := by rw [hW3]; simp <;> omega
        have BW3 : Below w2.heap.size w2 W3 := by rw [hW3]; exact (Below.alloc (Below.refl _ _) (by simp <;> omega) _)
        have eW3 : Hid (W3.heap.size = w2.heap.size + 1) := Lib.hid (by rw [hW3]; simp)
        clear hW3
        have Z3 := eW3.out
        refine (KB.out _ _ (rdi2 (by omega) yW30_0 yW30_1)).mono ?_; rintro e w4 ⟨rfl, hb4⟩
        have E4 := at6_below (at6_below E2.out BW3 z2) hb4 (by omega)
        have B4 := (B2.trans (BW3.mono B2.size)).trans (hb4.mono (by have := B2.size; omega))
        clear y0 y1 y2 y3 y4 y5 E2 z2 B2 BW3 hb4 yW30_0 yW30_1 fW30 zW30 eW3 Z3
        obtain ⟨z2, y0, y1, y2, y3, y4, y5⟩ := E4
        go_wp2_with fail
        refine (KC.out _).mono ?_; rintro e _ ⟨rfl, rfl⟩
        go_wp2_with fail
        go_ret
        exact ⟨ret_bool (by simp [hs]), B4⟩
    · have h2 : allIn (-80) 80 (q2 x y) 2 = false := by simpa using h2
      have e : goodM a b c d x y = false := by unfold goodM boxM; rw [h4, h2]; rfl
      rw [e]
      rw [h4] at KA
      rw [h2] at KB
      clear e h4 h2
      go_enter Try.func67, Try.ntmps67
      go_wp2_with fail
      obtain ⟨W1, hW1⟩ : ∃ W1, W1 = ((w.alloc (.cells #[.int .i64 a, .int .i64 b, .int .i64 c, .int .i64 d, .int .i64 x, .int .i64 y] 37)).alloc (.cells #[.int .i64 a, .int .i64 b, .int .i64 c, .int .i64 d] 3)) := ⟨_, rfl⟩
      rw [← hW1]
      have yW10_0 : W1.cell? ⟨w.heap.size, 0, none⟩ = some (.int .i64 a) := by rw [hW1]; go_simp
      have yW10_1 : W1.cell? ⟨w.heap.size, 1, none⟩ = some (.int .i64 b) := by rw [hW1]; go_simp
      have yW10_2 : W1.cell? ⟨w.heap.size, 2, none⟩ = some (.int .i64 c) := by rw [hW1]; go_simp
      have yW10_3 : W1.cell? ⟨w.heap.size, 3, none⟩ = some (.int .i64 d) := by rw [hW1]; go_simp
      have yW10_4 : W1.cell? ⟨w.heap.size, 4, none⟩ = some (.int .i64 x) := by rw [hW1]; go_simp
      have yW10_5 : W1.cell? ⟨w.heap.size, 5, none⟩ = some (.int .i64 y) := by rw [hW1]; go_simp
      have fW10 : ∀ o, W1.frozen? ⟨w.heap.size, o, none⟩ = false := by intro o; rw [hW1]; (repeat rw [frozen?_alloc_cells]); simp [World.frozen?]
      have zW10 : w.heap.size < W1.heap.size := by rw [hW1]; simp <;> omega
      have yW11_0 : W1.cell? ⟨w.heap.size + 1, 0, none⟩ = some (.int .i64 a) := by rw [hW1]; go_simp
      have yW11_1 : W1.cell? ⟨w.heap.size + 1, 1, none⟩ = some (.int .i64 b) := by rw [hW1]; go_simp
      have yW11_2 : W1.cell? ⟨w.heap.size + 1, 2, none⟩ = some (.int .i64 c) := by rw [hW1]; go_simp
      have yW11_3 : W1.cell? ⟨w.heap.size + 1, 3, none⟩ = some (.int .i64 d) := by rw [hW1]; go_simp
      have fW11 : ∀ o, W1.frozen? ⟨w.heap.size + 1, o, none⟩ = false := by intro o; rw [hW1]; (repeat rw [frozen?_alloc_cells]); simp [World.frozen?]
      have zW11 : w.heap.size + 1 < W1.heap.size := by rw [hW1]; simp <;> omega
      have BW1 : Below w.heap.size w W1 := by rw [hW1]; exact (Below.alloc (Below.alloc (Below.refl _ _) (by simp <;> omega) _) (by simp <;> omega) _)
      have eW1 : Hid (W1.heap.size = w.heap.size + 2) := Lib.hid (by rw [hW1]; simp)
      clear hW1
      have Z1 := eW1.out
      have E1 := Lib.hid (at6_below (B := W1.heap.size) (w := W1) (w' := W1) ⟨by omega, yW10_0, yW10_1, yW10_2, yW10_3, yW10_4, yW10_5⟩ (Below.refl _ _) (by omega))
      refine (KA.out _ _ (rdi4 (by omega) yW11_0 yW11_1 yW11_2 yW11_3)).mono ?_; rintro e w2 ⟨rfl, hb2⟩
      have B2 := BW1.trans (hb2.mono (by omega))
      have E2 := at6_below E1.out hb2 (by omega)
      clear yW10_0 yW10_1 yW10_2 yW10_3 yW10_4 yW10_5 yW11_0 yW11_1 yW11_2 yW11_3 fW10 fW11 zW10 zW11 BW1 E1 eW1 Z1 hb2
      obtain ⟨z2, y0, y1, y2, y3, y4, y5⟩ := E2
      have E2 := Lib.hid (show At6 w2 w.heap.size a b c d x y from ⟨z2, y0, y1, y2, y3, y4, y5⟩)
      go_wp2_with fail
      obtain ⟨W3, hW3⟩ : ∃ W3, W3 = (w2.alloc (.cells #[.int .i64 x, .int .i64 y] 3)) := ⟨_, rfl⟩
      rw [← hW3]
      have yW30_0 : W3.cell? ⟨w2.heap.size, 0, none⟩ = some (.int .i64 x) := by rw [hW3]; go_simp
      have yW30_1 : W3.cell? ⟨w2.heap.size, 1, none⟩ = some (.int .i64 y) := by rw [hW3]; go_simp
      have fW30 : ∀ o, W3.frozen? ⟨w2.heap.size, o, none⟩ = false := by intro o; rw [hW3]; (repeat rw [frozen?_alloc_cells]); simp [World.frozen?]
      have zW30 : w2.heap.size < W3.heap.size := by rw [hW3]; simp <;> omega
      have BW3 : Below w2.heap.size w2 W3 := by rw [hW3]; exact (Below.alloc (Below.refl _ _) (by simp <;> omega) _)
      have eW3 : Hid (W3.heap.size = w2.heap.size + 1) := Lib.hid (by rw [hW3]; simp)
      clear hW3
      have Z3 := eW3.out
      refine (KB.out _ _ (rdi2 (by omega) yW30_0 yW30_1)).mono ?_; rintro e w4 ⟨rfl, hb4⟩
      have B4 := (B2.trans (BW3.mono B2.size)).trans (hb4.mono (by have := B2.size; omega))
      clear y0 y1 y2 y3 y4 y5 E2 z2 B2 BW3 hb4 yW30_0 yW30_1 fW30 zW30 eW3 Z3
      go_wp2_with fail
      go_ret
      exact ⟨rfl, B4⟩
  · have h4 : allIn (-20) 20 (q4 a b c d) 4 = false := by simpa using h4
    have e : goodM a b c d x y = false := by unfold goodM boxM; rw [h4]; rfl
    rw [e]
    rw [h4] at KA
    clear e h4 KB
    go_enter Try.func67, Try.ntmps67
    go_wp2_with fail
    obtain ⟨W1, hW1⟩ : ∃ W1, W1 = ((w.alloc (.cells #[.int .i64 a, .int .i64 b, .int .i64 c, .int .i64 d, .int .i64 x, .int .i64 y] 37)).alloc (.cells #[.int .i64 a, .int .i64 b, .int .i64 c, .int .i64 d] 3)) := ⟨_, rfl⟩
    rw [← hW1]
    have yW10_0 : W1.cell? ⟨w.heap.size, 0, none⟩ = some (.int .i64 a) := by rw [hW1]; go_simp
    have yW10_1 : W1.cell? ⟨w.heap.size, 1, none⟩ = some (.int .i64 b) := by rw [hW1]; go_simp
    have yW10_2 : W1.cell? ⟨w.heap.size, 2, none⟩ = some (.int .i64 c) := by rw [hW1]; go_simp
    have yW10_3 : W1.cell? ⟨w.heap.size, 3, none⟩ = some (.int .i64 d) := by rw [hW1]; go_simp
    have yW10_4 : W1.cell? ⟨w.heap.size, 4, none⟩ = some (.int .i64 x) := by rw [hW1]; go_simp
    have yW10_5 : W1.cell? ⟨w.heap.size, 5, none⟩ = some (.int .i64 y) := by rw [hW1]; go_simp
    have fW10 : ∀ o, W1.frozen? ⟨w.heap.size, o, none⟩ = false := by intro o; rw [hW1]; (repeat rw [frozen?_alloc_cells]); simp [World.frozen?]
    have zW10 : w.heap.size < W1.heap.size := by rw [hW1]; simp <;> omega
    have yW11_0 : W1.cell? ⟨w.heap.size + 1, 0, none⟩ = some (.int .i64 a) := by rw [hW1]; go_simp
    have yW11_1 : W1.cell? ⟨w.heap.size + 1, 1, none⟩ = some (.int .i64 b) := by rw [hW1]; go_simp
    have yW11_2 : W1.cell? ⟨w.heap.size + 1, 2, none⟩ = some (.int .i64 c) := by rw [hW1]; go_simp
    have yW11_3 : W1.cell? ⟨w.heap.size + 1, 3, none⟩ = some (.int .i64 d) := by rw [hW1]; go_simp
    have fW11 : ∀ o, W1.frozen? ⟨w.heap.size + 1, o, none⟩ = false := by intro o; rw [hW1]; (repeat rw [frozen?_alloc_cells]); simp [World.frozen?]
    have zW11 : w.heap.size + 1 < W1.heap.size := by rw [hW1]; simp <;> omega
    have BW1 : Below w.heap.size w W1 := by rw [hW1]; exact (Below.alloc (Below.alloc (Below.refl _ _) (by simp <;> omega) _) (by simp <;> omega) _)
    have eW1 : Hid (W1.heap.size = w.heap.size + 2) := Lib.hid (by rw [hW1]; simp)
    clear hW1
    have Z1 := eW1.out
    refine (KA.out _ _ (rdi4 (by omega) yW11_0 yW11_1 yW11_2 yW11_3)).mono ?_; rintro e w2 ⟨rfl, hb2⟩
    have B2 := BW1.trans (hb2.mono (by omega))
    clear yW10_0 yW10_1 yW10_2 yW10_3 yW10_4 yW10_5 yW11_0 yW11_1 yW11_2 yW11_3 fW10 fW11 zW10 zW11 BW1 eW1 Z1 hb2
    go_wp2_with fail
    go_ret
    exact ⟨rfl, B2⟩
end Go.Proofs.Ytieimijkkjhegaa
