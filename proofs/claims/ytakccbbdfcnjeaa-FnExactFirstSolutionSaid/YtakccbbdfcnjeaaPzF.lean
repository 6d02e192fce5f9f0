/- contracts: FirstSolution, on both sides -/
import Derived.Test.YtakccbbdfcnjeaaPzE
namespace Go.Proofs.Ytakccbbdfcnjeaa
open Go.ChangeShapes Go.WideShapes Go.ChangeAt Go.RowKit Go.Joins
set_option linter.unusedVariables false
set_option linter.unusedSimpArgs false
set_option maxRecDepth 4000
/-- the two boxes that FirstSolution makes: its puzzle, and its answer -/
structure Fs (w W : World) (s : Int) (A : Option Addr) (n c : Nat) : Prop where
  bel : Below w.heap.size w W
  z0 : w.heap.size < W.heap.size
  z1 : w.heap.size + 1 < W.heap.size
  p0 : W.cell? ⟨w.heap.size, 0, none⟩ = some (.int .i64 s)
  p1 : W.cell? ⟨w.heap.size, 1, none⟩ = some (.slice A n c)
  y0 : W.cell? ⟨w.heap.size + 1, 0, none⟩ = some (.int .i64 0)
  y1 : W.cell? ⟨w.heap.size + 1, 1, none⟩ = some (.int .i64 0)
  g0 : W.frozen? ⟨w.heap.size + 1, 0, none⟩ = false
  g1 : W.frozen? ⟨w.heap.size + 1, 1, none⟩ = false
theorem fs_new (w : World) (s : Int) (A : Option Addr) (n c T T' : Nat) : Fs w ((w.alloc (.cells #[.int .i64 s, .slice A n c] T)).alloc (.cells #[.int .i64 0, .int .i64 0] T')) s A n c :=
  ⟨Below.alloc (Below.alloc (Below.refl _ _) (Nat.le_refl _) _) (by simp <;> omega) _, by simp <;> omega, by simp <;> omega, by go_simp, by go_simp, by go_simp, by go_simp, by (repeat rw [frozen?_alloc_cells]); simp [World.frozen?], by (repeat rw [frozen?_alloc_cells]); simp [World.frozen?]⟩
theorem fs_below {w W W' : World} {s : Int} {A : Option Addr} {n c : Nat} (h : Fs w W s A n c) (hb : Below W.heap.size W W') : Fs w W' s A n c :=
  ⟨h.bel.trans (hb.mono h.bel.size), Nat.lt_of_lt_of_le h.z0 hb.size, Nat.lt_of_lt_of_le h.z1 hb.size, ((bcell hb).1 _ 0 h.z0).trans h.p0, ((bcell hb).1 _ 1 h.z0).trans h.p1, ((bcell hb).1 _ 0 h.z1).trans h.y0, ((bcell hb).1 _ 1 h.z1).trans h.y1, ((bcell hb).2 _ 0 h.z1).trans h.g0, ((bcell hb).2 _ 1 h.z1).trans h.g1⟩
theorem implFirstSolution_any (s : Int) (A : Option Addr) (c n : Nat) (f : Nat → Int) (w : World) (hm : n ≤ 1048576) (hR : RdI w w.heap.size A (n * 4) f) :
    Calls Try.prog 49 #[.agg #[.int .i64 s, .slice A n c]] w fun e w' => e = .returned (.tuple #[.agg #[.int .i64 (pt (solP s n f) 0).1, .int .i64 (pt (solP s n f) 0).2], .bool (decide (0 < (solP s n f).length))]) ∧ Below w.heap.size w w' := by
  have K := Lib.hid (fun W (hb : Below w.heap.size w W) => implSolutions_any s A c n f W hm (rdi_below hR hb (Nat.le_refl _)))
  clear hR
  generalize puzB s n f = b at *
  generalize solP s n f = m at *
  rcases Nat.eq_zero_or_pos m.length with h0 | h0
  · obtain rfl := List.eq_nil_of_length_eq_zero h0
    clear h0
    go_enter Try.func49, Try.ntmps49
    go_wp2_with fail
    obtain ⟨W1, hW1⟩ : ∃ W1, W1 = (w.alloc (.cells #[.int .i64 s, .slice A n c] 50)).alloc (.cells #[.int .i64 0, .int .i64 0] 25) := ⟨_, rfl⟩
    rw [← hW1]
    have F1 : Fs w W1 s A n c := by rw [hW1]; exact fs_new w s A n c _ _
    clear hW1
    have p0 := F1.p0
    have p1 := F1.p1
    have pz := F1.z0
    refine (K.out _ F1.bel).mono ?_; rintro e w1 ⟨A2, c2, rfl, q1, q2, hb2, q3⟩
    have F9 := fs_below F1 hb2
    clear q3 q1 q2 F1 hb2 p0 p1 pz K
    simp only [List.length_nil]
    have z0 := F9.z0
    have z1 := F9.z1
    have v0 := F9.y0
    have v1 := F9.y1
    have g0 := F9.g0
    have g1 := F9.g1
    have B9 := F9.bel
    have zz := B9.size
    clear F9
    go_wp2_with fail
    refine bodyPost_ret (v := .tuple #[.agg #[.int .i64 0, .int .i64 0], .bool false]) (by simp [results, Try.results49, go_sem, v0, v1, z0, z1]) rfl ⟨rfl, ?_⟩
    repeat (first | with_reducible assumption | with_reducible exact Below.refl _ _ | with_reducible apply Below.drew | ((with_reducible refine Below.setCell ?_ ?_ _); rotate_left; (first | exact Nat.le_refl _ | omega | (simp <;> omega))) | ((with_reducible refine Below.alloc ?_ ?_ _); rotate_left; (first | omega | (simp <;> omega))))
  · have hd : decide (0 < m.length) = true := decide_eq_true h0
    rw [hd]
    clear hd
    obtain ⟨x, y, hxy⟩ : ∃ x y, pt m 0 = (x, y) := ⟨_, _, rfl⟩
    rw [hxy]
    have hnz : ¬ ((m.length : Nat) : Int) = 0 := by omega
    go_enter Try.func49, Try.ntmps49
    go_wp2_with fail
    obtain ⟨W1, hW1⟩ : ∃ W1, W1 = (w.alloc (.cells #[.int .i64 s, .slice A n c] 50)).alloc (.cells #[.int .i64 0, .int .i64 0] 25) := ⟨_, rfl⟩
    rw [← hW1]
    have F1 : Fs w W1 s A n c := by rw [hW1]; exact fs_new w s A n c _ _
    clear hW1
    have p0 := F1.p0
    have p1 := F1.p1
    have pz := F1.z0
    refine (K.out _ F1.bel).mono ?_; rintro e w1 ⟨A2, c2, rfl, q1, q2, hb2, q3⟩
    have F9 := fs_below F1 hb2
    clear F1 hb2 p0 p1 pz K
    obtain ⟨bb, off, rfl, g1, g2, hc⟩ := q3 h0
    obtain ⟨⟨x0, x1⟩, _⟩ := hc 0 h0
    rw [hxy] at x0 x1
    simp only [Nat.zero_mul, Nat.add_zero] at x0 x1
    clear hc hxy g1 g2 q1 q2 q3
    have z0 := F9.z0
    have z1 := F9.z1
    have v0 := F9.y0
    have v1 := F9.y1
    have g0 := F9.g0
    have g1 := F9.g1
    have B9 := F9.bel
    have zz := B9.size
    clear F9
    go_wp2_with fail
    refine bodyPost_ret (v := .tuple #[.agg #[.int .i64 x, .int .i64 y], .bool true]) (by simp [results, Try.results49, go_sem, v0, v1, z0, z1]) rfl ⟨rfl, ?_⟩
    repeat (first | with_reducible assumption | with_reducible exact Below.refl _ _ | with_reducible apply Below.drew | ((with_reducible refine Below.setCell ?_ ?_ _); rotate_left; (first | exact Nat.le_refl _ | omega | (simp <;> omega))) | ((with_reducible refine Below.alloc ?_ ?_ _); rotate_left; (first | omega | (simp <;> omega))))
theorem specFirstSolution_any (s : Int) (A : Option Addr) (c n : Nat) (f : Nat → Int) (w : World) (hm : n ≤ 1048576) (hR : RdI w w.heap.size A (n * 4) f) :
    Calls Try.prog 48 #[.agg #[.int .i64 s, .slice A n c]] w fun e w' => e = .returned (.tuple #[.agg #[.int .i64 (pt (solP s n f) 0).1, .int .i64 (pt (solP s n f) 0).2], .bool (decide (0 < (solP s n f).length))]) ∧ Below w.heap.size w w' := by
  have K := Lib.hid (fun W (hb : Below w.heap.size w W) => pzGood_any s A c n f W hm (rdi_below hR hb (Nat.le_refl _)))
  cases hp : puzB s n f
  · rw [solP_f hp]
    rw [hp] at K
    clear hp hR
    go_enter Try.func48, Try.ntmps48
    go_wp2_with fail
    obtain ⟨W1, hW1⟩ : ∃ W1, W1 = (w.alloc (.cells #[.int .i64 s, .slice A n c] 50)).alloc (.cells #[.int .i64 0, .int .i64 0] 25) := ⟨_, rfl⟩
    rw [← hW1]
    have F1 : Fs w W1 s A n c := by rw [hW1]; exact fs_new w s A n c _ _
    clear hW1
    have p0 := F1.p0
    have p1 := F1.p1
    have pz := F1.z0
    refine (K.out _ F1.bel).mono ?_; rintro e w1 ⟨rfl, hb1⟩
    have F9 := fs_below F1 hb1
    clear F1 hb1 p0 p1 pz K
    have z0 := F9.z0
    have z1 := F9.z1
    have v0 := F9.y0
    have v1 := F9.y1
    have g0 := F9.g0
    have g1 := F9.g1
    have B9 := F9.bel
    have zz := B9.size
    clear F9
    go_wp2_with fail
    refine bodyPost_ret (v := .tuple #[.agg #[.int .i64 0, .int .i64 0], .bool false]) (by simp [results, Try.results48, go_sem, v0, v1, z0, z1]) rfl ⟨rfl, ?_⟩
    repeat (first | with_reducible assumption | with_reducible exact Below.refl _ _ | with_reducible apply Below.drew | ((with_reducible refine Below.setCell ?_ ?_ _); rotate_left; (first | exact Nat.le_refl _ | omega | (simp <;> omega))) | ((with_reducible refine Below.alloc ?_ ?_ _); rotate_left; (first | omega | (simp <;> omega))))
  · obtain ⟨ns, rfl⟩ := nat_of hp
    rw [solP_t hp]
    have K2 := Lib.hid (fun W (hb : Below w.heap.size w W) => pzAll_any ns A c n f W hp (rdi_below hR hb (Nat.le_refl _)))
    rw [hp] at K
    clear hp hR
    generalize solK f n (ns + 1) ((ns + 1) * (ns + 1)) = m at *
    rcases Nat.eq_zero_or_pos m.length with h0 | h0
    · obtain rfl := List.eq_nil_of_length_eq_zero h0
      clear h0
      go_enter Try.func48, Try.ntmps48
      go_wp2_with fail
      obtain ⟨W1, hW1⟩ : ∃ W1, W1 = (w.alloc (.cells #[.int .i64 (ns : Int), .slice A n c] 50)).alloc (.cells #[.int .i64 0, .int .i64 0] 25) := ⟨_, rfl⟩
      rw [← hW1]
      have F1 : Fs w W1 (ns : Int) A n c := by rw [hW1]; exact fs_new w (ns : Int) A n c _ _
      clear hW1
      have p0 := F1.p0
      have p1 := F1.p1
      have pz := F1.z0
      refine (K.out _ F1.bel).mono ?_; rintro e w1 ⟨rfl, hb1⟩
      have F2 := fs_below F1 hb1
      clear F1 hb1 p0 p1 pz K
      have p0 := F2.p0
      have p1 := F2.p1
      have pz := F2.z0
      go_wp2_with fail
      refine (K2.out _ F2.bel).mono ?_; rintro e w2 ⟨A2, c2, rfl, q1, q2, hb2, q3⟩
      have F9 := fs_below F2 hb2
      clear F2 hb2 p0 p1 pz K2
      clear q3 q1 q2
      simp only [List.length_nil]
      have z0 := F9.z0
      have z1 := F9.z1
      have v0 := F9.y0
      have v1 := F9.y1
      have g0 := F9.g0
      have g1 := F9.g1
      have B9 := F9.bel
      have zz := B9.size
      clear F9
      go_wp2_with fail
      refine bodyPost_ret (v := .tuple #[.agg #[.int .i64 0, .int .i64 0], .bool false]) (by simp [results, Try.results48, go_sem, v0, v1, z0, z1]) rfl ⟨rfl, ?_⟩
      repeat (first | with_reducible assumption | with_reducible exact Below.refl _ _ | with_reducible apply Below.drew | ((with_reducible refine Below.setCell ?_ ?_ _); rotate_left; (first | exact Nat.le_refl _ | omega | (simp <;> omega))) | ((with_reducible refine Below.alloc ?_ ?_ _); rotate_left; (first | omega | (simp <;> omega))))
    · have hd : decide (0 < m.length) = true := decide_eq_true h0
      rw [hd]
      clear hd
      obtain ⟨x, y, hxy⟩ : ∃ x y, pt m 0 = (x, y) := ⟨_, _, rfl⟩
      rw [hxy]
      have hnz : ¬ ((m.length : Nat) : Int) = 0 := by omega
      go_enter Try.func48, Try.ntmps48
      go_wp2_with fail
      obtain ⟨W1, hW1⟩ : ∃ W1, W1 = (w.alloc (.cells #[.int .i64 (ns : Int), .slice A n c] 50)).alloc (.cells #[.int .i64 0, .int .i64 0] 25) := ⟨_, rfl⟩
      rw [← hW1]
      have F1 : Fs w W1 (ns : Int) A n c := by rw [hW1]; exact fs_new w (ns : Int) A n c _ _
      clear hW1
      have p0 := F1.p0
      have p1 := F1.p1
      have pz := F1.z0
      refine (K.out _ F1.bel).mono ?_; rintro e w1 ⟨rfl, hb1⟩
      have F2 := fs_below F1 hb1
      clear F1 hb1 p0 p1 pz K
      have p0 := F2.p0
      have p1 := F2.p1
      have pz := F2.z0
      go_wp2_with fail
      refine (K2.out _ F2.bel).mono ?_; rintro e w2 ⟨A2, c2, rfl, q1, q2, hb2, q3⟩
      have F9 := fs_below F2 hb2
      clear F2 hb2 p0 p1 pz K2
      obtain ⟨bb, off, rfl, g1, g2, hc⟩ := q3 h0
      obtain ⟨⟨x0, x1⟩, _⟩ := hc 0 h0
      rw [hxy] at x0 x1
      simp only [Nat.zero_mul, Nat.add_zero] at x0 x1
      clear hc hxy g1 g2 q1 q2 q3
      have z0 := F9.z0
      have z1 := F9.z1
      have v0 := F9.y0
      have v1 := F9.y1
      have g0 := F9.g0
      have g1 := F9.g1
      have B9 := F9.bel
      have zz := B9.size
      clear F9
      go_wp2_with fail
      refine bodyPost_ret (v := .tuple #[.agg #[.int .i64 x, .int .i64 y], .bool true]) (by simp [results, Try.results48, go_sem, v0, v1, z0, z1]) rfl ⟨rfl, ?_⟩
      repeat (first | with_reducible assumption | with_reducible exact Below.refl _ _ | with_reducible apply Below.drew | ((with_reducible refine Below.setCell ?_ ?_ _); rotate_left; (first | exact Nat.le_refl _ | omega | (simp <;> omega))) | ((with_reducible refine Below.alloc ?_ ?_ _); rotate_left; (first | omega | (simp <;> omega))))
end Go.Proofs.Ytakccbbdfcnjeaa
