/- contracts: pegs that are seen from one, both sides -/
import Derived.Test.YtmhdbodmpohdnaaOf
import Derived.Test.YtmhdbodmpohdnaaMps
namespace Go.Proofs.Ytmhdbodmpohdnaa
open Go.ChangeShapes Go.WideShapes Go.ChangeAt Go.RowKit Go.Joins
set_option linter.unusedVariables false
set_option linter.unusedSimpArgs false
set_option maxRecDepth 4000
/-- is the peg one of the board? -/
def ofB (w h p1 p2 : Int) : Bool := decide (0 ≤ p1) && decide (p1 ≤ w - 1) && (decide (0 ≤ p2) && decide (p2 ≤ h - 1))
def sawB (w h p1 p2 : Int) : Bool := bdB 12 w h && ofB w h p1 p2
def sawN (w h p1 p2 : Int) : Int := bdV (sawB w h p1 p2) (sm (awF p1 p2 1 h.toNat) (w.toNat * h.toNat))
theorem stepN_self (a b : Int) : stepN a b a b = 0 := by unfold stepN; simp
theorem ofB_true {w h p1 p2 : Int} (q : ofB w h p1 p2 = true) : 0 ≤ p1 ∧ p1 ≤ w - 1 ∧ 0 ≤ p2 ∧ p2 ≤ h - 1 := by
  unfold ofB at q
  simp at q
  omega
theorem ofB_false {w h p1 p2 : Int} (q : ofB w h p1 p2 = false) : ¬ (0 ≤ p1 ∧ p1 ≤ w - 1 ∧ 0 ≤ p2 ∧ p2 ≤ h - 1) := by
  unfold ofB at q
  simp at q
  omega
theorem has_any (w h p1 p2 : Int) (W : World) (hw : -1000 ≤ w ∧ w ≤ 1000) (hh : -1000 ≤ h ∧ h ≤ 1000) :
    Calls Try.prog 46 #[.agg #[.int .i64 w, .int .i64 h], .agg #[.int .i64 p1, .int .i64 p2]] W fun e w' => e = .returned (.bool (ofB w h p1 p2)) ∧ Below W.heap.size W w' := by
  by_cases g1 : 0 ≤ p1
  · by_cases g2 : p1 < w
    · by_cases g3 : 0 ≤ p2
      · by_cases g4 : p2 < h
        · have hr : Hid (ofB w h p1 p2 = true) := Lib.hid (by unfold ofB; simp; omega)
          go_enter Try.func46, Try.ntmps46
          go_wp2
          go_ret
          exact ⟨ret_bool hr.out.symm, (by repeat (first | exact Below.refl _ _ | assumption | apply Below.drew | refine Below.alloc ?_ (by simp <;> omega) _))⟩
        · have hr : Hid (ofB w h p1 p2 = false) := Lib.hid (by unfold ofB; simp; omega)
          go_enter Try.func46, Try.ntmps46
          go_wp2
          go_ret
          exact ⟨ret_bool hr.out.symm, (by repeat (first | exact Below.refl _ _ | assumption | apply Below.drew | refine Below.alloc ?_ (by simp <;> omega) _))⟩
      · have hr : Hid (ofB w h p1 p2 = false) := Lib.hid (by unfold ofB; simp; omega)
        go_enter Try.func46, Try.ntmps46
        go_wp2
        go_ret
        exact ⟨ret_bool hr.out.symm, (by repeat (first | exact Below.refl _ _ | assumption | apply Below.drew | refine Below.alloc ?_ (by simp <;> omega) _))⟩
    · have hr : Hid (ofB w h p1 p2 = false) := Lib.hid (by unfold ofB; simp; omega)
      go_enter Try.func46, Try.ntmps46
      go_wp2
      go_ret
      exact ⟨ret_bool hr.out.symm, (by repeat (first | exact Below.refl _ _ | assumption | apply Below.drew | refine Below.alloc ?_ (by simp <;> omega) _))⟩
  · have hr : Hid (ofB w h p1 p2 = false) := Lib.hid (by unfold ofB; simp; omega)
    go_enter Try.func46, Try.ntmps46
    go_wp2
    go_ret
    exact ⟨ret_bool hr.out.symm, (by repeat (first | exact Below.refl _ _ | assumption | apply Below.drew | refine Below.alloc ?_ (by simp <;> omega) _))⟩
set_option maxHeartbeats 2000000 in
theorem implPegsSeen_any (w h p1 p2 : Int) (W : World) :
    Calls Try.prog 23 #[.int .i64 w, .int .i64 h, .agg #[.int .i64 p1, .int .i64 p2]] W fun e w' => e = .returned (.tuple #[.int .i64 (sawN w h p1 p2), .bool (sawB w h p1 p2)]) ∧ Below W.heap.size W w' := by
  unfold sawN sawB
  by_cases hg : bdB 12 w h = true
  · have K := Lib.hid (fun W => boardUpTo_t 12 w h W hg)
    obtain ⟨h1, h2, h3, h4⟩ := bdB_true hg
    have KH := Lib.hid (fun W => has_any w h p1 p2 W (by omega) (by omega))
    rw [hg, Bool.true_and]
    by_cases ho : ofB w h p1 p2 = true
    · have hq := ofB_true ho
      have KC := Lib.hid (fun W => countAway_any w.toNat h.toNat p1 p2 1 W (by omega) (by omega) (by unfold Sz; omega))
      rw [show ((w.toNat : Nat) : Int) = w by omega, show ((h.toNat : Nat) : Int) = h by omega] at KC
      rw [ho] at KH ⊢
      rw [bdV_t]
      generalize sm (awF p1 p2 1 h.toNat) (w.toNat * h.toNat) = v at *
      clear hg ho hq h1 h2 h3 h4
      go_enter Try.func23, Try.ntmps23
      go_wp2_with fail
      obtain ⟨W0, hW0⟩ : ∃ W0, W0 = (W.alloc (.cells #[.int .i64 p1, .int .i64 p2] 28)) := ⟨_, rfl⟩
      rw [← hW0]
      have yW00_0 : W0.cell? ⟨W.heap.size, 0, none⟩ = some (.int .i64 p1) := by rw [hW0]; go_simp
      have yW00_1 : W0.cell? ⟨W.heap.size, 1, none⟩ = some (.int .i64 p2) := by rw [hW0]; go_simp
      have fW00 : ∀ o, W0.frozen? ⟨W.heap.size, o, none⟩ = false := by intro o; rw [hW0]; (repeat rw [frozen?_alloc_cells]); simp [World.frozen?]
      have zW00 : W.heap.size < W0.heap.size := by rw [hW0]; simp <;> omega
      have BW0 : Below W.heap.size W W0 := by rw [hW0]; exact (Below.alloc (Below.refl _ _) (by simp <;> omega) _)
      have eW0 : Hid (W0.heap.size = W.heap.size + 1) := Lib.hid (by rw [hW0]; simp)
      clear hW0
      refine (K.out W0).mono ?_; rintro e w1 ⟨rfl, hb1⟩
      have y0 := ((bcell hb1).1 _ 0 zW00).trans yW00_0
      have y1 := ((bcell hb1).1 _ 1 zW00).trans yW00_1
      have z1 := Nat.lt_of_lt_of_le zW00 hb1.size
      have BB := BW0.trans (hb1.mono BW0.size)
      clear hb1 yW00_0 yW00_1 fW00 zW00 eW0 BW0 K
      go_wp2_with fail
      obtain ⟨W2, hW2⟩ : ∃ W2, W2 = (w1.alloc (.cells #[.int .i64 w, .int .i64 h] 34)) := ⟨_, rfl⟩
      rw [← hW2]
      have yW20_0 : W2.cell? ⟨w1.heap.size, 0, none⟩ = some (.int .i64 w) := by rw [hW2]; go_simp
      have yW20_1 : W2.cell? ⟨w1.heap.size, 1, none⟩ = some (.int .i64 h) := by rw [hW2]; go_simp
      have fW20 : ∀ o, W2.frozen? ⟨w1.heap.size, o, none⟩ = false := by intro o; rw [hW2]; (repeat rw [frozen?_alloc_cells]); simp [World.frozen?]
      have zW20 : w1.heap.size < W2.heap.size := by rw [hW2]; simp <;> omega
      have BW2 : Below w1.heap.size w1 W2 := by rw [hW2]; exact (Below.alloc (Below.refl _ _) (by simp <;> omega) _)
      have eW2 : Hid (W2.heap.size = w1.heap.size + 1) := Lib.hid (by rw [hW2]; simp)
      clear hW2
      have B2 := BB.trans (BW2.mono BB.size)
      have y2 := ((bcell BW2).1 _ 0 z1).trans y0
      have y3 := ((bcell BW2).1 _ 1 z1).trans y1
      have z2 := Nat.lt_of_lt_of_le z1 BW2.size
      refine (KH.out W2).mono ?_; rintro e w3 ⟨rfl, hb3⟩
      have y4 := ((bcell hb3).1 _ 0 z2).trans y2
      have y5 := ((bcell hb3).1 _ 1 z2).trans y3
      have z3 := Nat.lt_of_lt_of_le z2 hb3.size
      have y6 := ((bcell hb3).1 _ 0 zW20).trans yW20_0
      have y7 := ((bcell hb3).1 _ 1 zW20).trans yW20_1
      have z4 := Nat.lt_of_lt_of_le zW20 hb3.size
      have B3 := B2.trans (hb3.mono B2.size)
      clear hb3 y0 y1 y2 y3 z1 z2 B2 BB KH yW20_0 yW20_1 fW20 zW20 eW2 BW2
      go_wp2_with fail
      refine (KC.out w3).mono ?_; rintro e w5 ⟨rfl, hb5⟩
      have B5 := B3.trans (hb5.mono B3.size)
      clear y4 y5 y6 y7 hb5
      go_wp2_with fail
      go_ret2
      exact ⟨rfl, B5⟩
    · have hof : ofB w h p1 p2 = false := by simpa using ho
      rw [hof] at KH ⊢
      rw [bdV_f]
      clear hg ho hof h1 h2 h3 h4
      go_enter Try.func23, Try.ntmps23
      go_wp2_with fail
      obtain ⟨W0, hW0⟩ : ∃ W0, W0 = (W.alloc (.cells #[.int .i64 p1, .int .i64 p2] 28)) := ⟨_, rfl⟩
      rw [← hW0]
      have yW00_0 : W0.cell? ⟨W.heap.size, 0, none⟩ = some (.int .i64 p1) := by rw [hW0]; go_simp
      have yW00_1 : W0.cell? ⟨W.heap.size, 1, none⟩ = some (.int .i64 p2) := by rw [hW0]; go_simp
      have fW00 : ∀ o, W0.frozen? ⟨W.heap.size, o, none⟩ = false := by intro o; rw [hW0]; (repeat rw [frozen?_alloc_cells]); simp [World.frozen?]
      have zW00 : W.heap.size < W0.heap.size := by rw [hW0]; simp <;> omega
      have BW0 : Below W.heap.size W W0 := by rw [hW0]; exact (Below.alloc (Below.refl _ _) (by simp <;> omega) _)
      have eW0 : Hid (W0.heap.size = W.heap.size + 1) := Lib.hid (by rw [hW0]; simp)
      clear hW0
      refine (K.out W0).mono ?_; rintro e w1 ⟨rfl, hb1⟩
      have y0 := ((bcell hb1).1 _ 0 zW00).trans yW00_0
      have y1 := ((bcell hb1).1 _ 1 zW00).trans yW00_1
      have z1 := Nat.lt_of_lt_of_le zW00 hb1.size
      have BB := BW0.trans (hb1.mono BW0.size)
      clear hb1 yW00_0 yW00_1 fW00 zW00 eW0 BW0 K
      go_wp2_with fail
      obtain ⟨W2, hW2⟩ : ∃ W2, W2 = (w1.alloc (.cells #[.int .i64 w, .int .i64 h] 34)) := ⟨_, rfl⟩
      rw [← hW2]
      have yW20_0 : W2.cell? ⟨w1.heap.size, 0, none⟩ = some (.int .i64 w) := by rw [hW2]; go_simp
      have yW20_1 : W2.cell? ⟨w1.heap.size, 1, none⟩ = some (.int .i64 h) := by rw [hW2]; go_simp
      have fW20 : ∀ o, W2.frozen? ⟨w1.heap.size, o, none⟩ = false := by intro o; rw [hW2]; (repeat rw [frozen?_alloc_cells]); simp [World.frozen?]
      have zW20 : w1.heap.size < W2.heap.size := by rw [hW2]; simp <;> omega
      have BW2 : Below w1.heap.size w1 W2 := by rw [hW2]; exact (Below.alloc (Below.refl _ _) (by simp <;> omega) _)
      have eW2 : Hid (W2.heap.size = w1.heap.size + 1) := Lib.hid (by rw [hW2]; simp)
      clear hW2
      have B2 := BB.trans (BW2.mono BB.size)
      refine (KH.out W2).mono ?_; rintro e w3 ⟨rfl, hb3⟩
      have B3 := B2.trans (hb3.mono B2.size)
      clear hb3 y0 y1 z1 B2 BB KH yW20_0 yW20_1 fW20 zW20 eW2 BW2
      go_wp2_with fail
      go_ret2
      exact ⟨rfl, B3⟩
  · have hf : bdB 12 w h = false := by simpa using hg
    have K := Lib.hid (fun W => boardUpTo_f 12 w h W hf)
    rw [hf, Bool.false_and, bdV_f]
    clear hg hf
    go_enter Try.func23, Try.ntmps23
    go_wp2_with fail
    obtain ⟨W0, hW0⟩ : ∃ W0, W0 = (W.alloc (.cells #[.int .i64 p1, .int .i64 p2] 28)) := ⟨_, rfl⟩
    rw [← hW0]
    have yW00_0 : W0.cell? ⟨W.heap.size, 0, none⟩ = some (.int .i64 p1) := by rw [hW0]; go_simp
    have yW00_1 : W0.cell? ⟨W.heap.size, 1, none⟩ = some (.int .i64 p2) := by rw [hW0]; go_simp
    have fW00 : ∀ o, W0.frozen? ⟨W.heap.size, o, none⟩ = false := by intro o; rw [hW0]; (repeat rw [frozen?_alloc_cells]); simp [World.frozen?]
    have zW00 : W.heap.size < W0.heap.size := by rw [hW0]; simp <;> omega
    have BW0 : Below W.heap.size W W0 := by rw [hW0]; exact (Below.alloc (Below.refl _ _) (by simp <;> omega) _)
    have eW0 : Hid (W0.heap.size = W.heap.size + 1) := Lib.hid (by rw [hW0]; simp)
    clear hW0
    refine (K.out W0).mono ?_; rintro e w1 ⟨rfl, hb1⟩
    have BB := BW0.trans (hb1.mono BW0.size)
    have BA := Below.alloc BB BB.size (.cells #[.int .i64 0, .int .i64 0] 34)
    clear hb1 yW00_0 yW00_1 fW00 zW00 eW0 BW0 K
    go_wp2_with fail
    go_ret2
    exact ⟨rfl, BA⟩
end Go.Proofs.Ytmhdbodmpohdnaa
