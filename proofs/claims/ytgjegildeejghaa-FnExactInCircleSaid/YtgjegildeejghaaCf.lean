/- contract: InCircle, the model -/
import Derived.Test.YtgjegildeejghaaCe
import Derived.Test.YtgjegildeejghaaTp2
namespace Go.Proofs.Ytgjegildeejghaa
open Go.ChangeShapes Go.WideShapes Go.ChangeAt Go.RowKit Go.Joins
set_option linter.unusedVariables false
set_option linter.unusedSimpArgs false
set_option maxRecDepth 4000
/-- the square of how far a point is from the middle of the circle, all times its divisor -/
def rdI (l : List (Int × Int)) (p q : Int) : Int := (p * cirD l - cirX l) * (p * cirD l - cirX l) + (q * cirD l - cirY l) * (q * cirD l - cirY l)
def inC (l : List (Int × Int)) (p q : Int) : Int := sgI (rdI l (vx l 0).1 (vx l 0).2 - rdI l p q)
theorem six_bd {l : List (Int × Int)} {a1 a2 b1 b2 c1 c2 : Int} (h : Tri l a1 a2 b1 b2 c1 c2) : (-3072000 ≤ cirX l ∧ cirX l ≤ 3072000) ∧ (-3072000 ≤ cirY l ∧ cirY l ≤ 3072000) ∧ (-25600 ≤ cirD l ∧ cirD l ≤ 25600) := by
  obtain ⟨u1, u2, u3, u4, u5, u6⟩ := tri_bd h
  have hpg : ∀ i, (-40 ≤ (vx l i).1 ∧ (vx l i).1 ≤ 40) ∧ (-40 ≤ (vx l i).2 ∧ (vx l i).2 ≤ 40) := fun i => by
    have := vx_pg h.2.pegs (good_pos h.2) i
    unfold isPg isPegB at this
    simp only [Bool.and_eq_true, decide_eq_true_eq] at this
    exact this
  have M := msF_bd hpg 3
  rw [msF_all h] at M
  dsimp only at M
  have m1 := mul_bd (x := b1 - a1) (y := c2 - a2) (m := 80) (n := 80) (by omega) (by omega) (by omega) (by omega)
  have m2 := mul_bd (x := b2 - a2) (y := c1 - a1) (m := 80) (n := 80) (by omega) (by omega) (by omega) (by omega)
  have hd : -25600 ≤ cdI a1 a2 b1 b2 c1 c2 ∧ cdI a1 a2 b1 b2 c1 c2 ≤ 25600 := by unfold cdI twI; omega
  obtain ⟨e1, e2, e3⟩ := tri_cir h
  rw [e1, e2, e3]
  have t1 := tdiv_le (cxI a1 a2 b1 b2 c1 c2) (cgI (cxI a1 a2 b1 b2 c1 c2) (cyI a1 a2 b1 b2 c1 c2) (cdI a1 a2 b1 b2 c1 c2))
  have t2 := tdiv_le (cyI a1 a2 b1 b2 c1 c2) (cgI (cxI a1 a2 b1 b2 c1 c2) (cyI a1 a2 b1 b2 c1 c2) (cdI a1 a2 b1 b2 c1 c2))
  have t3 := tdiv_le (cdI a1 a2 b1 b2 c1 c2) (cgI (cxI a1 a2 b1 b2 c1 c2) (cyI a1 a2 b1 b2 c1 c2) (cdI a1 a2 b1 b2 c1 c2))
  omega
theorem sq5m {x : Int} (h : -5000000 ≤ x ∧ x ≤ 5000000) : 0 ≤ x * x ∧ x * x ≤ 10000000000000000 := sq_bd (by omega)
theorem rdI_in (p D X : Int) (hp : -40 ≤ p ∧ p ≤ 40) (hX : -3072000 ≤ X ∧ X ≤ 3072000) (hD : -25600 ≤ D ∧ D ≤ 25600) : (-1024000 ≤ p * D ∧ p * D ≤ 1024000) ∧ 0 ≤ (p * D - X) * (p * D - X) ∧ (p * D - X) * (p * D - X) ≤ 25000000000000 := by
  have m1 := mul_bd (x := p) (y := D) (m := 40) (n := 25600) (by omega) (by omega) (by omega) (by omega)
  have m2 := mul_bd (x := p * D - X) (y := p * D - X) (m := 5000000) (n := 5000000) (by omega) (by omega) (by omega) (by omega)
  have m3 := sq5m (x := p * D - X) (by omega)
  exact ⟨m1, m3.1, m2.2⟩
set_option maxHeartbeats 4000000 in
theorem specInCircle_any (A : Option Addr) (c : Nat) (l : List (Int × Int)) (p1 p2 : Int) (w : World) (hn : l.length ≤ 1048576) (hcap : l.length ≤ c) (hc2 : c ≤ 9223372036854775807) (hR : Rd w w.heap.size A l) :
    Calls Try.prog 44 #[.slice A l.length c, .agg #[.int .i64 p1, .int .i64 p2]] w fun e w' => e = .returned (.tuple #[.int .i64 (isel (tB l && isPegB p1 p2) (inC l p1 p2)), .bool (tB l && isPegB p1 p2)]) ∧ Below w.heap.size w w' := by
  have K := Lib.hid (fun W (hb : Below w.heap.size w W) => trThree_any A c l W hn hcap hc2 (rd_more (rd_below hR hb (Nat.le_refl _)) hb.size))
  by_cases ht : tB l = true
  · by_cases hp : isPegB p1 p2 = true
    · obtain ⟨a1, a2, b1, b2, c1, c2, htr⟩ := tB_true ht
      have KP := Lib.hid (fun W => pgIs_any p1 p2 W)
      obtain ⟨u1, u2, _⟩ := tri_bd htr
      obtain ⟨q1, q2, q3⟩ := six_bd htr
      have KC := Lib.hid (fun W (hb : Below w.heap.size w W) => specCircleOfThree_any A c l W hn hcap hc2 (rd_more (rd_below hR hb (Nat.le_refl _)) hb.size))
      rw [ht] at K KC ⊢
      rw [hp] at KP ⊢
      have hv : vx l 0 = (a1, a2) := by rw [htr.1]; rfl
      have HI : Hid (inC l p1 p2 = sgI ((a1 * cirD l - cirX l) * (a1 * cirD l - cirX l) + (a2 * cirD l - cirY l) * (a2 * cirD l - cirY l) - ((p1 * cirD l - cirX l) * (p1 * cirD l - cirX l) + (p2 * cirD l - cirY l) * (p2 * cirD l - cirY l)))) := Lib.hid (by unfold inC rdI; rw [hv])
      unfold isPegB at hp
      simp only [Bool.and_eq_true, decide_eq_true_eq] at hp
      rw [Bool.true_and, isel_t, HI.out]
      rw [isel_t, isel_t, isel_t] at KC
      obtain ⟨⟨f1, f2⟩, f3, f4⟩ := rdI_in a1 (cirD l) (cirX l) u1 q1 q3
      obtain ⟨⟨f5, f6⟩, f7, f8⟩ := rdI_in a2 (cirD l) (cirY l) u2 q2 q3
      obtain ⟨⟨g1, g2⟩, g3, g4⟩ := rdI_in p1 (cirD l) (cirX l) hp.1 q1 q3
      obtain ⟨⟨g5, g6⟩, g7, g8⟩ := rdI_in p2 (cirD l) (cirY l) hp.2 q2 q3
      obtain ⟨q4, q5⟩ := q1
      obtain ⟨q6, q7⟩ := q2
      clear HI hv
      generalize cirX l = X at *
      generalize cirY l = Y at *
      generalize cirD l = D at *
      obtain ⟨rfl, hg⟩ := htr
      obtain ⟨b, off, rfl, hb, H3⟩ := rd3_of hR
      change Hid (∀ W, Below w.heap.size w W → Calls Try.prog 53 #[.slice (some ⟨b, off, none⟩) 3 c] W fun e w' => e = .returned (.bool true) ∧ Below W.heap.size W w') at K
      change Hid (∀ W, Below w.heap.size w W → Calls Try.prog 42 #[.slice (some ⟨b, off, none⟩) 3 c] W fun e w' => e = .returned (.tuple #[.int .i64 X, .int .i64 Y, .int .i64 D, .bool true]) ∧ Below W.heap.size W w') at KC
      change Calls Try.prog 44 #[.slice (some ⟨b, off, none⟩) 3 c, .agg #[.int .i64 p1, .int .i64 p2]] w _
      have KG := Lib.hid (fun x W => l1Sign_sg x W)
      clear ht hg hR hn hcap hp u1 u2 q3
      go_enter Try.func44, Try.ntmps44
      go_wp2_with fail
      obtain ⟨Wa, hWa⟩ : ∃ Wa, Wa = (w.alloc (.cells #[.int .i64 p1, .int .i64 p2] 46)) := ⟨_, rfl⟩
      rw [← hWa]
      have yWa0_0 : Wa.cell? ⟨w.heap.size, 0, none⟩ = some (.int .i64 p1) := by rw [hWa]; go_simp
      have yWa0_1 : Wa.cell? ⟨w.heap.size, 1, none⟩ = some (.int .i64 p2) := by rw [hWa]; go_simp
      have fWa0 : ∀ o, Wa.frozen? ⟨w.heap.size, o, none⟩ = false := by intro o; rw [hWa]; (repeat rw [frozen?_alloc_cells]); simp [World.frozen?]
      have zWa0 : w.heap.size < Wa.heap.size := by rw [hWa]; simp <;> omega
      have BWa : Below w.heap.size w Wa := by rw [hWa]; exact (Below.alloc (Below.refl _ _) (by simp <;> omega) _)
      have eWa : Hid (Wa.heap.size = w.heap.size + 1) := Lib.hid (by rw [hWa]; simp)
      clear hWa
      refine (K.out _ BWa).mono ?_; rintro e w1 ⟨rfl, hb1⟩
      have B1 := BWa.trans (hb1.mono BWa.size)
      have y0 := ((bcell hb1).1 _ _ zWa0).trans yWa0_0
      have y1 := ((bcell hb1).1 _ _ zWa0).trans yWa0_1
      have z1 : w.heap.size < w1.heap.size := by have := hb1.size; omega
      clear yWa0_0 yWa0_1 fWa0 zWa0 eWa BWa hb1
      go_wp2_with fail
      refine (KP.out _).mono ?_; rintro e w2 ⟨rfl, hb2⟩
      have B2 := B1.trans (hb2.mono B1.size)
      have x0 := ((bcell hb2).1 _ _ z1).trans y0
      have x1 := ((bcell hb2).1 _ _ z1).trans y1
      have z2 : w.heap.size < w2.heap.size := by have := hb2.size; omega
      clear y0 y1 z1 B1 hb2
      go_wp2_with fail
      refine (KC.out _ B2).mono ?_; rintro e w3 ⟨rfl, hb3⟩
      have B3 := B2.trans (hb3.mono B2.size)
      have y0 := ((bcell hb3).1 _ _ z2).trans x0
      have y1 := ((bcell hb3).1 _ _ z2).trans x1
      have z3 : w.heap.size < w3.heap.size := by have := hb3.size; omega
      obtain ⟨r0, r1, r2, r3, r4, r5⟩ := H3.out w3 B3
      have hbz : b < w3.heap.size := by omega
      clear x0 x1 z2 B2 hb3 K KP KC H3 r2 r3 r4 r5
      go_wp2_with fail
      refine (KG.out _ _).mono ?_; rintro e _ ⟨rfl, rfl⟩
      go_wp2_with fail
      go_ret2
      refine ⟨rfl, ?_⟩
      repeat (first | with_reducible assumption | with_reducible exact Below.refl _ _ | with_reducible apply Below.drew | ((with_reducible refine Below.setCell ?_ ?_ _); rotate_left; (first | exact Nat.le_refl _ | omega | (simp <;> omega))) | ((with_reducible refine Below.alloc ?_ ?_ _); rotate_left; (first | omega | (simp <;> omega))))
    · have KP := Lib.hid (fun W => pgIs_any p1 p2 W)
      have hpf : isPegB p1 p2 = false := by simpa using hp
      rw [ht] at K
      rw [hpf] at KP ⊢
      rw [Bool.and_false, isel_f]
      clear ht hR hp hpf
      go_enter Try.func44, Try.ntmps44
      go_wp2_with fail
      obtain ⟨Wa, hWa⟩ : ∃ Wa, Wa = (w.alloc (.cells #[.int .i64 p1, .int .i64 p2] 46)) := ⟨_, rfl⟩
      rw [← hWa]
      have yWa0_0 : Wa.cell? ⟨w.heap.size, 0, none⟩ = some (.int .i64 p1) := by rw [hWa]; go_simp
      have yWa0_1 : Wa.cell? ⟨w.heap.size, 1, none⟩ = some (.int .i64 p2) := by rw [hWa]; go_simp
      have fWa0 : ∀ o, Wa.frozen? ⟨w.heap.size, o, none⟩ = false := by intro o; rw [hWa]; (repeat rw [frozen?_alloc_cells]); simp [World.frozen?]
      have zWa0 : w.heap.size < Wa.heap.size := by rw [hWa]; simp <;> omega
      have BWa : Below w.heap.size w Wa := by rw [hWa]; exact (Below.alloc (Below.refl _ _) (by simp <;> omega) _)
      have eWa : Hid (Wa.heap.size = w.heap.size + 1) := Lib.hid (by rw [hWa]; simp)
      clear hWa
      refine (K.out _ BWa).mono ?_; rintro e w1 ⟨rfl, hb1⟩
      have B1 := BWa.trans (hb1.mono BWa.size)
      have y0 := ((bcell hb1).1 _ _ zWa0).trans yWa0_0
      have y1 := ((bcell hb1).1 _ _ zWa0).trans yWa0_1
      have z1 : w.heap.size < w1.heap.size := by have := hb1.size; omega
      clear yWa0_0 yWa0_1 fWa0 zWa0 eWa BWa hb1
      go_wp2_with fail
      refine (KP.out _).mono ?_; rintro e w2 ⟨rfl, hb2⟩
      have B2 := B1.trans (hb2.mono B1.size)
      go_wp2_with fail
      go_ret2
      exact ⟨rfl, B2⟩
  · have htf : tB l = false := by simpa using ht
    rw [htf] at K ⊢
    rw [Bool.false_and, isel_f]
    clear ht htf hR
    go_enter Try.func44, Try.ntmps44
    go_wp2_with fail
    obtain ⟨Wa, hWa⟩ : ∃ Wa, Wa = (w.alloc (.cells #[.int .i64 p1, .int .i64 p2] 46)) := ⟨_, rfl⟩
    rw [← hWa]
    have yWa0_0 : Wa.cell? ⟨w.heap.size, 0, none⟩ = some (.int .i64 p1) := by rw [hWa]; go_simp
    have yWa0_1 : Wa.cell? ⟨w.heap.size, 1, none⟩ = some (.int .i64 p2) := by rw [hWa]; go_simp
    have fWa0 : ∀ o, Wa.frozen? ⟨w.heap.size, o, none⟩ = false := by intro o; rw [hWa]; (repeat rw [frozen?_alloc_cells]); simp [World.frozen?]
    have zWa0 : w.heap.size < Wa.heap.size := by rw [hWa]; simp <;> omega
    have BWa : Below w.heap.size w Wa := by rw [hWa]; exact (Below.alloc (Below.refl _ _) (by simp <;> omega) _)
    have eWa : Hid (Wa.heap.size = w.heap.size + 1) := Lib.hid (by rw [hWa]; simp)
    clear hWa
    refine (K.out _ BWa).mono ?_; rintro e w1 ⟨rfl, hb1⟩
    have B1 := BWa.trans (hb1.mono BWa.size)
    go_wp2_with fail
    go_ret2
    exact ⟨rfl, B1⟩
end Go.Proofs.Ytgjegildeejghaa
