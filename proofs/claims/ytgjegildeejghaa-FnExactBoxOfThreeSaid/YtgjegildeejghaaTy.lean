/- contracts: BoxOfThree, the program -/
import Derived.Test.YtgjegildeejghaaTw0
import Derived.Test.YtgjegildeejghaaTyb
namespace Go.Proofs.Ytgjegildeejghaa
open Go.ChangeShapes Go.WideShapes Go.ChangeAt Go.RowKit Go.Joins
set_option linter.unusedVariables false
set_option linter.unusedSimpArgs false
set_option maxRecDepth 4000
set_option maxHeartbeats 2000000 in
theorem implBoxOfThree_any (A : Option Addr) (c : Nat) (l : List (Int × Int)) (w : World) (hn : l.length ≤ 1048576) (hR : Rd w w.heap.size A l) :
    Calls Try.prog 40 #[.slice A l.length c] w fun e w' => e = .returned (.tuple #[.agg #[.int .i64 (bxS l 0), .int .i64 (bxS l 1)], .agg #[.int .i64 (bxS l 2), .int .i64 (bxS l 3)], .bool (tB l)]) ∧ Below w.heap.size w w' := by
  have HB := Lib.hid (Below.alloc (Below.alloc (Below.refl w.heap.size w) (Nat.le_refl _) (.cells #[.int .i64 0, .int .i64 0] 46)) (by simp) (.cells #[.int .i64 0, .int .i64 0] 46))
  have R0 := Lib.hid (fun (W : World) (hb : Below w.heap.size w W) => rd_more (rd_below hR hb (Nat.le_refl _)) (Below.size hb))
  clear hR
  by_cases ht : tB l = true
  · obtain ⟨a1, a2, b1, b2, c1, c2, htr⟩ := tB_true ht
    have K := Lib.hid (fun (W : World) (hb : Below w.heap.size w W) => threeOf_t A c l a1 a2 b1 b2 c1 c2 W (R0.out W hb) htr)
    have l3 : l.length = 3 := by rw [htr.1]; rfl
    have e0 : bxS l 0 = (loN l 3).1 := by unfold bxS; rw [if_pos ht]; rfl
    have e1 : bxS l 1 = (loN l 3).2 := by unfold bxS; rw [if_pos ht]; rfl
    have e2 : bxS l 2 = (hiN l 3).1 := by unfold bxS; rw [if_pos ht]; rfl
    have e3 : bxS l 3 = (hiN l 3).2 := by unfold bxS; rw [if_pos ht]; rfl
    rw [e0, e1, e2, e3, ht]
    have KB := Lib.hid (fun W b (hb : b < W.heap.size) (h0 : Rd3 W b 0 a1 a2 b1 b2 c1 c2) => (show Calls Try.prog 71 #[.slice (some ⟨b, 0, none⟩) 3 3] W fun e w' => e = .returned (.tuple #[.agg #[.int .i64 (loN l 3).1, .int .i64 (loN l 3).2], .agg #[.int .i64 (hiN l 3).1, .int .i64 (hiN l 3).2]]) ∧ Below W.heap.size W w' from by
      have hR3 : Rd W W.heap.size (some ⟨b, 0, none⟩) l := fun _ => ⟨b, 0, rfl, hb, fun i p hp => by
        rw [htr.1] at hp
        obtain ⟨q0, q1, q2, q3, q4, q5⟩ := h0
        match i, hp with
        | 0, hp => simp at hp; subst hp; exact ⟨q0, q1⟩
        | 1, hp => simp at hp; subst hp; exact ⟨q2, q3⟩
        | 2, hp => simp at hp; subst hp; exact ⟨q4, q5⟩⟩
      have := boxAround_any (some ⟨b, 0, none⟩) 3 l W (by omega) (by omega) hR3
      rw [l3] at this
      exact this))
    clear ht htr e0 e1 e2 e3
    rw [l3] at K ⊢
    clear l3
    generalize loN l 3 = lo at *
    generalize hiN l 3 = hi at *
    go_enter Try.func40, Try.ntmps40
    go_wp2_with fail
    refine (K.out _ HB.out).mono ?_; rintro e w1 ⟨rfl, hb1'⟩
    have hb1 := HB.out.trans (hb1'.mono HB.out.size)
    have hcR := (bcell hb1').1
    have hfR := (bcell hb1').2
    have y0 : w1.cell? ⟨w.heap.size, 0, none⟩ = some (.int .i64 0) := (hcR w.heap.size 0 (by simp <;> omega)).trans (by go_simp)
    have y1 : w1.cell? ⟨w.heap.size, 1, none⟩ = some (.int .i64 0) := (hcR w.heap.size 1 (by simp <;> omega)).trans (by go_simp)
    have y2 : w1.cell? ⟨w.heap.size + 1, 0, none⟩ = some (.int .i64 0) := (hcR (w.heap.size + 1) 0 (by simp <;> omega)).trans (by go_simp)
    have y3 : w1.cell? ⟨w.heap.size + 1, 1, none⟩ = some (.int .i64 0) := (hcR (w.heap.size + 1) 1 (by simp <;> omega)).trans (by go_simp)
    have f0 : ∀ o, w1.frozen? ⟨w.heap.size, o, none⟩ = false := fun o => by
      rw [hfR _ _ (by simp <;> omega), frozen?_alloc_cells, frozen?_alloc_cells]; simp [World.frozen?]
    have f1 : ∀ o, w1.frozen? ⟨w.heap.size + 1, o, none⟩ = false := fun o => by
      rw [hfR _ _ (by simp <;> omega), frozen?_alloc_cells, frozen?_alloc_cells]; simp [World.frozen?]
    have q1 : w.heap.size < w1.heap.size := by (have := hb1'.size; simp at this; omega)
    have q2 : w.heap.size + 1 < w1.heap.size := by (have := hb1'.size; simp at this; omega)
    clear hcR hfR hb1'
    go_wp2_with fail
    obtain ⟨W2, hW2⟩ : ∃ W2, W2 = (w1.alloc (.cells #[.int .i64 a1, .int .i64 a2, .int .i64 b1, .int .i64 b2, .int .i64 c1, .int .i64 c2] 67)) := ⟨_, rfl⟩
    rw [← hW2]
    have yW20_0 : W2.cell? ⟨w1.heap.size, 0, none⟩ = some (.int .i64 a1) := by rw [hW2]; go_simp
    have yW20_1 : W2.cell? ⟨w1.heap.size, 1, none⟩ = some (.int .i64 a2) := by rw [hW2]; go_simp
    have yW20_2 : W2.cell? ⟨w1.heap.size, 2, none⟩ = some (.int .i64 b1) := by rw [hW2]; go_simp
    have yW20_3 : W2.cell? ⟨w1.heap.size, 3, none⟩ = some (.int .i64 b2) := by rw [hW2]; go_simp
    have yW20_4 : W2.cell? ⟨w1.heap.size, 4, none⟩ = some (.int .i64 c1) := by rw [hW2]; go_simp
    have yW20_5 : W2.cell? ⟨w1.heap.size, 5, none⟩ = some (.int .i64 c2) := by rw [hW2]; go_simp
    have fW20 : ∀ o, W2.frozen? ⟨w1.heap.size, o, none⟩ = false := by intro o; rw [hW2]; (repeat rw [frozen?_alloc_cells]); simp [World.frozen?]
    have zW20 : w1.heap.size < W2.heap.size := by rw [hW2]; simp <;> omega
    have BW2 : Below w1.heap.size w1 W2 := by rw [hW2]; exact (Below.alloc (Below.refl _ _) (by simp <;> omega) _)
    have eW2 : Hid (W2.heap.size = w1.heap.size + 1) := Lib.hid (by rw [hW2]; simp)
    clear hW2
    refine (KB.out W2 w1.heap.size zW20 ⟨yW20_0, yW20_1, yW20_2, yW20_3, yW20_4, yW20_5⟩).mono ?_; rintro e w3 ⟨rfl, hb3⟩
    have B3 := hb1.trans ((BW2.trans (hb3.mono BW2.size)).mono hb1.size)
    have k3 := BW2.trans (hb3.mono BW2.size)
    have u0 := (k3.cell (p := ⟨w.heap.size, 0, none⟩) q1).trans y0
    have u1 := (k3.cell (p := ⟨w.heap.size, 1, none⟩) q1).trans y1
    have u2 := (k3.cell (p := ⟨w.heap.size + 1, 0, none⟩) q2).trans y2
    have u3 := (k3.cell (p := ⟨w.heap.size + 1, 1, none⟩) q2).trans y3
    have g0 := (k3.frozen (p := ⟨w.heap.size, 0, none⟩) q1).trans (f0 0)
    have g1 := (k3.frozen (p := ⟨w.heap.size, 1, none⟩) q1).trans (f0 1)
    have g2 := (k3.frozen (p := ⟨w.heap.size + 1, 0, none⟩) q2).trans (f1 0)
    have g3 := (k3.frozen (p := ⟨w.heap.size + 1, 1, none⟩) q2).trans (f1 1)
    have v0 : w.heap.size < w3.heap.size := by have := k3.size; omega
    have v1 : w.heap.size + 1 < w3.heap.size := by have := k3.size; omega
    have zz := B3.size
    clear y0 y1 y2 y3 f0 f1 q1 q2 hb3 yW20_0 yW20_1 yW20_2 yW20_3 yW20_4 yW20_5 fW20 zW20 BW2
    go_wp2_with fail
    go_region
    go_wp2_with fail
    refine bodyPost_ret (v := .tuple #[.agg #[.int .i64 lo.1, .int .i64 lo.2], .agg #[.int .i64 hi.1, .int .i64 hi.2], .bool true]) (by simp [results, Try.results40, go_sem, v0, v1, u0, u1, u2, u3]) rfl ⟨rfl, ?_⟩
    repeat (first | with_reducible assumption | with_reducible exact Below.refl _ _ | with_reducible apply Below.drew | ((with_reducible refine Below.setCell ?_ ?_ _); rotate_left; (first | exact Nat.le_refl _ | omega | (simp <;> omega))) | ((with_reducible refine Below.alloc ?_ ?_ _); rotate_left; (first | omega | (simp <;> omega))))
  · have K := Lib.hid (fun (W : World) (hb : Below w.heap.size w W) => threeOf_f A c l W hn (R0.out W hb) ht)
    have htf : tB l = false := by simpa using ht
    have e0 : ∀ i, bxS l i = 0 := fun i => by unfold bxS; rw [if_neg ht]
    rw [e0, e0, e0, e0, htf]
    clear ht htf e0
    go_enter Try.func40, Try.ntmps40
    go_wp2_with fail
    refine (K.out _ HB.out).mono ?_; rintro e w1 ⟨rfl, hb1'⟩
    have hb1 := HB.out.trans (hb1'.mono HB.out.size)
    have hcR := (bcell hb1').1
    have hfR := (bcell hb1').2
    have y0 : w1.cell? ⟨w.heap.size, 0, none⟩ = some (.int .i64 0) := (hcR w.heap.size 0 (by simp <;> omega)).trans (by go_simp)
    have y1 : w1.cell? ⟨w.heap.size, 1, none⟩ = some (.int .i64 0) := (hcR w.heap.size 1 (by simp <;> omega)).trans (by go_simp)
    have y2 : w1.cell? ⟨w.heap.size + 1, 0, none⟩ = some (.int .i64 0) := (hcR (w.heap.size + 1) 0 (by simp <;> omega)).trans (by go_simp)
    have y3 : w1.cell? ⟨w.heap.size + 1, 1, none⟩ = some (.int .i64 0) := (hcR (w.heap.size + 1) 1 (by simp <;> omega)).trans (by go_simp)
    have f0 : ∀ o, w1.frozen? ⟨w.heap.size, o, none⟩ = false := fun o => by
      rw [hfR _ _ (by simp <;> omega), frozen?_alloc_cells, frozen?_alloc_cells]; simp [World.frozen?]
    have f1 : ∀ o, w1.frozen? ⟨w.heap.size + 1, o, none⟩ = false := fun o => by
      rw [hfR _ _ (by simp <;> omega), frozen?_alloc_cells, frozen?_alloc_cells]; simp [World.frozen?]
    have q1 : w.heap.size < w1.heap.size := by (have := hb1'.size; simp at this; omega)
    have q2 : w.heap.size + 1 < w1.heap.size := by (have := hb1'.size; simp at this; omega)
    have zz := hb1.size
    clear hcR hfR hb1'
    go_wp2_with fail
    refine bodyPost_ret (v := .tuple #[.agg #[.int .i64 0, .int .i64 0], .agg #[.int .i64 0, .int .i64 0], .bool false]) (by simp [results, Try.results40, go_sem, y0, y1, y2, y3, q1, q2]) rfl ⟨rfl, ?_⟩
    repeat (first | with_reducible assumption | with_reducible exact Below.refl _ _ | with_reducible apply Below.drew | ((with_reducible refine Below.setCell ?_ ?_ _); rotate_left; (first | exact Nat.le_refl _ | omega | (simp <;> omega))) | ((with_reducible refine Below.alloc ?_ ?_ _); rotate_left; (first | omega | (simp <;> omega))))
end Go.Proofs.Ytgjegildeejghaa
