/- contract: how many pegs are to the right of a line, on it and to its left, the program -/
import Derived.Test.YthpbnfmfedggjaaBs
import Derived.Test.YthpbnfmfedggjaaTp20
namespace Go.Proofs.Ythpbnfmfedggjaa
open Go.ChangeShapes Go.WideShapes Go.ChangeAt Go.RowKit Go.Joins
set_option linter.unusedVariables false
set_option linter.unusedSimpArgs false
set_option maxRecDepth 4000
set_option maxRecDepth 100000 in
set_option maxHeartbeats 4000000 in
theorem sharesOf_any (A : Option Addr) (c n : Nat) (l : List (Int × Int)) (i j : Nat) (w : World) (hln : l.length = n) (h30 : n ≤ 30) (hi : i < n) (hj : j < n) (hp : ∀ k, k < n → isPg (vx l k) = true) (hR : Rd w w.heap.size A l) :
    Calls Try.prog 70 #[.slice A n c, .agg #[.int .i64 (vx l i).1, .int .i64 (vx l i).2], .agg #[.int .i64 (vx l j).1, .int .i64 (vx l j).2]] w fun e w' => e = .returned (.agg #[.int .i64 (cntR l i j n), .int .i64 (cntO l i j n), .int .i64 (cntL l i j n)]) ∧ Below w.heap.size w w' := by
  have HN := Lib.hid hln
  have HC : Hid (∀ W, Below w.heap.size w W → ∀ i, i < n → ∃ b off, A = some ⟨b, off, none⟩ ∧ b < w.heap.size ∧ W.cell? ⟨b, off + i * 2, none⟩ = some (.int .i64 (vx l i).1) ∧ W.cell? ⟨b, off + i * 2 + 1, none⟩ = some (.int .i64 (vx l i).2)) := Lib.hid (fun W hW i hi => by
    obtain ⟨b, off, e, hb, hc⟩ := hR (by omega)
    obtain ⟨h1, h2⟩ := hc i _ (vx_get (by omega))
    exact ⟨b, off, e, hb, (hW.cell (p := ⟨b, off + i * 2, none⟩) hb).trans h1, (hW.cell (p := ⟨b, off + i * 2 + 1, none⟩) hb).trans h2⟩)
  have HSZ : Hid (∀ k, k < n → Sz (vx l k).1 (vx l k).2) := Lib.hid (fun k hk => sz_of (hp k hk))
  have sa := HSZ.out i hi
  have sb := HSZ.out j hj
  obtain ⟨a1, a2, hae⟩ : ∃ a1 a2, vx l i = (a1, a2) := ⟨_, _, rfl⟩
  obtain ⟨b1, b2, hbe⟩ : ∃ b1 b2, vx l j = (b1, b2) := ⟨_, _, rfl⟩
  have HAE := Lib.hid hae
  have HBE := Lib.hid hbe
  rw [hae] at sa ⊢
  rw [hbe] at sb ⊢
  clear hR hln hp hae hbe hi hj
  go_enter Try.func70, Try.ntmps70
  go_wp2_with fail
  obtain ⟨W1, hW1⟩ : ∃ W1, W1 = ((((w.alloc (.cells #[.int .i64 a1, .int .i64 a2] 38)).alloc (.cells #[.int .i64 b1, .int .i64 b2] 38)).alloc (.cells #[.int .i64 0, .int .i64 0, .int .i64 0] 70)).alloc (.cells #[.int .i64 0, .int .i64 0, .int .i64 0] 70)) := ⟨_, rfl⟩
  rw [← hW1]
  have yW10_0 : W1.cell? ⟨w.heap.size, 0, none⟩ = some (.int .i64 a1) := by rw [hW1]; go_simp
  have yW10_1 : W1.cell? ⟨w.heap.size, 1, none⟩ = some (.int .i64 a2) := by rw [hW1]; go_simp
  have fW10 : ∀ o, W1.frozen? ⟨w.heap.size, o, none⟩ = false := by intro o; rw [hW1]; (repeat rw [frozen?_alloc_cells]); simp [World.frozen?]
  have zW10 : w.heap.size < W1.heap.size := by rw [hW1]; simp <;> omega
  have yW11_0 : W1.cell? ⟨w.heap.size + 1, 0, none⟩ = some (.int .i64 b1) := by rw [hW1]; go_simp
  have yW11_1 : W1.cell? ⟨w.heap.size + 1, 1, none⟩ = some (.int .i64 b2) := by rw [hW1]; go_simp
  have fW11 : ∀ o, W1.frozen? ⟨w.heap.size + 1, o, none⟩ = false := by intro o; rw [hW1]; (repeat rw [frozen?_alloc_cells]); simp [World.frozen?]
  have zW11 : w.heap.size + 1 < W1.heap.size := by rw [hW1]; simp <;> omega
  have yW12_0 : W1.cell? ⟨w.heap.size + 2, 0, none⟩ = some (.int .i64 0) := by rw [hW1]; go_simp
  have yW12_1 : W1.cell? ⟨w.heap.size + 2, 1, none⟩ = some (.int .i64 0) := by rw [hW1]; go_simp
  have yW12_2 : W1.cell? ⟨w.heap.size + 2, 2, none⟩ = some (.int .i64 0) := by rw [hW1]; go_simp
  have fW12 : ∀ o, W1.frozen? ⟨w.heap.size + 2, o, none⟩ = false := by intro o; rw [hW1]; (repeat rw [frozen?_alloc_cells]); simp [World.frozen?]
  have zW12 : w.heap.size + 2 < W1.heap.size := by rw [hW1]; simp <;> omega
  have yW13_0 : W1.cell? ⟨w.heap.size + 3, 0, none⟩ = some (.int .i64 0) := by rw [hW1]; go_simp
  have yW13_1 : W1.cell? ⟨w.heap.size + 3, 1, none⟩ = some (.int .i64 0) := by rw [hW1]; go_simp
  have yW13_2 : W1.cell? ⟨w.heap.size + 3, 2, none⟩ = some (.int .i64 0) := by rw [hW1]; go_simp
  have fW13 : ∀ o, W1.frozen? ⟨w.heap.size + 3, o, none⟩ = false := by intro o; rw [hW1]; (repeat rw [frozen?_alloc_cells]); simp [World.frozen?]
  have zW13 : w.heap.size + 3 < W1.heap.size := by rw [hW1]; simp <;> omega
  have BW1 : Below w.heap.size w W1 := by rw [hW1]; exact (Below.alloc (Below.alloc (Below.alloc (Below.alloc (Below.refl _ _) (by simp <;> omega) _) (by simp <;> omega) _) (by simp <;> omega) _) (by simp <;> omega) _)
  have eW1 : Hid (W1.heap.size = w.heap.size + 4) := Lib.hid (by rw [hW1]; simp)
  clear hW1
  go_loopg [12] n (fun g q wr => ∃ z : Nat, z ≤ n ∧ g = n - z ∧ q = .int .i64 z ∧ Below w.heap.size w wr ∧ w.heap.size + 3 < wr.heap.size ∧ wr.cell? ⟨w.heap.size, 0, none⟩ = some (.int .i64 a1) ∧ wr.cell? ⟨w.heap.size, 1, none⟩ = some (.int .i64 a2) ∧ wr.cell? ⟨w.heap.size + 1, 0, none⟩ = some (.int .i64 b1) ∧ wr.cell? ⟨w.heap.size + 1, 1, none⟩ = some (.int .i64 b2) ∧ wr.cell? ⟨w.heap.size + 2, 0, none⟩ = some (.int .i64 0) ∧ wr.cell? ⟨w.heap.size + 2, 1, none⟩ = some (.int .i64 0) ∧ wr.cell? ⟨w.heap.size + 2, 2, none⟩ = some (.int .i64 0) ∧ (∀ o, wr.frozen? ⟨w.heap.size + 2, o, none⟩ = false) ∧ (∀ o, wr.frozen? ⟨w.heap.size + 3, o, none⟩ = false) ∧ wr.cell? ⟨w.heap.size + 3, 0, none⟩ = some (.int .i64 (cntR l i j z)) ∧ wr.cell? ⟨w.heap.size + 3, 1, none⟩ = some (.int .i64 (cntO l i j z)) ∧ wr.cell? ⟨w.heap.size + 3, 2, none⟩ = some (.int .i64 (cntL l i j z)))
  case atStart => 
    have ez := eW1.out
    exact ⟨0, Nat.zero_le _, rfl, rfl, BW1, by omega, yW10_0, yW10_1, yW11_0, yW11_1, yW12_0, yW12_1, yW12_2, fW12, fW13, yW13_0, yW13_1, yW13_2⟩
  case round =>
    obtain ⟨z, hz, hg, rfl, hB, hzr, u1, u2, u3, u4, c0, c1, c2, f2, f3, r0, r1, r2⟩ := hrel
    rename World => wo
    have HGZ := Lib.hid hg
    clear hg
    by_cases hlz : z < n
    · obtain ⟨b, off, hA, hb, x1, x2⟩ := HC.out wo hB z hlz
      subst hA
      have sc := HSZ.out z hlz
      have cL := cntL_bd l i j z
      have cR := cntR_bd l i j z
      have cO := cntO_bd l i j z
      have HCL : Hid (cntL l i j (z + 1) = cntL l i j z + if 0 < twP (vx l i) (vx l j) (vx l z) then 1 else 0) := Lib.hid rfl
      have HCR : Hid (cntR l i j (z + 1) = cntR l i j z + if twP (vx l i) (vx l j) (vx l z) < 0 then 1 else 0) := Lib.hid rfl
      have HCO : Hid (cntO l i j (z + 1) = cntO l i j z + if twP (vx l i) (vx l j) (vx l z) = 0 then 1 else 0) := Lib.hid rfl
      have htw : twP (vx l i) (vx l j) (vx l z) = twI a1 a2 b1 b2 (vx l z).1 (vx l z).2 := by rw [HAE.out, HBE.out]; rfl
      rw [htw] at HCL HCR HCO
      clear htw
      obtain ⟨q1, q2, hqe⟩ : ∃ q1 q2, vx l z = (q1, q2) := ⟨_, _, rfl⟩
      rw [hqe] at x1 x2 sc HCL HCR HCO
      clear hqe
      have KT := Lib.hid (fun W => twiceThree_any a1 a2 b1 b2 q1 q2 W sa sb sc)
      have KC := Lib.hid (fun t W => compare_any t 0 W)
      generalize cntL l i j z = x0 at *
      generalize cntR l i j z = y0 at *
      generalize cntO l i j z = o0 at *
      generalize twI a1 a2 b1 b2 q1 q2 = t at *
      rcases Int.lt_trichotomy t 0 with ht | ht | ht
      · have hs : sgI (t - 0) = -1 := by unfold sgI; rw [if_neg (by omega), if_pos (by omega)]
        have K2 := Lib.hid (fun W => KC.out t W)
        rw [hs] at K2
        have ey : IntKind.i64.wrap (y0 + 1) = y0 + 1 := IntWalk.i64_in _ (by omega)
        have E1 : Hid (x0 = cntL l i j (z + 1)) := Lib.hid (by rw [HCL.out, if_neg (by omega), Int.add_zero])
        have E2 : Hid (y0 + 1 = cntR l i j (z + 1)) := Lib.hid (by rw [HCR.out, if_pos ht])
        have E3 : Hid (o0 = cntO l i j (z + 1)) := Lib.hid (by rw [HCO.out, if_neg (by omega), Int.add_zero])
        clear HCL HCR HCO KC hs
        have z0 : w.heap.size < wo.heap.size := by omega
        have z1 : w.heap.size + 1 < wo.heap.size := by omega
        go_wp2_with fail
        refine (KT.out _).mono ?_; rintro e w1 ⟨rfl, hb1⟩
        have B1 := (Below.alloc hB hB.size (.cells #[.int .i64 q1, .int .i64 q2] 38)).trans (hb1.mono (by simp; have := hB.size; omega))
        have z2 : w.heap.size + 3 < w1.heap.size := by (have := hb1.size; simp at this; omega)
        obtain ⟨hc1, hf1⟩ := bcell hb1
        have v1 : w1.cell? ⟨w.heap.size, 0, none⟩ = some (.int .i64 a1) := (hc1 _ _ (by simp; omega)).trans ((World.cell?_alloc_lt wo _ ⟨w.heap.size, 0, none⟩ z0).trans u1)
        have v2 : w1.cell? ⟨w.heap.size, 1, none⟩ = some (.int .i64 a2) := (hc1 _ _ (by simp; omega)).trans ((World.cell?_alloc_lt wo _ ⟨w.heap.size, 1, none⟩ z0).trans u2)
        have v3 : w1.cell? ⟨w.heap.size + 1, 0, none⟩ = some (.int .i64 b1) := (hc1 _ _ (by simp; omega)).trans ((World.cell?_alloc_lt wo _ ⟨w.heap.size + 1, 0, none⟩ z1).trans u3)
        have v4 : w1.cell? ⟨w.heap.size + 1, 1, none⟩ = some (.int .i64 b2) := (hc1 _ _ (by simp; omega)).trans ((World.cell?_alloc_lt wo _ ⟨w.heap.size + 1, 1, none⟩ z1).trans u4)
        have s0 : w1.cell? ⟨w.heap.size + 3, 0, none⟩ = some (.int .i64 y0) := (hc1 _ _ (by simp; omega)).trans ((World.cell?_alloc_lt wo _ ⟨w.heap.size + 3, 0, none⟩ hzr).trans r0)
        have s1 : w1.cell? ⟨w.heap.size + 3, 1, none⟩ = some (.int .i64 o0) := (hc1 _ _ (by simp; omega)).trans ((World.cell?_alloc_lt wo _ ⟨w.heap.size + 3, 1, none⟩ hzr).trans r1)
        have s2 : w1.cell? ⟨w.heap.size + 3, 2, none⟩ = some (.int .i64 x0) := (hc1 _ _ (by simp; omega)).trans ((World.cell?_alloc_lt wo _ ⟨w.heap.size + 3, 2, none⟩ hzr).trans r2)
        have d0 : w1.cell? ⟨w.heap.size + 2, 0, none⟩ = some (.int .i64 0) := (hc1 _ _ (by simp; omega)).trans ((World.cell?_alloc_lt wo _ ⟨w.heap.size + 2, 0, none⟩ (by simp; omega)).trans c0)
        have d1 : w1.cell? ⟨w.heap.size + 2, 1, none⟩ = some (.int .i64 0) := (hc1 _ _ (by simp; omega)).trans ((World.cell?_alloc_lt wo _ ⟨w.heap.size + 2, 1, none⟩ (by simp; omega)).trans c1)
        have d2 : w1.cell? ⟨w.heap.size + 2, 2, none⟩ = some (.int .i64 0) := (hc1 _ _ (by simp; omega)).trans ((World.cell?_alloc_lt wo _ ⟨w.heap.size + 2, 2, none⟩ (by simp; omega)).trans c2)
        have g2 : ∀ o, w1.frozen? ⟨w.heap.size + 2, o, none⟩ = false := fun o => (hf1 _ _ (by simp; omega)).trans (by rw [frozen?_alloc_cells]; exact f2 o)
        have g3 : ∀ o, w1.frozen? ⟨w.heap.size + 3, o, none⟩ = false := fun o => (hf1 _ _ (by simp; omega)).trans (by rw [frozen?_alloc_cells]; exact f3 o)
        clear c0 c1 c2 u1 u2 u3 u4 x1 x2 r0 r1 r2 f2 f3 hc1 hf1 hb1 KT
        go_wp2_with fail
        refine (K2.out _).mono ?_; rintro e _ ⟨rfl, rfl⟩
        go_wp2_with fail
        go_roundg (n - (z + 1))
        case measure => have := HGZ.out; omega
        case rel =>
          refine ⟨z + 1, by omega, rfl, by go_num, Below.setCell B1 (by simp; omega) _, by simp; omega, ?_, ?_, ?_, ?_, ?_, ?_, ?_, ?_, ?_, ?_, ?_, ?_⟩
          · rw [World.cell?_setCell_other _ _ _ _ (by intro h; simp only [Addr.mk.injEq] at h; omega)]; exact v1
          · rw [World.cell?_setCell_other _ _ _ _ (by intro h; simp only [Addr.mk.injEq] at h; omega)]; exact v2
          · rw [World.cell?_setCell_other _ _ _ _ (by intro h; simp only [Addr.mk.injEq] at h; omega)]; exact v3
          · rw [World.cell?_setCell_other _ _ _ _ (by intro h; simp only [Addr.mk.injEq] at h; omega)]; exact v4
          · rw [World.cell?_setCell_other _ _ _ _ (by intro h; simp only [Addr.mk.injEq] at h; omega)]; exact d0
          · rw [World.cell?_setCell_other _ _ _ _ (by intro h; simp only [Addr.mk.injEq] at h; omega)]; exact d1
          · rw [World.cell?_setCell_other _ _ _ _ (by intro h; simp only [Addr.mk.injEq] at h; omega)]; exact d2
          · intro o; rw [World.frozen?_setCell]; exact g2 o
          · intro o; rw [World.frozen?_setCell]; exact g3 o
          · rw [World.cell?_setCell_same _ _ _ s0, ← E2.out]
          · rw [World.cell?_setCell_other _ _ _ _ (by intro h; simp only [Addr.mk.injEq] at h; omega), ← E3.out]; exact s1
          · rw [World.cell?_setCell_other _ _ _ _ (by intro h; simp only [Addr.mk.injEq] at h; omega), ← E1.out]; exact s2
      · have hs : sgI (t - 0) = 0 := by unfold sgI; rw [if_neg (by omega), if_neg (by omega)]
        have K2 := Lib.hid (fun W => KC.out t W)
        rw [hs] at K2
        have ey : IntKind.i64.wrap (o0 + 1) = o0 + 1 := IntWalk.i64_in _ (by omega)
        have E1 : Hid (x0 = cntL l i j (z + 1)) := Lib.hid (by rw [HCL.out, if_neg (by omega), Int.add_zero])
        have E2 : Hid (y0 = cntR l i j (z + 1)) := Lib.hid (by rw [HCR.out, if_neg (by omega), Int.add_zero])
        have E3 : Hid (o0 + 1 = cntO l i j (z + 1)) := Lib.hid (by rw [HCO.out, if_pos ht])
        clear HCL HCR HCO KC hs
        clear ht
        have z0 : w.heap.size < wo.heap.size := by omega
        have z1 : w.heap.size + 1 < wo.heap.size := by omega
        go_wp2_with fail
        refine (KT.out _).mono ?_; rintro e w1 ⟨rfl, hb1⟩
        have B1 := (Below.alloc hB hB.size (.cells #[.int .i64 q1, .int .i64 q2] 38)).trans (hb1.mono (by simp; have := hB.size; omega))
        have z2 : w.heap.size + 3 < w1.heap.size := by (have := hb1.size; simp at this; omega)
        obtain ⟨hc1, hf1⟩ := bcell hb1
        have v1 : w1.cell? ⟨w.heap.size, 0, none⟩ = some (.int .i64 a1) := (hc1 _ _ (by simp; omega)).trans ((World.cell?_alloc_lt wo _ ⟨w.heap.size, 0, none⟩ z0).trans u1)
        have v2 : w1.cell? ⟨w.heap.size, 1, none⟩ = some (.int .i64 a2) := (hc1 _ _ (by simp; omega)).trans ((World.cell?_alloc_lt wo _ ⟨w.heap.size, 1, none⟩ z0).trans u2)
        have v3 : w1.cell? ⟨w.heap.size + 1, 0, none⟩ = some (.int .i64 b1) := (hc1 _ _ (by simp; omega)).trans ((World.cell?_alloc_lt wo _ ⟨w.heap.size + 1, 0, none⟩ z1).trans u3)
        have v4 : w1.cell? ⟨w.heap.size + 1, 1, none⟩ = some (.int .i64 b2) := (hc1 _ _ (by simp; omega)).trans ((World.cell?_alloc_lt wo _ ⟨w.heap.size + 1, 1, none⟩ z1).trans u4)
        have s0 : w1.cell? ⟨w.heap.size + 3, 0, none⟩ = some (.int .i64 y0) := (hc1 _ _ (by simp; omega)).trans ((World.cell?_alloc_lt wo _ ⟨w.heap.size + 3, 0, none⟩ hzr).trans r0)
        have s1 : w1.cell? ⟨w.heap.size + 3, 1, none⟩ = some (.int .i64 o0) := (hc1 _ _ (by simp; omega)).trans ((World.cell?_alloc_lt wo _ ⟨w.heap.size + 3, 1, none⟩ hzr).trans r1)
        have s2 : w1.cell? ⟨w.heap.size + 3, 2, none⟩ = some (.int .i64 x0) := (hc1 _ _ (by simp; omega)).trans ((World.cell?_alloc_lt wo _ ⟨w.heap.size + 3, 2, none⟩ hzr).trans r2)
        have d0 : w1.cell? ⟨w.heap.size + 2, 0, none⟩ = some (.int .i64 0) := (hc1 _ _ (by simp; omega)).trans ((World.cell?_alloc_lt wo _ ⟨w.heap.size + 2, 0, none⟩ (by simp; omega)).trans c0)
        have d1 : w1.cell? ⟨w.heap.size + 2, 1, none⟩ = some (.int .i64 0) := (hc1 _ _ (by simp; omega)).trans ((World.cell?_alloc_lt wo _ ⟨w.heap.size + 2, 1, none⟩ (by simp; omega)).trans c1)
        have d2 : w1.cell? ⟨w.heap.size + 2, 2, none⟩ = some (.int .i64 0) := (hc1 _ _ (by simp; omega)).trans ((World.cell?_alloc_lt wo _ ⟨w.heap.size + 2, 2, none⟩ (by simp; omega)).trans c2)
        have g2 : ∀ o, w1.frozen? ⟨w.heap.size + 2, o, none⟩ = false := fun o => (hf1 _ _ (by simp; omega)).trans (by rw [frozen?_alloc_cells]; exact f2 o)
        have g3 : ∀ o, w1.frozen? ⟨w.heap.size + 3, o, none⟩ = false := fun o => (hf1 _ _ (by simp; omega)).trans (by rw [frozen?_alloc_cells]; exact f3 o)
        clear c0 c1 c2 u1 u2 u3 u4 x1 x2 r0 r1 r2 f2 f3 hc1 hf1 hb1 KT
        go_wp2_with fail
        refine (K2.out _).mono ?_; rintro e _ ⟨rfl, rfl⟩
        go_wp2_with fail
        go_roundg (n - (z + 1))
        case measure => have := HGZ.out; omega
        case rel =>
          refine ⟨z + 1, by omega, rfl, by go_num, Below.setCell B1 (by simp; omega) _, by simp; omega, ?_, ?_, ?_, ?_, ?_, ?_, ?_, ?_, ?_, ?_, ?_, ?_⟩
          · rw [World.cell?_setCell_other _ _ _ _ (by intro h; simp only [Addr.mk.injEq] at h; omega)]; exact v1
          · rw [World.cell?_setCell_other _ _ _ _ (by intro h; simp only [Addr.mk.injEq] at h; omega)]; exact v2
          · rw [World.cell?_setCell_other _ _ _ _ (by intro h; simp only [Addr.mk.injEq] at h; omega)]; exact v3
          · rw [World.cell?_setCell_other _ _ _ _ (by intro h; simp only [Addr.mk.injEq] at h; omega)]; exact v4
          · rw [World.cell?_setCell_other _ _ _ _ (by intro h; simp only [Addr.mk.injEq] at h; omega)]; exact d0
          · rw [World.cell?_setCell_other _ _ _ _ (by intro h; simp only [Addr.mk.injEq] at h; omega)]; exact d1
          · rw [World.cell?_setCell_other _ _ _ _ (by intro h; simp only [Addr.mk.injEq] at h; omega)]; exact d2
          · intro o; rw [World.frozen?_setCell]; exact g2 o
          · intro o; rw [World.frozen?_setCell]; exact g3 o
          · rw [World.cell?_setCell_other _ _ _ _ (by intro h; simp only [Addr.mk.injEq] at h; omega), ← E2.out]; exact s0
          · rw [World.cell?_setCell_same _ _ _ s1, ← E3.out]
          · rw [World.cell?_setCell_other _ _ _ _ (by intro h; simp only [Addr.mk.injEq] at h; omega), ← E1.out]; exact s2
      · have hs : sgI (t - 0) = 1 := by unfold sgI; rw [if_pos (by omega)]
        have K2 := Lib.hid (fun W => KC.out t W)
        rw [hs] at K2
        have ey : IntKind.i64.wrap (x0 + 1) = x0 + 1 := IntWalk.i64_in _ (by omega)
        have E1 : Hid (x0 + 1 = cntL l i j (z + 1)) := Lib.hid (by rw [HCL.out, if_pos ht])
        have E2 : Hid (y0 = cntR l i j (z + 1)) := Lib.hid (by rw [HCR.out, if_neg (by omega), Int.add_zero])
        have E3 : Hid (o0 = cntO l i j (z + 1)) := Lib.hid (by rw [HCO.out, if_neg (by omega), Int.add_zero])
        clear HCL HCR HCO KC hs
        have z0 : w.heap.size < wo.heap.size := by omega
        have z1 : w.heap.size + 1 < wo.heap.size := by omega
        go_wp2_with fail
        refine (KT.out _).mono ?_; rintro e w1 ⟨rfl, hb1⟩
        have B1 := (Below.alloc hB hB.size (.cells #[.int .i64 q1, .int .i64 q2] 38)).trans (hb1.mono (by simp; have := hB.size; omega))
        have z2 : w.heap.size + 3 < w1.heap.size := by (have := hb1.size; simp at this; omega)
        obtain ⟨hc1, hf1⟩ := bcell hb1
        have v1 : w1.cell? ⟨w.heap.size, 0, none⟩ = some (.int .i64 a1) := (hc1 _ _ (by simp; omega)).trans ((World.cell?_alloc_lt wo _ ⟨w.heap.size, 0, none⟩ z0).trans u1)
        have v2 : w1.cell? ⟨w.heap.size, 1, none⟩ = some (.int .i64 a2) := (hc1 _ _ (by simp; omega)).trans ((World.cell?_alloc_lt wo _ ⟨w.heap.size, 1, none⟩ z0).trans u2)
        have v3 : w1.cell? ⟨w.heap.size + 1, 0, none⟩ = some (.int .i64 b1) := (hc1 _ _ (by simp; omega)).trans ((World.cell?_alloc_lt wo _ ⟨w.heap.size + 1, 0, none⟩ z1).trans u3)
        have v4 : w1.cell? ⟨w.heap.size + 1, 1, none⟩ = some (.int .i64 b2) := (hc1 _ _ (by simp; omega)).trans ((World.cell?_alloc_lt wo _ ⟨w.heap.size + 1, 1, none⟩ z1).trans u4)
        have s0 : w1.cell? ⟨w.heap.size + 3, 0, none⟩ = some (.int .i64 y0) := (hc1 _ _ (by simp; omega)).trans ((World.cell?_alloc_lt wo _ ⟨w.heap.size + 3, 0, none⟩ hzr).trans r0)
        have s1 : w1.cell? ⟨w.heap.size + 3, 1, none⟩ = some (.int .i64 o0) := (hc1 _ _ (by simp; omega)).trans ((World.cell?_alloc_lt wo _ ⟨w.heap.size + 3, 1, none⟩ hzr).trans r1)
        have s2 : w1.cell? ⟨w.heap.size + 3, 2, none⟩ = some (.int .i64 x0) := (hc1 _ _ (by simp; omega)).trans ((World.cell?_alloc_lt wo _ ⟨w.heap.size + 3, 2, none⟩ hzr).trans r2)
        have d0 : w1.cell? ⟨w.heap.size + 2, 0, none⟩ = some (.int .i64 0) := (hc1 _ _ (by simp; omega)).trans ((World.cell?_alloc_lt wo _ ⟨w.heap.size + 2, 0, none⟩ (by simp; omega)).trans c0)
        have d1 : w1.cell? ⟨w.heap.size + 2, 1, none⟩ = some (.int .i64 0) := (hc1 _ _ (by simp; omega)).trans ((World.cell?_alloc_lt wo _ ⟨w.heap.size + 2, 1, none⟩ (by simp; omega)).trans c1)
        have d2 : w1.cell? ⟨w.heap.size + 2, 2, none⟩ = some (.int .i64 0) := (hc1 _ _ (by simp; omega)).trans ((World.cell?_alloc_lt wo _ ⟨w.heap.size + 2, 2, none⟩ (by simp; omega)).trans c2)
        have g2 : ∀ o, w1.frozen? ⟨w.heap.size + 2, o, none⟩ = false := fun o => (hf1 _ _ (by simp; omega)).trans (by rw [frozen?_alloc_cells]; exact f2 o)
        have g3 : ∀ o, w1.frozen? ⟨w.heap.size + 3, o, none⟩ = false := fun o => (hf1 _ _ (by simp; omega)).trans (by rw [frozen?_alloc_cells]; exact f3 o)
        clear c0 c1 c2 u1 u2 u3 u4 x1 x2 r0 r1 r2 f2 f3 hc1 hf1 hb1 KT
        go_wp2_with fail
        refine (K2.out _).mono ?_; rintro e _ ⟨rfl, rfl⟩
        go_wp2_with fail
        go_roundg (n - (z + 1))
        case measure => have := HGZ.out; omega
        case rel =>
          refine ⟨z + 1, by omega, rfl, by go_num, Below.setCell B1 (by simp; omega) _, by simp; omega, ?_, ?_, ?_, ?_, ?_, ?_, ?_, ?_, ?_, ?_, ?_, ?_⟩
          · rw [World.cell?_setCell_other _ _ _ _ (by intro h; simp only [Addr.mk.injEq] at h; omega)]; exact v1
          · rw [World.cell?_setCell_other _ _ _ _ (by intro h; simp only [Addr.mk.injEq] at h; omega)]; exact v2
          · rw [World.cell?_setCell_other _ _ _ _ (by intro h; simp only [Addr.mk.injEq] at h; omega)]; exact v3
          · rw [World.cell?_setCell_other _ _ _ _ (by intro h; simp only [Addr.mk.injEq] at h; omega)]; exact v4
          · rw [World.cell?_setCell_other _ _ _ _ (by intro h; simp only [Addr.mk.injEq] at h; omega)]; exact d0
          · rw [World.cell?_setCell_other _ _ _ _ (by intro h; simp only [Addr.mk.injEq] at h; omega)]; exact d1
          · rw [World.cell?_setCell_other _ _ _ _ (by intro h; simp only [Addr.mk.injEq] at h; omega)]; exact d2
          · intro o; rw [World.frozen?_setCell]; exact g2 o
          · intro o; rw [World.frozen?_setCell]; exact g3 o
          · rw [World.cell?_setCell_other _ _ _ _ (by intro h; simp only [Addr.mk.injEq] at h; omega), ← E2.out]; exact s0
          · rw [World.cell?_setCell_other _ _ _ _ (by intro h; simp only [Addr.mk.injEq] at h; omega), ← E3.out]; exact s1
          · rw [World.cell?_setCell_same _ _ _ s2, ← E1.out]
    · have hzn : z = n := by omega
      have E1 : Hid (cntL l i j z = cntL l i j n) := Lib.hid (by rw [hzn])
      have E2 : Hid (cntR l i j z = cntR l i j n) := Lib.hid (by rw [hzn])
      have E3 : Hid (cntO l i j z = cntO l i j n) := Lib.hid (by rw [hzn])
      clear HC HGZ hz hzn
      generalize cntL l i j z = x0 at *
      generalize cntR l i j z = y0 at *
      generalize cntO l i j z = o0 at *
      clear u1 u2 u3 u4
      go_wp2_with fail
      have e0 : ∀ (a b c : Value), (((wo.setCell ⟨w.heap.size + 1 + 1, 0, none⟩ a).setCell ⟨w.heap.size + 1 + 1, 1, none⟩ b).setCell ⟨w.heap.size + 1 + 1, 2, none⟩ c).cell? ⟨w.heap.size + 1 + 1, 0, none⟩ = some a := fun a b c => by
        rw [World.cell?_setCell_other _ _ _ _ (by intro h; simp at h), World.cell?_setCell_other _ _ _ _ (by intro h; simp at h), World.cell?_setCell_same _ _ _ c0]
      have e1 : ∀ (a b c : Value), (((wo.setCell ⟨w.heap.size + 1 + 1, 0, none⟩ a).setCell ⟨w.heap.size + 1 + 1, 1, none⟩ b).setCell ⟨w.heap.size + 1 + 1, 2, none⟩ c).cell? ⟨w.heap.size + 1 + 1, 1, none⟩ = some b := fun a b c => by
        rw [World.cell?_setCell_other _ _ _ _ (by intro h; simp at h), World.cell?_setCell_same (u := .int .i64 0) _ _ _ (by rw [World.cell?_setCell_other _ _ _ _ (by intro h; simp at h)]; exact c1)]
      have e2 : ∀ (a b c : Value), (((wo.setCell ⟨w.heap.size + 1 + 1, 0, none⟩ a).setCell ⟨w.heap.size + 1 + 1, 1, none⟩ b).setCell ⟨w.heap.size + 1 + 1, 2, none⟩ c).cell? ⟨w.heap.size + 1 + 1, 2, none⟩ = some c := fun a b c => by
        rw [World.cell?_setCell_same (u := .int .i64 0) _ _ _ (by rw [World.cell?_setCell_other _ _ _ _ (by intro h; simp at h), World.cell?_setCell_other _ _ _ _ (by intro h; simp at h)]; exact c2)]
      refine bodyPost_ret (v := .agg #[.int .i64 y0, .int .i64 o0, .int .i64 x0]) (by simp [results, Try.results70, go_sem, e0, e1, e2]) rfl ⟨by rw [← E1.out, ← E2.out, ← E3.out], Below.setCell (Below.setCell (Below.setCell hB (by simp; omega) _) (by simp; omega) _) (by simp; omega) _⟩
end Go.Proofs.Ythpbnfmfedggjaa
