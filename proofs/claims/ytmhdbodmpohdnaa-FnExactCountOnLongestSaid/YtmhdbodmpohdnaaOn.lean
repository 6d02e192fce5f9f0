/- contract: how many pegs of a board follow each other -/
import Derived.Test.YtmhdbodmpohdnaaOm
import Derived.Test.YtmhdbodmpohdnaaOg
import Derived.Test.YtmhdbodmpohdnaaTb
namespace Go.Proofs.Ytmhdbodmpohdnaa
open Go.ChangeShapes Go.WideShapes Go.ChangeAt Go.RowKit Go.Joins
set_option linter.unusedVariables false
set_option linter.unusedSimpArgs false
set_option maxRecDepth 4000
/-- a point of the call's own, in block b -/
structure PtC (w W : World) (b : Nat) (x y : Int) : Prop where
  lo : w.heap.size ≤ b
  hi : b < W.heap.size
  c0 : W.cell? ⟨b, 0, none⟩ = some (.int .i64 x)
  c1 : W.cell? ⟨b, 1, none⟩ = some (.int .i64 y)
  fz : ∀ o, W.frozen? ⟨b, o, none⟩ = false
theorem PtC.up {w W W' : World} {b : Nat} {x y : Int} (h : PtC w W b x y) (hb : Below W.heap.size W W') : PtC w W' b x y :=
  ⟨h.lo, Nat.lt_of_lt_of_le h.hi hb.size, ((bcell hb).1 _ _ h.hi).trans h.c0, ((bcell hb).1 _ _ h.hi).trans h.c1, fun o => ((bcell hb).2 _ _ h.hi).trans (h.fz o)⟩
theorem PtC.new {w W : World} (hs : w.heap.size ≤ W.heap.size) (x y : Int) (t : TypeId) : PtC w (W.alloc (.cells #[.int .i64 x, .int .i64 y] t)) W.heap.size x y :=
  ⟨hs, by simp, by go_simp, by go_simp, fun o => by (repeat rw [frozen?_alloc_cells]); simp [World.frozen?]⟩
theorem PtC.store {w W : World} {b : Nat} {x y : Int} (h : PtC w W b x y) (x' y' : Int) : PtC w ((W.setCell ⟨b, 0, none⟩ (.int .i64 x')).setCell ⟨b, 1, none⟩ (.int .i64 y')) b x' y' := by
  have e0 := World.cell?_setCell_same W ⟨b, 0, none⟩ (.int .i64 x') h.c0
  have e1 : (W.setCell ⟨b, 0, none⟩ (.int .i64 x')).cell? ⟨b, 1, none⟩ = some (.int .i64 y) := (World.cell?_setCell_other W ⟨b, 0, none⟩ ⟨b, 1, none⟩ _ (by simp)).trans h.c1
  have e2 := World.cell?_setCell_same (W.setCell ⟨b, 0, none⟩ (.int .i64 x')) ⟨b, 1, none⟩ (.int .i64 y') e1
  have e3 : ((W.setCell ⟨b, 0, none⟩ (.int .i64 x')).setCell ⟨b, 1, none⟩ (.int .i64 y')).cell? ⟨b, 0, none⟩ = some (.int .i64 x') := (World.cell?_setCell_other _ ⟨b, 1, none⟩ ⟨b, 0, none⟩ _ (by simp)).trans e0
  exact ⟨h.lo, by simp only [World.size_setCell]; exact h.hi, e3, e2, fun o => by rw [World.frozen?_setCell, World.frozen?_setCell]; exact h.fz o⟩
set_option maxHeartbeats 4000000 in
theorem countAlong_any (nw nh : Nat) (p1 p2 s1 s2 : Int) (w : World) (h1 : nw ≤ 12) (h2 : nh ≤ 12) (hp1 : 0 ≤ p1 ∧ p1 ≤ 12) (hp2 : 0 ≤ p2 ∧ p2 ≤ 12) (hs1 : -12 ≤ s1 ∧ s1 ≤ 12) (hs2 : -12 ≤ s2 ∧ s2 ≤ 12) (hpos : 1 ≤ s1 ∨ (s1 = 0 ∧ 1 ≤ s2)) :
    Calls Try.prog 70 #[.agg #[.int .i64 nw, .int .i64 nh], .agg #[.int .i64 p1, .int .i64 p2], .agg #[.int .i64 s1, .int .i64 s2]] w fun e w' => e = .returned (.int .i64 (alg nw nh s1 s2 13 p1 p2)) ∧ Below w.heap.size w w' := by
  have KH : Hid (∀ x y W, Calls Try.prog 46 #[.agg #[.int .i64 nw, .int .i64 nh], .agg #[.int .i64 x, .int .i64 y]] W fun e w' => e = .returned (.bool (onQ nw nh x y)) ∧ Below W.heap.size W w') :=
    Lib.hid (fun x y W => by rw [onQ_eq]; exact has_any nw nh x y W (by omega) (by omega))
  have KP : Hid (∀ x y W, -24 ≤ x ∧ x ≤ 24 → -24 ≤ y ∧ y ≤ 24 → Calls Try.prog 68 #[.agg #[.int .i64 x, .int .i64 y], .agg #[.int .i64 s1, .int .i64 s2]] W fun e w' => e = .returned (.agg #[.int .i64 (x + s1), .int .i64 (y + s2)]) ∧ Below W.heap.size W w') :=
    Lib.hid (fun x y W hx hy => plus_any x y s1 s2 W (by unfold Mid; omega) (by unfold Mid; omega) (by unfold Mid; omega) (by unfold Mid; omega))
  have HP0 : Hid (potP nw nh s1 s2 13 p1 p2) := Lib.hid (by unfold potP; omega)
  have HON : Hid (∀ f x y, potP nw nh s1 s2 f x y → onQ nw nh x y = true → ∃ g, f = g + 1 ∧ potP nw nh s1 s2 g (x + s1) (y + s2) ∧ 0 ≤ x ∧ x < nw ∧ 0 ≤ y ∧ y < nh) := Lib.hid (fun f x y h1 h2 => pot_on h1 h2)
  have HA1 : Hid (∀ g x y, onQ nw nh x y = true → alg nw nh s1 s2 (g + 1) x y = 1 + alg nw nh s1 s2 g (x + s1) (y + s2)) := Lib.hid (fun g x y h => alg_on h)
  have HA0 : Hid (∀ f x y, onQ nw nh x y = false → alg nw nh s1 s2 f x y = 0) := Lib.hid (fun f x y h => alg_off h)
  have HW : Hid (nw ≤ 12 ∧ nh ≤ 12) := Lib.hid ⟨h1, h2⟩
  have HS : Hid ((-12 ≤ s1 ∧ s1 ≤ 12) ∧ (-12 ≤ s2 ∧ s2 ≤ 12)) := Lib.hid ⟨hs1, hs2⟩
  have HT : Hid (∃ T, T = alg nw nh s1 s2 13 p1 p2) := Lib.hid ⟨_, rfl⟩
  obtain ⟨T, hT⟩ := HT.out
  rw [← hT]
  have HTE := Lib.hid hT
  clear hpos HT hT hs1 hs2 h1 h2
  generalize alg nw nh s1 s2 = G at *
  generalize potP nw nh s1 s2 = PP at *
  generalize onQ nw nh = O at *
  go_enter Try.func70, Try.ntmps70
  go_wp2_with fail
  obtain ⟨W0, hW0⟩ : ∃ W0, W0 = ((w.alloc (.cells #[.int .i64 (nw : Int), .int .i64 (nh : Int)] 34)).alloc (.cells #[.int .i64 p1, .int .i64 p2] 28)).alloc (.cells #[.int .i64 s1, .int .i64 s2] 28) := ⟨_, rfl⟩
  have QP := Lib.hid (PtC.new (w := W0) (Nat.le_refl _) p1 p2 28)
  have BP := Below.alloc (Below.refl W0.heap.size W0) (Nat.le_refl _) (.cells #[.int .i64 p1, .int .i64 p2] 28)
  have eW0 : Hid (W0.heap.size = w.heap.size + 3) := Lib.hid (by rw [hW0]; simp)
  have BW0 : Below w.heap.size w W0 := by rw [hW0]; exact Below.alloc (Below.alloc (Below.alloc (Below.refl _ _) (by simp) _) (by simp) _) (by simp <;> omega) _
  have b0 : W0.cell? ⟨w.heap.size, 0, none⟩ = some (.int .i64 (nw : Int)) := by rw [hW0]; go_simp
  have b1 : W0.cell? ⟨w.heap.size, 1, none⟩ = some (.int .i64 (nh : Int)) := by rw [hW0]; go_simp
  have d0 : W0.cell? ⟨w.heap.size + 2, 0, none⟩ = some (.int .i64 s1) := by rw [hW0]; go_simp
  have d1 : W0.cell? ⟨w.heap.size + 2, 1, none⟩ = some (.int .i64 s2) := by rw [hW0]; go_simp
  have zb : w.heap.size < W0.heap.size := by have := eW0.out; omega
  have zd : w.heap.size + 2 < W0.heap.size := by have := eW0.out; omega
  have QP1 : Hid (PtC W0 (W0.alloc (.cells #[.int .i64 p1, .int .i64 p2] 28)) (w.heap.size + 1 + 1 + 1) p1 p2) := Lib.hid (by rw [show w.heap.size + 1 + 1 + 1 = W0.heap.size by have := eW0.out; omega]; exact QP.out)
  clear QP
  rw [← hW0]
  clear hW0
  go_loopg [7, 8] 14 (fun g s q wr => ∃ (f j b : Nat) (x y : Int), g = f + 1 ∧ j + f = 13 ∧ s = .int .i64 (j : Int) ∧ q = .pointer (some ⟨b, 0, none⟩) ∧ Below W0.heap.size W0 wr ∧ Hid (PtC W0 wr b x y) ∧ Hid (PP f x y) ∧ Hid (T = j + G f x y) ∧ (-12 ≤ x ∧ x ≤ 24) ∧ (-12 ≤ y ∧ y ≤ 24))
  case atStart => exact ⟨13, 0, _, p1, p2, rfl, rfl, rfl, rfl, BP, QP1, HP0, Lib.hid (by rw [HTE.out, Nat.zero_add]), by omega, by omega⟩
  case round =>
    clear QP1 BP
    obtain ⟨f, j, b, x, y, hg, hj, rfl, rfl, hB, hQ, hP, hE, hx, hy⟩ := hrel
    rename World => wo
    have HGK := Lib.hid hg
    clear hg
    have q0 := hQ.out.c0
    have q1 := hQ.out.c1
    have qz := hQ.out.hi
    have r0 := ((bcell hB).1 _ 0 zb).trans b0
    have r1 := ((bcell hB).1 _ 1 zb).trans b1
    have zo := Nat.lt_of_lt_of_le zb hB.size
    have KHx := Lib.hid (fun W => KH.out x y W)
    by_cases ho : O x y = true
    · obtain ⟨g, hf, hP2, k1, k2, k3, k4⟩ := HON.out f x y hP.out ho
      have hW := HW.out
      have hS := HS.out
      have HE2 := Lib.hid (HA1.out g x y ho)
      rw [ho] at KHx
      have HP2 := Lib.hid hP2
      have KPx := Lib.hid (fun W => KP.out x y W (by omega) (by omega))
      have HFG := Lib.hid hf
      clear hP hP2 hf ho
      go_wp2_with fail
      refine (KHx.out wo).mono ?_; rintro e w1 ⟨rfl, hb1⟩
      have B1 := hB.trans (hb1.mono hB.size)
      have Q1 := hQ.out.up hb1
      clear hQ q0 q1 qz r0 r1 hb1 KHx
      have q0 := Q1.c0
      have q1 := Q1.c1
      have qz := Q1.hi
      have d0' := ((bcell B1).1 _ 0 zd).trans d0
      have d1' := ((bcell B1).1 _ 1 zd).trans d1
      have zd' := Nat.lt_of_lt_of_le zd B1.size
      have zo1 := B1.size
      have QN := PtC.new (w := W0) (W := w1) zo1 x y 28
      have BN := Below.alloc B1 zo1 (.cells #[.int .i64 x, .int .i64 y] 28)
      have HQN := Lib.hid QN
      have HBN := Lib.hid BN
      clear QN BN Q1
      go_wp2_with fail
      obtain ⟨w2, hw2⟩ : ∃ w2, w2 = w1.alloc (.cells #[.int .i64 x, .int .i64 y] 28) := ⟨_, rfl⟩
      rw [← hw2] at HQN HBN ⊢
      clear hw2
      refine (KPx.out w2).mono ?_; rintro e w3 ⟨rfl, hb3⟩
      have Q3 := HQN.out.up hb3
      have B3 := HBN.out.trans (hb3.mono HBN.out.size)
      have e0 := Q3.c0
      have e1 := Q3.c1
      have ez := Q3.hi
      have ef := Q3.fz
      have HQ4 := Lib.hid (Q3.store (x + s1) (y + s2))
      have HB4 := Lib.hid ((B3.setCell (p := ⟨w1.heap.size, 0, none⟩) Q3.lo (.int .i64 (x + s1))).setCell (p := ⟨w1.heap.size, 1, none⟩) Q3.lo (.int .i64 (y + s2)))
      clear hb3 HQN HBN B1 Q3 B3 q0 q1 d0' d1' KPx
      go_wp2_with fail
      go_roundg (g + 1)
      case measure => have := HGK.out; have := HFG.out; omega
      case rel => exact ⟨g, j + 1, _, x + s1, y + s2, rfl, by have := HFG.out; omega, by go_num, rfl, HB4.out, HQ4, HP2, Lib.hid (by rw [hE.out, HFG.out, HE2.out]; omega), by omega, by omega⟩
    · have hof : O x y = false := by simpa using ho
      rw [hof] at KHx
      have HE2 := Lib.hid (HA0.out f x y hof)
      clear ho hof
      go_wp2_with fail
      refine (KHx.out wo).mono ?_; rintro e w1 ⟨rfl, hb1⟩
      have B1 := hB.trans (hb1.mono hB.size)
      clear hQ q0 q1 qz r0 r1 hb1 KHx
      go_wp2_with fail
      go_ret
      exact ⟨ret_int (by have := hE.out; have := HE2.out; omega), BW0.trans (B1.mono BW0.size)⟩
end Go.Proofs.Ytmhdbodmpohdnaa
