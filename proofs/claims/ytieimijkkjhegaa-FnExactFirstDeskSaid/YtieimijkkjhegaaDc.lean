/- contracts: FirstDesk, on both sides; desks marked and held -/
import Derived.Test.YtieimijkkjhegaaDb
import Derived.Test.YtieimijkkjhegaaLw
import Derived.Test.YtieimijkkjhegaaKm
import Derived.Test.YtieimijkkjhegaaKh
import Derived.OneCell
namespace Go.Proofs.Ytieimijkkjhegaa
open Go.ChangeShapes Go.WideShapes Go.ChangeAt Go.RowKit Go.Joins
set_option linter.unusedVariables false
set_option linter.unusedSimpArgs false
set_option maxRecDepth 4000
def fdF (i : Nat) : Int × Int := if i = 0 then (0, 0) else if i = 1 then (1, 0) else (0, 1)
/-- a desk of three points each, in blocks of its own -/
structure Dk3 (W : World) (g1 g2 : Nat) (F G : Nat → Int × Int) : Prop where
  lt : g1 < g2
  up : g2 < W.heap.size
  r1 : Rw W g1 (g1 + 1) (some ⟨g1, 0, none⟩) 3 F
  r2 : Rw W g2 (g2 + 1) (some ⟨g2, 0, none⟩) 3 G
theorem dk3_below {W W' : World} {g1 g2 : Nat} {F G : Nat → Int × Int} (h : Dk3 W g1 g2 F G) (hb : Below W.heap.size W W') : Dk3 W' g1 g2 F G := by
  obtain ⟨a, b, c, d⟩ := h
  have hz := hb.size
  exact ⟨a, by omega, rw_below c hb (by omega), rw_below d hb (by omega)⟩
def RetD (w : World) (e : Ending) (w' : World) : Prop :=
  ∃ g1 g2, e = .returned (.agg #[.slice (some ⟨g1, 0, none⟩) 3 3, .slice (some ⟨g2, 0, none⟩) 3 3]) ∧ Below w.heap.size w w' ∧ w.heap.size ≤ g1 ∧ Dk3 w' g1 g2 fdF fdF
theorem rw_lit {W : World} {g : Nat} (h : ∀ j u, [Value.int .i64 0, .int .i64 0, .int .i64 1, .int .i64 0, .int .i64 0, .int .i64 1][j]? = some u → W.cell? ⟨g, j, none⟩ = some u) (hf : ∀ o, W.frozen? ⟨g, o, none⟩ = false) : Rw W g (g + 1) (some ⟨g, 0, none⟩) 3 fdF := by
  intro _
  refine ⟨g, 0, rfl, Nat.le_refl _, by omega, fun i hi => ⟨?_, hf _, hf _⟩⟩
  match i, hi with
  | 0, _ => exact ⟨h 0 _ rfl, h 1 _ rfl⟩
  | 1, _ => exact ⟨h 2 _ rfl, h 3 _ rfl⟩
  | 2, _ => exact ⟨h 4 _ rfl, h 5 _ rfl⟩
theorem lit_new (w : World) (t : TypeId) : Rw (w.alloc (.cells #[.int .i64 0, .int .i64 0, .int .i64 1, .int .i64 0, .int .i64 0, .int .i64 1] t)) w.heap.size (w.heap.size + 1) (some ⟨w.heap.size, 0, none⟩) 3 fdF := by
  refine rw_lit (fun j u hj => ?_) (fun o => by rw [frozen?_alloc_cells]; simp [World.frozen?])
  rw [cell_of_row (w.alloc _) w.heap.size j _ t (0, 0) (heap_alloc_new w _)]
  simpa using hj
theorem rw_set {W : World} {lo B n : Nat} {A : Option Addr} {F : Nat → Int × Int} {a : Addr} (h : Rw W lo B A n F) (u : Value) (ha : a.block < lo ∨ B ≤ a.block) : Rw (W.setCell a u) lo B A n F := by
  intro hn
  obtain ⟨b, off, e, h1, h2, h3⟩ := h hn
  refine ⟨b, off, e, h1, h2, fun i hi => ?_⟩
  have hne : a.block ≠ b := by omega
  have hc : ∀ o, (W.setCell a u).cell? ⟨b, o, none⟩ = W.cell? ⟨b, o, none⟩ := fun o => World.cell?_setCell_other _ _ _ _ (fun e => hne (by rw [e]))
  rw [hc, hc, World.frozen?_setCell, World.frozen?_setCell]
  exact h3 i hi
theorem mvMade_any (w : World) : Calls Try.prog 87 #[.int .i64 1, .int .i64 0, .int .i64 1] w fun e w' => e = .returned (.slice (some ⟨w.heap.size, 0, none⟩) 3 3) ∧ Below w.heap.size w w' ∧ w.heap.size < w'.heap.size ∧ Rw w' w.heap.size (w.heap.size + 1) (some ⟨w.heap.size, 0, none⟩) 3 fdF := by
  have H := Lib.hid (lit_new w 42)
  have HB := Lib.hid (Below.alloc (Below.refl w.heap.size w) (Nat.le_refl _) (.cells #[.int .i64 0, .int .i64 0, .int .i64 1, .int .i64 0, .int .i64 0, .int .i64 1] 42))
  go_enter Try.func87, Try.ntmps87
  go_wp2_with fail
  go_ret
  exact ⟨rfl, HB.out, by simp, H.out⟩
set_option maxHeartbeats 1000000 in
theorem specFirstDesk_any (w : World) : Calls Try.prog 41 #[] w (RetD w) := by
  have K := Lib.hid mvMade_any
  have HB := Lib.hid (Below.alloc (Below.refl w.heap.size w) (Nat.le_refl _) (.cells #[.slice none 0 0, .slice none 0 0] 53))
  go_enter Try.func41, Try.ntmps41
  go_wp2_with fail
  obtain ⟨W0, hW0⟩ : ∃ W0, W0 = w.alloc (.cells #[.slice none 0 0, .slice none 0 0] 53) := ⟨_, rfl⟩
  have y0 : W0.cell? ⟨w.heap.size, 0, none⟩ = some (.slice none 0 0) := by rw [hW0]; go_simp
  have y1 : W0.cell? ⟨w.heap.size, 1, none⟩ = some (.slice none 0 0) := by rw [hW0]; go_simp
  have f0 : ∀ o, W0.frozen? ⟨w.heap.size, o, none⟩ = false := fun o => by rw [hW0, frozen?_alloc_cells]; simp [World.frozen?]
  have z0 : w.heap.size < W0.heap.size := by rw [hW0]; simp
  have B0 := HB.out
  rw [← hW0] at B0 ⊢
  clear hW0 HB
  refine (K.out _).mono ?_; rintro e w1 ⟨rfl, hb1, u1, r1⟩
  have B1 := B0.trans (hb1.mono B0.size)
  have y0' := ((bcell hb1).1 _ 0 z0).trans y0
  have y1' := ((bcell hb1).1 _ 1 z0).trans y1
  have f0' := fun o => ((bcell hb1).2 _ o z0).trans (f0 o)
  have z1 := Nat.lt_of_lt_of_le z0 hb1.size
  clear hb1 y0 y1 f0
  go_wp2_with fail
  refine (K.out _).mono ?_; rintro e w2 ⟨rfl, hb2, u2, r2⟩
  have B2 := B1.trans (hb2.mono B1.size)
  have y0 := ((bcell hb2).1 _ 0 z1).trans y0'
  have y1 := ((bcell hb2).1 _ 1 z1).trans y1'
  have f0 := fun o => ((bcell hb2).2 _ o z1).trans (f0' o)
  have z2 := Nat.lt_of_lt_of_le z1 hb2.size
  have r3 := rw_below r1 hb2 (by omega)
  have g0 := f0 0
  have g1 := f0 1
  have hlt := u1
  clear hb2 y0' y1' f0' r1 B0 B1 f0 u1
  go_wp2_with fail
  refine bodyPost_ret (v := .agg #[.slice (some ⟨W0.heap.size, 0, none⟩) 3 3, .slice (some ⟨w1.heap.size, 0, none⟩) 3 3]) (by simp [results, Try.results41, go_sem, y0, y1, z2]) rfl ⟨W0.heap.size, w1.heap.size, rfl, (B2.setCell (p := ⟨w.heap.size, 0, none⟩) (Nat.le_refl _) _).setCell (p := ⟨w.heap.size, 1, none⟩) (Nat.le_refl _) _, by omega, by omega, by simpa [World.setCell] using u2, ?_, ?_⟩
  · exact rw_set (a := ⟨w.heap.size, 1, none⟩) (rw_set (a := ⟨w.heap.size, 0, none⟩) r3 _ (.inl (by show w.heap.size < W0.heap.size; omega))) _ (.inl (by show w.heap.size < W0.heap.size; omega))
  · exact rw_set (a := ⟨w.heap.size, 1, none⟩) (rw_set (a := ⟨w.heap.size, 0, none⟩) r2 _ (.inl (by show w.heap.size < w1.heap.size; omega))) _ (.inl (by show w.heap.size < w1.heap.size; omega))
set_option maxHeartbeats 1000000 in
theorem implFirstDesk_any (w : World) : Calls Try.prog 42 #[] w (RetD w) := by
  have HE : Hid (RetD w (.returned (.agg #[.slice (some ⟨w.heap.size + 1, 0, none⟩) 3 3, .slice (some ⟨w.heap.size + 1 + 1, 0, none⟩) 3 3])) (((w.alloc (.cells #[.slice (some ⟨w.heap.size + 1, 0, none⟩) 3 3, .slice (some ⟨w.heap.size + 1 + 1, 0, none⟩) 3 3] 53)).alloc (.cells #[.int .i64 0, .int .i64 0, .int .i64 1, .int .i64 0, .int .i64 0, .int .i64 1] 42)).alloc (.cells #[.int .i64 0, .int .i64 0, .int .i64 1, .int .i64 0, .int .i64 0, .int .i64 1] 42))) := Lib.hid (by
    refine ⟨w.heap.size + 1, w.heap.size + 1 + 1, rfl, Below.alloc (Below.alloc (Below.alloc (Below.refl _ _) (Nat.le_refl _) _) (by simp) _) (by simp; omega) _, by omega, by omega, by simp, ?_, ?_⟩
    · have a := lit_new (w.alloc (.cells #[.slice (some ⟨w.heap.size + 1, 0, none⟩) 3 3, .slice (some ⟨w.heap.size + 1 + 1, 0, none⟩) 3 3] 53)) 42
      rw [show (w.alloc (.cells #[.slice (some ⟨w.heap.size + 1, 0, none⟩) 3 3, .slice (some ⟨w.heap.size + 1 + 1, 0, none⟩) 3 3] 53)).heap.size = w.heap.size + 1 by simp] at a
      exact rw_below a (Below.alloc (Below.refl _ _) (Nat.le_refl _) _) (by simp)
    · have a := lit_new ((w.alloc (.cells #[.slice (some ⟨w.heap.size + 1, 0, none⟩) 3 3, .slice (some ⟨w.heap.size + 1 + 1, 0, none⟩) 3 3] 53)).alloc (.cells #[.int .i64 0, .int .i64 0, .int .i64 1, .int .i64 0, .int .i64 0, .int .i64 1] 42)) 42
      rw [show ((w.alloc (.cells #[.slice (some ⟨w.heap.size + 1, 0, none⟩) 3 3, .slice (some ⟨w.heap.size + 1 + 1, 0, none⟩) 3 3] 53)).alloc (.cells #[.int .i64 0, .int .i64 0, .int .i64 1, .int .i64 0, .int .i64 0, .int .i64 1] 42)).heap.size = w.heap.size + 1 + 1 by simp] at a
      exact a)
  go_enter Try.func42, Try.ntmps42
  go_wp2_with fail
  refine bodyPost_ret (v := .agg #[.slice (some ⟨w.heap.size + 1, 0, none⟩) 3 3, .slice (some ⟨w.heap.size + 1 + 1, 0, none⟩) 3 3]) (by simp [results, Try.results42, go_sem]) rfl ?_
  exact HE.out
theorem eqDesk_3 (W : World) (g1 g2 g3 g4 : Nat) (h : Dk3 W g1 g2 fdF fdF) (h' : Dk3 W g3 g4 fdF fdF) :
    Calls Try.prog 40 #[.agg #[.slice (some ⟨g1, 0, none⟩) 3 3, .slice (some ⟨g2, 0, none⟩) 3 3], .agg #[.slice (some ⟨g3, 0, none⟩) 3 3, .slice (some ⟨g4, 0, none⟩) 3 3]] W fun e w' => e = .returned (.bool true) ∧ Below W.heap.size W w' := by
  have hrd : ∀ {w1 : World} {g : Nat}, g < w1.heap.size → Rw w1 g (g + 1) (some ⟨g, 0, none⟩) 3 fdF → Rd w1 w1.heap.size (some ⟨g, 0, none⟩) [(0, 0), (1, 0), (0, 1)] := by
    intro w1 g hg hr _
    obtain ⟨b, off, e, h1, h2, h3⟩ := hr (by omega)
    injection e with e
    injection e with e1 e2
    subst e1 e2
    refine ⟨g, 0, rfl, hg, fun i p hp => ?_⟩
    match i, hp with
    | 0, hp => simp at hp; subst hp; exact (h3 0 (by omega)).1
    | 1, hp => simp at hp; subst hp; exact (h3 1 (by omega)).1
    | 2, hp => simp at hp; subst hp; exact (h3 2 (by omega)).1
  have u1 := h.up
  have u2 := h'.up
  have l1 := h.lt
  have l2 := h'.lt
  exact eqDesk_same (some ⟨g1, 0, none⟩) (some ⟨g2, 0, none⟩) (some ⟨g3, 0, none⟩) (some ⟨g4, 0, none⟩) 3 3 3 3 [(0, 0), (1, 0), (0, 1)] [(0, 0), (1, 0), (0, 1)] W (by simp) (by simp) (hrd (by omega) h.r1) (hrd u1 h.r2) (hrd (by omega) h'.r1) (hrd u2 h'.r2)
theorem only_cell {lo B : Nat} {W W' : World} (h : Only lo B W W') {b o : Nat} (hb : b < lo ∨ B ≤ b) : W'.cell? ⟨b, o, none⟩ = W.cell? ⟨b, o, none⟩ := World.cell?_of_block (w := W) (h.block b hb)
set_option maxHeartbeats 1000000 in
theorem markDesk_3 (W : World) (g1 g2 : Nat) (F G : Nat → Int × Int) (h : Dk3 W g1 g2 F G) :
    Calls Try.prog 43 #[.agg #[.slice (some ⟨g1, 0, none⟩) 3 3, .slice (some ⟨g2, 0, none⟩) 3 3], .int .i64 1] W fun e w' => e = .returned (.int .i64 13) ∧ Dk3 w' g1 g2 (mk 1) (mk 7) ∧ Below g1 W w' ∧ ∀ b o, b < W.heap.size → b ≠ g1 → b ≠ g2 → w'.cell? ⟨b, o, none⟩ = W.cell? ⟨b, o, none⟩ := by
  have K1 := Lib.hid (fun W (h : Dk3 W g1 g2 F G) => (markPegS_any (some ⟨g1, 0, none⟩) 3 3 1 g1 (g1 + 1) F W (by omega) (by omega) (by omega) h.r1).mono fun e w' hh => (show e = .returned (.int .i64 7) ∧ Only g1 (g1 + 1) W w' ∧ Rw w' g1 (g1 + 1) (some ⟨g1, 0, none⟩) 3 (mk 1) from ⟨hh.1.trans (ret_int (by omega)), hh.2.1, hh.2.2⟩))
  have K2 := Lib.hid (fun W (h : Rw W g2 (g2 + 1) (some ⟨g2, 0, none⟩) 3 G) => (markPegS_any (some ⟨g2, 0, none⟩) 3 3 7 g2 (g2 + 1) G W (by omega) (by omega) (by omega) h).mono fun e w' hh => (show e = .returned (.int .i64 13) ∧ Only g2 (g2 + 1) W w' ∧ Rw w' g2 (g2 + 1) (some ⟨g2, 0, none⟩) 3 (mk 7) from ⟨hh.1.trans (ret_int (by omega)), hh.2.1, hh.2.2⟩))
  have HB := Lib.hid (Below.alloc (Below.refl W.heap.size W) (Nat.le_refl _) (.cells #[.slice (some ⟨g1, 0, none⟩) 3 3, .slice (some ⟨g2, 0, none⟩) 3 3] 53))
  have HD := Lib.hid (dk3_below h HB.out)
  have hlt := h.lt
  have hup := h.up
  clear h
  go_enter Try.func43, Try.ntmps43
  go_wp2_with fail
  refine (K1.out _ HD.out).mono ?_; rintro e w1 ⟨rfl, ho1, r1⟩
  have y1 : w1.cell? ⟨W.heap.size, 1, none⟩ = some (.slice (some ⟨g2, 0, none⟩) 3 3) := (only_cell ho1 (.inr (by omega))).trans (by go_simp)
  have r2 := rw_only HD.out.r2 ho1 (.inr (by omega))
  have B1 : Below g1 W w1 := (HB.out.mono (by omega)).trans ho1.below
  have u1 : g2 < w1.heap.size := by have := ho1.size; have := HD.out.up; omega
  have C1 : Hid (∀ b o, b < W.heap.size → b ≠ g1 → w1.cell? ⟨b, o, none⟩ = W.cell? ⟨b, o, none⟩) := Lib.hid (fun b o h1 h2 => (only_cell ho1 (by omega)).trans ((bcell HB.out).1 _ _ h1))
  clear ho1 HD HB K1
  go_wp2_with fail
  refine (K2.out _ r2).mono ?_; rintro e w2 ⟨rfl, ho2, r3⟩
  have r4 := rw_only r1 ho2 (.inl (by omega))
  have B2 : Below g1 W w2 := B1.trans (ho2.below.mono (by omega))
  have u2 : g2 < w2.heap.size := by have := ho2.size; omega
  have C2 : Hid (∀ b o, b < W.heap.size → b ≠ g1 → b ≠ g2 → w2.cell? ⟨b, o, none⟩ = W.cell? ⟨b, o, none⟩) := Lib.hid (fun b o h1 h2 h3 => (only_cell ho2 (by omega)).trans (C1.out b o h1 h2))
  clear ho2 r1 r2 B1 y1 u1 K2 C1
  go_wp2_with fail
  go_ret
  exact ⟨rfl, ⟨hlt, u2, r4, r3⟩, B2, C2.out⟩
theorem dk3_belowg {W W' : World} {g g3 g4 : Nat} {F G : Nat → Int × Int} (h : Dk3 W g3 g4 F G) (hb : Below g W W') (hg : g4 < g) : Dk3 W' g3 g4 F G := by
  obtain ⟨a, b, c, d⟩ := h
  have hz := hb.size
  exact ⟨a, by omega, rw_below c hb (by omega), rw_below d hb (by omega)⟩
theorem heldDesk_3 (W : World) (g1 g2 : Nat) (h : Dk3 W g1 g2 (mk 1) (mk 7)) :
    Calls Try.prog 44 #[.agg #[.slice (some ⟨g1, 0, none⟩) 3 3, .slice (some ⟨g2, 0, none⟩) 3 3], .int .i64 1] W fun e w' => e = .returned (.int .i64 13) ∧ Below W.heap.size W w' := by
  have K1 := Lib.hid (fun W (h : Dk3 W g1 g2 (mk 1) (mk 7)) => heldPegS_any (some ⟨g1, 0, none⟩) 3 3 1 g1 (g1 + 1) W (by omega) (by omega) (by omega) h.r1)
  have K2 := Lib.hid (fun W (h : Dk3 W g1 g2 (mk 1) (mk 7)) => heldPegS_any (some ⟨g2, 0, none⟩) 3 3 7 g2 (g2 + 1) W (by omega) (by omega) (by omega) h.r2)
  have HB := Lib.hid (Below.alloc (Below.refl W.heap.size W) (Nat.le_refl _) (.cells #[.slice (some ⟨g1, 0, none⟩) 3 3, .slice (some ⟨g2, 0, none⟩) 3 3] 53))
  have HD := Lib.hid (dk3_below h HB.out)
  clear h
  go_enter Try.func44, Try.ntmps44
  go_wp2_with fail
  refine (K1.out _ HD.out).mono ?_; rintro e _ ⟨rfl, rfl⟩
  go_wp2_with fail
  refine (K2.out _ HD.out).mono ?_; rintro e _ ⟨rfl, rfl⟩
  go_wp2_with fail
  go_ret
  exact ⟨rfl, HB.out⟩
/-- a desk's box -/
structure Bx2 (W : World) (b s1 s2 : Nat) : Prop where
  z : b < W.heap.size
  c0 : W.cell? ⟨b, 0, none⟩ = some (.slice (some ⟨s1, 0, none⟩) 3 3)
  c1 : W.cell? ⟨b, 1, none⟩ = some (.slice (some ⟨s2, 0, none⟩) 3 3)
theorem bx2_new (W : World) (s1 s2 : Nat) : Bx2 (W.alloc (.cells #[.slice (some ⟨s1, 0, none⟩) 3 3, .slice (some ⟨s2, 0, none⟩) 3 3] 53)) W.heap.size s1 s2 := ⟨by simp, by go_simp, by go_simp⟩
theorem bx2_below {W W' : World} {b s1 s2 : Nat} (h : Bx2 W b s1 s2) (hb : Below W.heap.size W W') : Bx2 W' b s1 s2 := ⟨Nat.lt_of_lt_of_le h.z hb.size, ((bcell hb).1 _ _ h.z).trans h.c0, ((bcell hb).1 _ _ h.z).trans h.c1⟩
end Go.Proofs.Ytieimijkkjhegaa
