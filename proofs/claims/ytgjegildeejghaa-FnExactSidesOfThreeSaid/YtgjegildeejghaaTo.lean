/- contracts: SidesOfThree, on both sides -/
import Derived.Test.YtgjegildeejghaaTn
namespace Go.Proofs.Ytgjegildeejghaa
open Go.ChangeShapes Go.WideShapes Go.ChangeAt Go.RowKit Go.Joins
set_option linter.unusedVariables false
set_option linter.unusedSimpArgs false
set_option maxRecDepth 4000
noncomputable def p3 (l : List (Int × Int)) : Nat := if tB l = true then 3 else 0
theorem rwi_sides {w : World} {g : Nat} {l : List (Int × Int)} {lo : Nat} (hlo : lo ≤ g) (hg : g < w.heap.size) (h0 : w.cell? ⟨g, 0, none⟩ = some (.int .i64 (sdF l 0))) (h1 : w.cell? ⟨g, 1, none⟩ = some (.int .i64 (sdF l 1))) (h2 : w.cell? ⟨g, 2, none⟩ = some (.int .i64 (sdF l 2))) (hf : ∀ o, w.frozen? ⟨g, o, none⟩ = false) :
    RwI w lo w.heap.size (some ⟨g, 0, none⟩) 3 (sdF l) :=
  rwi_more (rwi_same (rwi_three hg h0 h1 h2 hf) (fun i hi => by
    match i, hi with
    | 0, _ => rfl
    | 1, _ => rfl
    | 2, _ => rfl)) hlo (Nat.le_refl _)
theorem specSidesOfThree_any (A : Option Addr) (c : Nat) (l : List (Int × Int)) (w : World) (hn : l.length ≤ 1048576) (hcap : l.length ≤ c) (hc2 : c ≤ 9223372036854775807) (hR : Rd w w.heap.size A l) :
    Calls Try.prog 22 #[.slice A l.length c] w (RetNI w (p3 l) (sdF l) (tB l)) := by
  have K := Lib.hid (trThree_any A c l w hn hcap hc2 hR)
  by_cases ht : tB l = true
  · obtain ⟨a1, a2, b1, b2, c1, c2, htr⟩ := tB_true ht
    have K2 := Lib.hid (fun W (hb : Below w.heap.size w W) => trSides_any A c l a1 a2 b1 b2 c1 c2 W (rd_more (rd_below hR hb (Nat.le_refl _)) hb.size) htr)
    rw [show p3 l = 3 from if_pos ht]
    rw [ht] at K ⊢
    clear ht htr hR
    go_enter Try.func22, Try.ntmps22
    go_wp2_with fail
    refine K.out.mono ?_; rintro e w1 ⟨rfl, hb1⟩
    go_wp2_with fail
    refine (K2.out w1 hb1).mono ?_; rintro e w2 ⟨g, rfl, hb2, hg1, hg2, x0, x1, x2, hf⟩
    have B2 := hb1.trans (hb2.mono hb1.size)
    have hz := hb1.size
    have R := Lib.hid (rwi_sides (lo := w.heap.size) (by omega) hg2 x0 x1 x2 hf)
    clear x0 x1 x2 hf
    go_wp2_with fail
    go_ret2
    exact ⟨_, _, rfl, B2, R.out⟩
  · have htf : tB l = false := by simpa using ht
    rw [show p3 l = 0 from if_neg ht]
    rw [htf] at K ⊢
    clear ht htf hR
    go_enter Try.func22, Try.ntmps22
    go_wp2_with fail
    refine K.out.mono ?_; rintro e w1 ⟨rfl, hb1⟩
    go_wp2_with fail
    go_ret2
    exact retNI_nil hb1
theorem implSidesOfThree_any (A : Option Addr) (c : Nat) (l : List (Int × Int)) (w : World) (hn : l.length ≤ 1048576) (hR : Rd w w.heap.size A l) :
    Calls Try.prog 23 #[.slice A l.length c] w (RetNI w (p3 l) (sdF l) (tB l)) := by
  by_cases ht : tB l = true
  · obtain ⟨a1, a2, b1, b2, c1, c2, htr⟩ := tB_true ht
    have K := Lib.hid (threeOf_t A c l a1 a2 b1 b2 c1 c2 w hR htr)
    have K3 := Lib.hid (fun W => sideSquares_any l a1 a2 b1 b2 c1 c2 W htr)
    rw [show p3 l = 3 from if_pos ht]
    rw [ht]
    have HL := Lib.hid (fun W (g lo : Nat) hlo hg h0 h1 h2 hf => rwi_sides (w := W) (g := g) (l := l) (lo := lo) hlo hg h0 h1 h2 hf)
    generalize sdF l = s at *
    clear ht htr hR
    go_enter Try.func23, Try.ntmps23
    go_wp2_with fail
    refine K.out.mono ?_; rintro e w1 ⟨rfl, hb1⟩
    have BA := Below.alloc hb1 hb1.size (.cells #[.int .i64 a1, .int .i64 a2, .int .i64 b1, .int .i64 b2, .int .i64 c1, .int .i64 c2] 67)
    go_wp2_with fail
    refine (K3.out _).mono ?_; rintro e w2 ⟨rfl, hb2⟩
    have B2 := BA.trans (hb2.mono BA.size)
    have hz := B2.size
    go_wp2_with fail
    obtain ⟨W0, hW0⟩ : ∃ W0, W0 = (w2.alloc (.cells #[.int .i64 ((s 0)), .int .i64 ((s 1)), .int .i64 ((s 2))] 72)) := ⟨_, rfl⟩
    rw [← hW0]
    have yW00_0 : W0.cell? ⟨w2.heap.size, 0, none⟩ = some (.int .i64 ((s 0))) := by rw [hW0]; go_simp
    have yW00_1 : W0.cell? ⟨w2.heap.size, 1, none⟩ = some (.int .i64 ((s 1))) := by rw [hW0]; go_simp
    have yW00_2 : W0.cell? ⟨w2.heap.size, 2, none⟩ = some (.int .i64 ((s 2))) := by rw [hW0]; go_simp
    have fW00 : ∀ o, W0.frozen? ⟨w2.heap.size, o, none⟩ = false := by intro o; rw [hW0]; (repeat rw [frozen?_alloc_cells]); simp [World.frozen?]
    have zW00 : w2.heap.size < W0.heap.size := by rw [hW0]; simp <;> omega
    have BW0 : Below w2.heap.size w2 W0 := by rw [hW0]; exact (Below.alloc (Below.refl _ _) (by simp <;> omega) _)
    have eW0 : Hid (W0.heap.size = w2.heap.size + 1) := Lib.hid (by rw [hW0]; simp)
    clear hW0
    have R := Lib.hid (HL.out W0 w2.heap.size w.heap.size hz zW00 yW00_0 yW00_1 yW00_2 fW00)
    have B3 := B2.trans (BW0.mono hz)
    go_wp2_with fail
    go_ret2
    exact ⟨_, _, rfl, B3, R.out⟩
  · have K := Lib.hid (threeOf_f A c l w hn hR ht)
    have htf : tB l = false := by simpa using ht
    rw [show p3 l = 0 from if_neg ht]
    rw [htf]
    clear ht htf hR
    go_enter Try.func23, Try.ntmps23
    go_wp2_with fail
    refine K.out.mono ?_; rintro e w1 ⟨rfl, hb1⟩
    have BA := Below.alloc hb1 hb1.size (.cells #[.int .i64 0, .int .i64 0, .int .i64 0, .int .i64 0, .int .i64 0, .int .i64 0] 67)
    go_wp2_with fail
    go_ret2
    exact retNI_nil BA
end Go.Proofs.Ytgjegildeejghaa
