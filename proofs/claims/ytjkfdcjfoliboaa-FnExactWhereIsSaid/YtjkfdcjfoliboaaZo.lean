/- contracts: WhereIs, on both sides -/
import Derived.Test.YtjkfdcjfoliboaaZm
import Derived.Test.YtjkfdcjfoliboaaZn
import Derived.Test.YtjkfdcjfoliboaaSd
import Derived.Test.YtjkfdcjfoliboaaQg
import Derived.Test.YtjkfdcjfoliboaaD
namespace Go.Proofs.Ytjkfdcjfoliboaa
open Go.ChangeShapes Go.WideShapes Go.ChangeAt Go.RowKit Go.Joins
set_option linter.unusedVariables false
set_option linter.unusedSimpArgs false
set_option maxRecDepth 4000
set_option maxHeartbeats 1000000
theorem specWhereIs_any (A : Option Addr) (c : Nat) (l : List (Int × Int)) (p1 p2 : Int) (w : World) (hn : l.length ≤ 1048576) (hcap : l.length ≤ c) (hc2 : c ≤ 9223372036854775807) (hR : Rd w w.heap.size A l) :
    Calls Try.prog 16 #[.slice A l.length c, .agg #[.int .i64 p1, .int .i64 p2]] w fun e w' => e = .returned (.tuple #[.int .i64 (gi (goodB l && isPegB p1 p2) (whN l (p1, p2))), .bool (goodB l && isPegB p1 p2)]) ∧ Below w.heap.size w w' := by
  have K := Lib.hid (fun W (hb : Below w.heap.size w W) => pgGood_any A c l W hn hcap hc2 (rd_more (rd_below hR hb (Nat.le_refl _)) hb.size))
  have K2 := Lib.hid (fun W => pgIs_any p1 p2 W)
  by_cases hg : Good l
  · have hgt := goodB_true hg
    rw [hgt] at K ⊢
    by_cases hp : isPegB p1 p2 = true
    · have K3 := Lib.hid (fun W (hb : Below w.heap.size w W) => pgWhere_any A c l p1 p2 W hg (sz_of hp) (rd_more (rd_below hR hb (Nat.le_refl _)) hb.size))
      rw [hp] at K2 ⊢
      rw [show (true && true) = true from rfl, gi_true]
      generalize whN l (p1, p2) = v at *
      clear hgt hg hR hp
      go_enter Try.func16, Try.ntmps16
      go_wp2_with fail
      obtain ⟨Wa, hWa⟩ : ∃ Wa, Wa = (w.alloc (.cells #[.int .i64 p1, .int .i64 p2] 34)) := ⟨_, rfl⟩
      rw [← hWa]
      have yWa0_0 : Wa.cell? ⟨w.heap.size, 0, none⟩ = some (.int .i64 p1) := by rw [hWa]; go_simp
      have yWa0_1 : Wa.cell? ⟨w.heap.size, 1, none⟩ = some (.int .i64 p2) := by rw [hWa]; go_simp
      have fWa0 : ∀ o, Wa.frozen? ⟨w.heap.size, o, none⟩ = false := by intro o; rw [hWa]; (repeat rw [frozen?_alloc_cells]); simp [World.frozen?]
      have zWa0 : w.heap.size < Wa.heap.size := by rw [hWa]; simp <;> omega
      have BWa : Below w.heap.size w Wa := by rw [hWa]; exact (Below.alloc (Below.refl _ _) (by simp <;> omega) _)
      have eWa : Hid (Wa.heap.size = w.heap.size + 1) := Lib.hid (by rw [hWa]; simp)
      clear hWa
      clear fWa0 eWa
      refine (K.out Wa BWa).mono ?_; rintro e w1 ⟨rfl, hb1⟩
      have B1 := BWa.trans (hb1.mono BWa.size)
      have y0 := ((bcell hb1).1 _ _ zWa0).trans yWa0_0
      have y1 := ((bcell hb1).1 _ _ zWa0).trans yWa0_1
      have z1 : w.heap.size < w1.heap.size := Nat.lt_of_lt_of_le zWa0 hb1.size
      clear hb1 BWa yWa0_0 yWa0_1 zWa0
      go_wp2_with fail
      refine (K2.out w1).mono ?_; rintro e w2 ⟨rfl, hb2⟩
      have B2 := B1.trans (hb2.mono B1.size)
      have x0 := ((bcell hb2).1 _ _ z1).trans y0
      have x1 := ((bcell hb2).1 _ _ z1).trans y1
      have z2 : w.heap.size < w2.heap.size := Nat.lt_of_lt_of_le z1 hb2.size
      clear hb2 B1 y0 y1 z1
      go_wp2_with fail
      refine (K3.out w2 B2).mono ?_; rintro e w3 ⟨rfl, hb3⟩
      have B3 := B2.trans (hb3.mono B2.size)
      go_wp2_with fail
      go_ret2
      exact ⟨rfl, B3⟩
    · have hpf : isPegB p1 p2 = false := by simpa using hp
      rw [hpf] at K2 ⊢
      rw [show (true && false) = false from rfl, gi_false]
      clear hgt hg hR hp hpf
      go_enter Try.func16, Try.ntmps16
      go_wp2_with fail
      obtain ⟨Wa, hWa⟩ : ∃ Wa, Wa = (w.alloc (.cells #[.int .i64 p1, .int .i64 p2] 34)) := ⟨_, rfl⟩
      rw [← hWa]
      have yWa0_0 : Wa.cell? ⟨w.heap.size, 0, none⟩ = some (.int .i64 p1) := by rw [hWa]; go_simp
      have yWa0_1 : Wa.cell? ⟨w.heap.size, 1, none⟩ = some (.int .i64 p2) := by rw [hWa]; go_simp
      have fWa0 : ∀ o, Wa.frozen? ⟨w.heap.size, o, none⟩ = false := by intro o; rw [hWa]; (repeat rw [frozen?_alloc_cells]); simp [World.frozen?]
      have zWa0 : w.heap.size < Wa.heap.size := by rw [hWa]; simp <;> omega
      have BWa : Below w.heap.size w Wa := by rw [hWa]; exact (Below.alloc (Below.refl _ _) (by simp <;> omega) _)
      have eWa : Hid (Wa.heap.size = w.heap.size + 1) := Lib.hid (by rw [hWa]; simp)
      clear hWa
      clear fWa0 eWa
      refine (K.out Wa BWa).mono ?_; rintro e w1 ⟨rfl, hb1⟩
      have B1 := BWa.trans (hb1.mono BWa.size)
      have y0 := ((bcell hb1).1 _ _ zWa0).trans yWa0_0
      have y1 := ((bcell hb1).1 _ _ zWa0).trans yWa0_1
      have z1 : w.heap.size < w1.heap.size := Nat.lt_of_lt_of_le zWa0 hb1.size
      clear hb1 BWa yWa0_0 yWa0_1 zWa0
      go_wp2_with fail
      refine (K2.out w1).mono ?_; rintro e w2 ⟨rfl, hb2⟩
      have B2 := B1.trans (hb2.mono B1.size)
      go_wp2_with fail
      go_ret2
      exact ⟨rfl, B2⟩
  · have hgf := goodB_false hg
    rw [hgf] at K ⊢
    rw [show (false && isPegB p1 p2) = false from rfl, gi_false]
    clear hgf hg hR
    go_enter Try.func16, Try.ntmps16
    go_wp2_with fail
    obtain ⟨Wa, hWa⟩ : ∃ Wa, Wa = (w.alloc (.cells #[.int .i64 p1, .int .i64 p2] 34)) := ⟨_, rfl⟩
    rw [← hWa]
    have yWa0_0 : Wa.cell? ⟨w.heap.size, 0, none⟩ = some (.int .i64 p1) := by rw [hWa]; go_simp
    have yWa0_1 : Wa.cell? ⟨w.heap.size, 1, none⟩ = some (.int .i64 p2) := by rw [hWa]; go_simp
    have fWa0 : ∀ o, Wa.frozen? ⟨w.heap.size, o, none⟩ = false := by intro o; rw [hWa]; (repeat rw [frozen?_alloc_cells]); simp [World.frozen?]
    have zWa0 : w.heap.size < Wa.heap.size := by rw [hWa]; simp <;> omega
    have BWa : Below w.heap.size w Wa := by rw [hWa]; exact (Below.alloc (Below.refl _ _) (by simp <;> omega) _)
    have eWa : Hid (Wa.heap.size = w.heap.size + 1) := Lib.hid (by rw [hWa]; simp)
    clear hWa
    clear fWa0 eWa
    refine (K.out Wa BWa).mono ?_; rintro e w1 ⟨rfl, hb1⟩
    have B1 := BWa.trans (hb1.mono BWa.size)
    go_wp2_with fail
    go_ret2
    exact ⟨rfl, B1⟩
theorem implWhereIs_any (A : Option Addr) (c : Nat) (l : List (Int × Int)) (p1 p2 : Int) (w : World) (hn : l.length ≤ 1048576) (hR : Rd w w.heap.size A l) :
    Calls Try.prog 18 #[.slice A l.length c, .agg #[.int .i64 p1, .int .i64 p2]] w fun e w' => e = .returned (.tuple #[.int .i64 (gi (goodB l && isPegB p1 p2) (whN l (p1, p2))), .bool (goodB l && isPegB p1 p2)]) ∧ Below w.heap.size w w' := by
  have K := Lib.hid (fun W (hb : Below w.heap.size w W) => implIsPolygon_any A c l W hn (rd_more (rd_below hR hb (Nat.le_refl _)) hb.size))
  have K2 := Lib.hid (fun W => implIsPeg_any p1 p2 W)
  by_cases hg : Good l
  · have hgt := goodB_true hg
    rw [hgt] at K ⊢
    by_cases hp : isPegB p1 p2 = true
    · have K3 := Lib.hid (fun W (hb : Below w.heap.size w W) => placeIn_any A c l p1 p2 W hg (sz_of hp) (rd_more (rd_below hR hb (Nat.le_refl _)) hb.size))
      rw [hp] at K2 ⊢
      rw [show (true && true) = true from rfl, gi_true]
      generalize whN l (p1, p2) = v at *
      clear hgt hg hR hp
      go_enter Try.func18, Try.ntmps18
      go_wp2_with fail
      obtain ⟨Wa, hWa⟩ : ∃ Wa, Wa = (w.alloc (.cells #[.int .i64 p1, .int .i64 p2] 34)) := ⟨_, rfl⟩
      rw [← hWa]
      have yWa0_0 : Wa.cell? ⟨w.heap.size, 0, none⟩ = some (.int .i64 p1) := by rw [hWa]; go_simp
      have yWa0_1 : Wa.cell? ⟨w.heap.size, 1, none⟩ = some (.int .i64 p2) := by rw [hWa]; go_simp
      have fWa0 : ∀ o, Wa.frozen? ⟨w.heap.size, o, none⟩ = false := by intro o; rw [hWa]; (repeat rw [frozen?_alloc_cells]); simp [World.frozen?]
      have zWa0 : w.heap.size < Wa.heap.size := by rw [hWa]; simp <;> omega
      have BWa : Below w.heap.size w Wa := by rw [hWa]; exact (Below.alloc (Below.refl _ _) (by simp <;> omega) _)
      have eWa : Hid (Wa.heap.size = w.heap.size + 1) := Lib.hid (by rw [hWa]; simp)
      clear hWa
      clear fWa0 eWa
      refine (K.out Wa BWa).mono ?_; rintro e w1 ⟨rfl, hb1⟩
      have B1 := BWa.trans (hb1.mono BWa.size)
      have y0 := ((bcell hb1).1 _ _ zWa0).trans yWa0_0
      have y1 := ((bcell hb1).1 _ _ zWa0).trans yWa0_1
      have z1 : w.heap.size < w1.heap.size := Nat.lt_of_lt_of_le zWa0 hb1.size
      clear hb1 BWa yWa0_0 yWa0_1 zWa0
      go_wp2_with fail
      refine (K2.out w1).mono ?_; rintro e w2 ⟨rfl, hb2⟩
      have B2 := B1.trans (hb2.mono B1.size)
      have x0 := ((bcell hb2).1 _ _ z1).trans y0
      have x1 := ((bcell hb2).1 _ _ z1).trans y1
      have z2 : w.heap.size < w2.heap.size := Nat.lt_of_lt_of_le z1 hb2.size
      clear hb2 B1 y0 y1 z1
      go_wp2_with fail
      refine (K3.out w2 B2).mono ?_; rintro e w3 ⟨rfl, hb3⟩
      have B3 := B2.trans (hb3.mono B2.size)
      go_wp2_with fail
      go_ret2
      exact ⟨rfl, B3⟩
    · have hpf : isPegB p1 p2 = false := by simpa using hp
      rw [hpf] at K2 ⊢
      rw [show (true && false) = false from rfl, gi_false]
      clear hgt hg hR hp hpf
      go_enter Try.func18, Try.ntmps18
      go_wp2_with fail
      obtain ⟨Wa, hWa⟩ : ∃ Wa, Wa = (w.alloc (.cells #[.int .i64 p1, .int .i64 p2] 34)) := ⟨_, rfl⟩
      rw [← hWa]
      have yWa0_0 : Wa.cell? ⟨w.heap.size, 0, none⟩ = some (.int .i64 p1) := by rw [hWa]; go_simp
      have yWa0_1 : Wa.cell? ⟨w.heap.size, 1, none⟩ = some (.int .i64 p2) := by rw [hWa]; go_simp
      have fWa0 : ∀ o, Wa.frozen? ⟨w.heap.size, o, none⟩ = false := by intro o; rw [hWa]; (repeat rw [frozen?_alloc_cells]); simp [World.frozen?]
      have zWa0 : w.heap.size < Wa.heap.size := by rw [hWa]; simp <;> omega
      have BWa : Below w.heap.size w Wa := by rw [hWa]; exact (Below.alloc (Below.refl _ _) (by simp <;> omega) _)
      have eWa : Hid (Wa.heap.size = w.heap.size + 1) := Lib.hid (by rw [hWa]; simp)
      clear hWa
      clear fWa0 eWa
      refine (K.out Wa BWa).mono ?_; rintro e w1 ⟨rfl, hb1⟩
      have B1 := BWa.trans (hb1.mono BWa.size)
      have y0 := ((bcell hb1).1 _ _ zWa0).trans yWa0_0
      have y1 := ((bcell hb1).1 _ _ zWa0).trans yWa0_1
      have z1 : w.heap.size < w1.heap.size := Nat.lt_of_lt_of_le zWa0 hb1.size
      clear hb1 BWa yWa0_0 yWa0_1 zWa0
      go_wp2_with fail
      refine (K2.out w1).mono ?_; rintro e w2 ⟨rfl, hb2⟩
      have B2 := B1.trans (hb2.mono B1.size)
      go_wp2_with fail
      go_ret2
      exact ⟨rfl, B2⟩
  · have hgf := goodB_false hg
    rw [hgf] at K ⊢
    rw [show (false && isPegB p1 p2) = false from rfl, gi_false]
    clear hgf hg hR
    go_enter Try.func18, Try.ntmps18
    go_wp2_with fail
    obtain ⟨Wa, hWa⟩ : ∃ Wa, Wa = (w.alloc (.cells #[.int .i64 p1, .int .i64 p2] 34)) := ⟨_, rfl⟩
    rw [← hWa]
    have yWa0_0 : Wa.cell? ⟨w.heap.size, 0, none⟩ = some (.int .i64 p1) := by rw [hWa]; go_simp
    have yWa0_1 : Wa.cell? ⟨w.heap.size, 1, none⟩ = some (.int .i64 p2) := by rw [hWa]; go_simp
    have fWa0 : ∀ o, Wa.frozen? ⟨w.heap.size, o, none⟩ = false := by intro o; rw [hWa]; (repeat rw [frozen?_alloc_cells]); simp [World.frozen?]
    have zWa0 : w.heap.size < Wa.heap.size := by rw [hWa]; simp <;> omega
    have BWa : Below w.heap.size w Wa := by rw [hWa]; exact (Below.alloc (Below.refl _ _) (by simp <;> omega) _)
    have eWa : Hid (Wa.heap.size = w.heap.size + 1) := Lib.hid (by rw [hWa]; simp)
    clear hWa
    clear fWa0 eWa
    refine (K.out Wa BWa).mono ?_; rintro e w1 ⟨rfl, hb1⟩
    have B1 := BWa.trans (hb1.mono BWa.size)
    go_wp2_with fail
    go_ret2
    exact ⟨rfl, B1⟩
end Go.Proofs.Ytjkfdcjfoliboaa
