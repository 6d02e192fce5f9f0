/- contract: PegOfParts, the model -/
import Derived.Test.YtnkfeapdcjnnkaaCk
namespace Go.Proofs.Ytnkfeapdcjnnkaa
open Go.ChangeShapes Go.WideShapes Go.ChangeAt Go.RowKit Go.Joins
set_option linter.unusedVariables false
set_option linter.unusedSimpArgs false
def ptX (l : List (Int × Int)) (f : Nat → Int) : Int := f 0 * (vx l 0).1 + f 1 * (vx l 1).1 + f 2 * (vx l 2).1
def ptY (l : List (Int × Int)) (f : Nat → Int) : Int := f 0 * (vx l 0).2 + f 1 * (vx l 1).2 + f 2 * (vx l 2).2
noncomputable def ptB (l : List (Int × Int)) (n : Nat) (f : Nat → Int) : Bool := tB l && (decide (n = 3) && pqB (f 0) (f 1) (f 2) (areaN l) (ptX l f) (ptY l f))
set_option maxHeartbeats 1000000 in
theorem specPegOfParts_any (A : Option Addr) (c : Nat) (l : List (Int × Int)) (A' : Option Addr) (c' n : Nat) (f : Nat → Int) (w : World) (hn : l.length ≤ 1048576) (hn' : n ≤ 1048576) (hcap : l.length ≤ c) (hc2 : c ≤ 9223372036854775807) (hR : Rd w w.heap.size A l) (hR' : RdI w w.heap.size A' n f) :
    Calls Try.prog 24 #[.slice A l.length c, .slice A' n c'] w fun e w' => e = .returned (.tuple #[.agg #[.int .i64 (isel (ptB l n f) ((ptX l f).tdiv (areaN l))), .int .i64 (isel (ptB l n f) ((ptY l f).tdiv (areaN l)))], .bool (ptB l n f)]) ∧ Below w.heap.size w w' := by
  have K := Lib.hid (fun W (hb : Below w.heap.size w W) => trThree_any A c l W hn hcap hc2 (rd_more (rd_below hR hb (Nat.le_refl _)) hb.size))
  by_cases ht : tB l = true
  · by_cases h3 : n = 3
    · subst h3
      obtain ⟨a1, a2, b1, b2, c1, c2, htr⟩ := tB_true ht
      have E : ptB l 3 f = pqB (f 0) (f 1) (f 2) (areaN l) (ptX l f) (ptY l f) := by unfold ptB; rw [ht]; simp
      rw [E]
      have KR := Lib.hid (fun W (hb : Below w.heap.size w W) => pgArea_any A c l W htr.2.few.1 htr.2.few.2 htr.2.pegs (rd_more (rd_below hR hb (Nat.le_refl _)) hb.size))
      have htn := tri_turn htr
      have hbd := Lib.hid (tri_bd htr)
      have hT := twI_bd (tri_sz htr).1 (tri_sz htr).2.1 (tri_sz htr).2.2
      have eX : Hid (f 0 * a1 + f 1 * b1 + f 2 * c1 = ptX l f) := Lib.hid (by rw [htr.1]; rfl)
      have eY : Hid (f 0 * a2 + f 1 * b2 + f 2 * c2 = ptY l f) := Lib.hid (by rw [htr.1]; rfl)
      rw [ht] at K
      rw [← tri_area htr] at htn hT
      generalize ptX l f = X at *
      generalize ptY l f = Y at *
      generalize areaN l = T at *
      obtain ⟨rfl, hg⟩ := htr
      obtain ⟨b, off, rfl, hb, H3⟩ := rd3_of hR
      obtain ⟨b', off', rfl, hb', HN⟩ := ri3_of hR'
      exact specParts_walk b off c b' off' c' a1 a2 b1 b2 c1 c2 (f 0) (f 1) (f 2) T X Y w hc2 hb hb' hbd htn hT.1 hT.2 eX eY K KR
        (Lib.hid (fun W hW => l1All3_any b' off' c' (f 0) (f 1) (f 2) W (by have := hW.size; omega) (Lib.hid (fun W' hW' => HN.out W' (hW.trans (hW'.mono hW.size)))))) H3 HN
    · have E : Hid (ptB l n f = false) := Lib.hid (by unfold ptB; simp [h3])
      rw [ht] at K
      generalize ptB l n f = ok at *
      have hni : ¬ (n : Int) = 3 := by omega
      have hnb : ((n : Int) != 3) = true := by simpa using hni
      clear ht hR hR' h3
      go_enter Try.func24, Try.ntmps24
      go_wp2_with fail
      obtain ⟨Wa, hWa⟩ : ∃ Wa, Wa = (w.alloc (.cells #[.int .i64 0, .int .i64 0] 40)) := ⟨_, rfl⟩
      rw [← hWa]
      have yWa0_0 : Wa.cell? ⟨w.heap.size, 0, none⟩ = some (.int .i64 0) := by rw [hWa]; go_simp
      have yWa0_1 : Wa.cell? ⟨w.heap.size, 1, none⟩ = some (.int .i64 0) := by rw [hWa]; go_simp
      have fWa0 : ∀ o, Wa.frozen? ⟨w.heap.size, o, none⟩ = false := by intro o; rw [hWa]; (repeat rw [frozen?_alloc_cells]); simp [World.frozen?]
      have zWa0 : w.heap.size < Wa.heap.size := by rw [hWa]; simp <;> omega
      have BWa : Below w.heap.size w Wa := by rw [hWa]; exact (Below.alloc (Below.refl _ _) (by simp <;> omega) _)
      have eWa : Hid (Wa.heap.size = w.heap.size + 1) := Lib.hid (by rw [hWa]; simp)
      clear hWa
      refine (K.out _ BWa).mono ?_; rintro e w1 ⟨rfl, hb1⟩
      have q0 := ((bcell hb1).1 _ _ zWa0).trans yWa0_0
      have q1 := ((bcell hb1).1 _ _ zWa0).trans yWa0_1
      have f0 := ((bcell hb1).2 _ 0 zWa0).trans (fWa0 0)
      have f1 := ((bcell hb1).2 _ 1 zWa0).trans (fWa0 1)
      have zs : w.heap.size < w1.heap.size := Nat.lt_of_lt_of_le zWa0 hb1.size
      have BE := BWa.trans (hb1.mono BWa.size)
      clear hb1 BWa yWa0_0 yWa0_1 fWa0 zWa0 eWa K
      go_wp2_with fail
      refine bodyPost_ret (v := .tuple #[.agg #[.int .i64 0, .int .i64 0], .bool false]) (by simp [results, Try.results24, go_sem, q0, q1, zs]) rfl ⟨by rw [E.out, isel_f, isel_f], ?_⟩
      repeat (first | with_reducible assumption | with_reducible exact Below.refl _ _ | with_reducible apply Below.drew | ((with_reducible refine Below.setCell ?_ ?_ _); rotate_left; (first | exact Nat.le_refl _ | omega | (simp <;> omega))) | ((with_reducible refine Below.alloc ?_ ?_ _); rotate_left; (first | omega | (simp <;> omega))))
  · have htf : tB l = false := by simpa using ht
    have E : Hid (ptB l n f = false) := Lib.hid (by unfold ptB; rw [htf]; rfl)
    rw [htf] at K
    generalize ptB l n f = ok at *
    clear ht htf hR hR'
    go_enter Try.func24, Try.ntmps24
    go_wp2_with fail
    obtain ⟨Wa, hWa⟩ : ∃ Wa, Wa = (w.alloc (.cells #[.int .i64 0, .int .i64 0] 40)) := ⟨_, rfl⟩
    rw [← hWa]
    have yWa0_0 : Wa.cell? ⟨w.heap.size, 0, none⟩ = some (.int .i64 0) := by rw [hWa]; go_simp
    have yWa0_1 : Wa.cell? ⟨w.heap.size, 1, none⟩ = some (.int .i64 0) := by rw [hWa]; go_simp
    have fWa0 : ∀ o, Wa.frozen? ⟨w.heap.size, o, none⟩ = false := by intro o; rw [hWa]; (repeat rw [frozen?_alloc_cells]); simp [World.frozen?]
    have zWa0 : w.heap.size < Wa.heap.size := by rw [hWa]; simp <;> omega
    have BWa : Below w.heap.size w Wa := by rw [hWa]; exact (Below.alloc (Below.refl _ _) (by simp <;> omega) _)
    have eWa : Hid (Wa.heap.size = w.heap.size + 1) := Lib.hid (by rw [hWa]; simp)
    clear hWa
    refine (K.out _ BWa).mono ?_; rintro e w1 ⟨rfl, hb1⟩
    have q0 := ((bcell hb1).1 _ _ zWa0).trans yWa0_0
    have q1 := ((bcell hb1).1 _ _ zWa0).trans yWa0_1
    have f0 := ((bcell hb1).2 _ 0 zWa0).trans (fWa0 0)
    have f1 := ((bcell hb1).2 _ 1 zWa0).trans (fWa0 1)
    have zs : w.heap.size < w1.heap.size := Nat.lt_of_lt_of_le zWa0 hb1.size
    have BE := BWa.trans (hb1.mono BWa.size)
    clear hb1 BWa yWa0_0 yWa0_1 fWa0 zWa0 eWa K
    go_wp2_with fail
    refine bodyPost_ret (v := .tuple #[.agg #[.int .i64 0, .int .i64 0], .bool false]) (by simp [results, Try.results24, go_sem, q0, q1, zs]) rfl ⟨by rw [E.out, isel_f, isel_f], ?_⟩
    repeat (first | with_reducible assumption | with_reducible exact Below.refl _ _ | with_reducible apply Below.drew | ((with_reducible refine Below.setCell ?_ ?_ _); rotate_left; (first | exact Nat.le_refl _ | omega | (simp <;> omega))) | ((with_reducible refine Below.alloc ?_ ?_ _); rotate_left; (first | omega | (simp <;> omega))))
end Go.Proofs.Ytnkfeapdcjnnkaa
