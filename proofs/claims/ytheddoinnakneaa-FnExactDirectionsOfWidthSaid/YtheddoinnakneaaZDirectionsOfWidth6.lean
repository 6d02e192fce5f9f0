/- joined: U6 Wn1 Wn0 Tbq Rz Ch Ro Rp -/
import Derived.Test.YtheddoinnakneaaZDirectionsOfWidth5
import Derived.BigRegion
/- contracts: WidthIn, the program -/
namespace Go.Proofs.Ytheddoinnakneaa
open Go.ChangeShapes Go.WideShapes Go.ChangeAt Go.RowKit Go.Joins
set_option linter.unusedVariables false
set_option linter.unusedSimpArgs false
set_option maxRecDepth 4000
theorem isReduced_any (u v : Int) (w : World) (h1 : -20000 ≤ u) (h2 : u ≤ 20000) (h3 : -20000 ≤ v) (h4 : v ≤ 20000) :
    Calls Try.prog 112 #[.agg #[.int .i64 u, .int .i64 v]] w fun e w' => e = .returned (.bool (decide (Nat.gcd u.natAbs v.natAbs = 1))) ∧ Below w.heap.size w w' := by
  have KG := Lib.hid (fun W => greatestDivisor_any u v W (by omega) (by omega) (by omega) (by omega))
  obtain ⟨g, hgd⟩ : ∃ g, g = Nat.gcd u.natAbs v.natAbs := ⟨_, rfl⟩
  have hq : Hid (decide (Nat.gcd u.natAbs v.natAbs = 1) = ((g : Int) == 1)) := Lib.hid (by
        have hc : ((g : Int) == 1) = decide (g = 1) := by by_cases h : g = 1 <;> simp [h] <;> omega
        rw [hc]; subst hgd; simp only [decide_eq_decide])
  rw [← hgd] at KG
  clear hgd
  go_enter Try.func112, Try.ntmps112
  go_wp2_with fail
  obtain ⟨W0, hW0⟩ : ∃ W0, W0 = (w.alloc (.cells #[.int .i64 u, .int .i64 v] 66)) := ⟨_, rfl⟩
  rw [← hW0]
  have yW00_0 : W0.cell? ⟨w.heap.size, 0, none⟩ = some (.int .i64 u) := by rw [hW0]; go_simp
  have yW00_1 : W0.cell? ⟨w.heap.size, 1, none⟩ = some (.int .i64 v) := by rw [hW0]; go_simp
  have fW00 : ∀ o, W0.frozen? ⟨w.heap.size, o, none⟩ = false := by intro o; rw [hW0]; (repeat rw [frozen?_alloc_cells]); simp [World.frozen?]
  have zW00 : w.heap.size < W0.heap.size := by rw [hW0]; simp <;> omega
  have BW0 : Below w.heap.size w W0 := by rw [hW0]; exact (Below.alloc (Below.refl _ _) (by simp <;> omega) _)
  have eW0 : Hid (W0.heap.size = w.heap.size + 1) := Lib.hid (by rw [hW0]; simp)
  clear hW0
  refine (KG.out _).mono ?_; rintro e w1 ⟨rfl, hb1⟩
  go_wp2_with fail
  go_ret
  exact ⟨ret_bool (by rw [hq.out]), BW0.trans (hb1.mono BW0.size)⟩
theorem width_any (u v a b : Int) (w : World) (h1 : -1600000 ≤ a) (h2 : a ≤ 1600000) (h3 : -1600000 ≤ b) (h4 : b ≤ 1600000) :
    Calls Try.prog 57 #[.agg #[.int .i64 u, .int .i64 v, .int .i64 a, .int .i64 b]] w fun e w' => e = .returned (.int .i64 (b - a)) ∧ Below w.heap.size w w' := by
  have i1 : IntKind.i64.wrap (b - a) = b - a := IntWalk.i64_in _ (by omega)
  go_enter Try.func57, Try.ntmps57
  go_wp2_with fail
  go_ret
  exact ⟨rfl, (by repeat (first | exact Below.refl _ _ | assumption | apply Below.drew | refine Below.alloc ?_ (by simp <;> omega) _))⟩
noncomputable def spV (l : List (Int × Int)) (u v : Int) : Value := if okW l u v = true then .agg #[.int .i64 u, .int .i64 v, .int .i64 (loW l u v l.length), .int .i64 (hiW l u v l.length)] else .agg #[.int .i64 0, .int .i64 0, .int .i64 0, .int .i64 0]
theorem spV_t {l : List (Int × Int)} {u v : Int} (h : okW l u v = true) : spV l u v = .agg #[.int .i64 u, .int .i64 v, .int .i64 (loW l u v l.length), .int .i64 (hiW l u v l.length)] := by unfold spV; rw [if_pos h]
theorem spV_f {l : List (Int × Int)} {u v : Int} (h : okW l u v = false) : spV l u v = .agg #[.int .i64 0, .int .i64 0, .int .i64 0, .int .i64 0] := by unfold spV; rw [h]; rfl
theorem isOfSize_200 (n : Int) (w : World) : Calls Try.prog 111 #[.int .i64 n, .int .i64 200] w fun e w' => e = .returned (.bool (decide (-200 ≤ n) && decide (n ≤ 200))) ∧ w = w' := isOfSize_any n 200 w (by omega) (by omega)
set_option maxHeartbeats 4000000 in
theorem spanIn_any (A : Option Addr) (c : Nat) (l : List (Int × Int)) (u v : Int) (w : World) (hn : l.length ≤ 1048576) (hR : Rd w w.heap.size A l) :
    Calls Try.prog 70 #[.slice A l.length c, .int .i64 u, .int .i64 v] w fun e w' => e = .returned (.tuple #[spV l u v, .bool (okW l u v)]) ∧ Below w.heap.size w w' := by
  have K := Lib.hid (fun (W : World) (hb : Below w.heap.size w W) => implIsPolygon_any A c l W hn (rd_more (rd_below hR hb (Nat.le_refl _)) hb.size))
  have KU := Lib.hid (fun W => isOfSize_200 u W)
  have KV := Lib.hid (fun W => isOfSize_200 v W)
  by_cases hg : goodB l = true
  rotate_left
  · have hgf : goodB l = false := by simpa using hg
    have ho : okW l u v = false := by unfold okW; rw [hgf]; rfl
    rw [spV_f ho, ho]
    rw [hgf] at K
    clear hg hgf ho hR
    go_enter Try.func70, Try.ntmps70
    go_wp2_with fail
    obtain ⟨W0, hW0⟩ : ∃ W0, W0 = ((w.alloc (.cells #[.int .i64 0, .int .i64 0, .int .i64 0, .int .i64 0] 68)).alloc (.cells #[.int .i64 u, .int .i64 v] 66)) := ⟨_, rfl⟩
    rw [← hW0]
    have yW00_0 : W0.cell? ⟨w.heap.size, 0, none⟩ = some (.int .i64 0) := by rw [hW0]; go_simp
    have yW00_1 : W0.cell? ⟨w.heap.size, 1, none⟩ = some (.int .i64 0) := by rw [hW0]; go_simp
    have yW00_2 : W0.cell? ⟨w.heap.size, 2, none⟩ = some (.int .i64 0) := by rw [hW0]; go_simp
    have yW00_3 : W0.cell? ⟨w.heap.size, 3, none⟩ = some (.int .i64 0) := by rw [hW0]; go_simp
    have fW00 : ∀ o, W0.frozen? ⟨w.heap.size, o, none⟩ = false := by intro o; rw [hW0]; (repeat rw [frozen?_alloc_cells]); simp [World.frozen?]
    have zW00 : w.heap.size < W0.heap.size := by rw [hW0]; simp <;> omega
    have yW01_0 : W0.cell? ⟨w.heap.size + 1, 0, none⟩ = some (.int .i64 u) := by rw [hW0]; go_simp
    have yW01_1 : W0.cell? ⟨w.heap.size + 1, 1, none⟩ = some (.int .i64 v) := by rw [hW0]; go_simp
    have fW01 : ∀ o, W0.frozen? ⟨w.heap.size + 1, o, none⟩ = false := by intro o; rw [hW0]; (repeat rw [frozen?_alloc_cells]); simp [World.frozen?]
    have zW01 : w.heap.size + 1 < W0.heap.size := by rw [hW0]; simp <;> omega
    have BW0 : Below w.heap.size w W0 := by rw [hW0]; exact (Below.alloc (Below.alloc (Below.refl _ _) (by simp <;> omega) _) (by simp <;> omega) _)
    have eW0 : Hid (W0.heap.size = w.heap.size + 2) := Lib.hid (by rw [hW0]; simp)
    clear hW0
    refine (K.out _ BW0).mono ?_; rintro e w1 ⟨rfl, hb1⟩
    have B1 := BW0.trans (hb1.mono BW0.size)
    have r0 := (hb1.cell (p := ⟨w.heap.size, 0, none⟩) zW00).trans yW00_0
    have r1 := (hb1.cell (p := ⟨w.heap.size, 1, none⟩) zW00).trans yW00_1
    have r2 := (hb1.cell (p := ⟨w.heap.size, 2, none⟩) zW00).trans yW00_2
    have r3 := (hb1.cell (p := ⟨w.heap.size, 3, none⟩) zW00).trans yW00_3
    have q0 := (hb1.frozen (p := ⟨w.heap.size, 0, none⟩) zW00).trans (fW00 0)
    have q1 := (hb1.frozen (p := ⟨w.heap.size, 1, none⟩) zW00).trans (fW00 1)
    have q2 := (hb1.frozen (p := ⟨w.heap.size, 2, none⟩) zW00).trans (fW00 2)
    have q3 := (hb1.frozen (p := ⟨w.heap.size, 3, none⟩) zW00).trans (fW00 3)
    have d0 := (hb1.cell (p := ⟨w.heap.size + 1, 0, none⟩) zW01).trans yW01_0
    have d1 := (hb1.cell (p := ⟨w.heap.size + 1, 1, none⟩) zW01).trans yW01_1
    have v0 : w.heap.size < w1.heap.size := by have := hb1.size; omega
    have v1 : w.heap.size + 1 < w1.heap.size := by have := hb1.size; omega
    have zz := B1.size
    clear yW00_0 yW00_1 yW00_2 yW00_3 yW01_0 yW01_1 fW00 fW01 zW00 zW01 BW0 hb1 K
    go_wp2_with fail
    refine bodyPost_ret (v := .tuple #[.agg #[.int .i64 0, .int .i64 0, .int .i64 0, .int .i64 0], .bool false]) (by simp [results, Try.results70, go_sem, r0, r1, r2, r3, v0]) rfl ⟨rfl, ?_⟩
    repeat (first | with_reducible assumption | with_reducible exact Below.refl _ _ | with_reducible apply Below.drew | ((with_reducible refine Below.setCell ?_ ?_ _); rotate_left; (first | exact Nat.le_refl _ | omega | (simp <;> omega))) | ((with_reducible refine Below.alloc ?_ ?_ _); rotate_left; (first | omega | (simp <;> omega))))
  have hgg : Good l := by unfold goodB at hg; simpa using hg
  by_cases hu : (decide (-200 ≤ u) && decide (u ≤ 200)) = true
  rotate_left
  · have huf : (decide (-200 ≤ u) && decide (u ≤ 200)) = false := by simpa using hu
    have ho : okW l u v = false := by unfold okW dirB; rw [huf]; simp
    rw [spV_f ho, ho]
    rw [hg] at K
    rw [huf] at KU
    clear hg hgg hu huf ho hR
    go_enter Try.func70, Try.ntmps70
    go_wp2_with fail
    obtain ⟨W0, hW0⟩ : ∃ W0, W0 = ((w.alloc (.cells #[.int .i64 0, .int .i64 0, .int .i64 0, .int .i64 0] 68)).alloc (.cells #[.int .i64 u, .int .i64 v] 66)) := ⟨_, rfl⟩
    rw [← hW0]
    have yW00_0 : W0.cell? ⟨w.heap.size, 0, none⟩ = some (.int .i64 0) := by rw [hW0]; go_simp
    have yW00_1 : W0.cell? ⟨w.heap.size, 1, none⟩ = some (.int .i64 0) := by rw [hW0]; go_simp
    have yW00_2 : W0.cell? ⟨w.heap.size, 2, none⟩ = some (.int .i64 0) := by rw [hW0]; go_simp
    have yW00_3 : W0.cell? ⟨w.heap.size, 3, none⟩ = some (.int .i64 0) := by rw [hW0]; go_simp
    have fW00 : ∀ o, W0.frozen? ⟨w.heap.size, o, none⟩ = false := by intro o; rw [hW0]; (repeat rw [frozen?_alloc_cells]); simp [World.frozen?]
    have zW00 : w.heap.size < W0.heap.size := by rw [hW0]; simp <;> omega
    have yW01_0 : W0.cell? ⟨w.heap.size + 1, 0, none⟩ = some (.int .i64 u) := by rw [hW0]; go_simp
    have yW01_1 : W0.cell? ⟨w.heap.size + 1, 1, none⟩ = some (.int .i64 v) := by rw [hW0]; go_simp
    have fW01 : ∀ o, W0.frozen? ⟨w.heap.size + 1, o, none⟩ = false := by intro o; rw [hW0]; (repeat rw [frozen?_alloc_cells]); simp [World.frozen?]
    have zW01 : w.heap.size + 1 < W0.heap.size := by rw [hW0]; simp <;> omega
    have BW0 : Below w.heap.size w W0 := by rw [hW0]; exact (Below.alloc (Below.alloc (Below.refl _ _) (by simp <;> omega) _) (by simp <;> omega) _)
    have eW0 : Hid (W0.heap.size = w.heap.size + 2) := Lib.hid (by rw [hW0]; simp)
    clear hW0
    refine (K.out _ BW0).mono ?_; rintro e w1 ⟨rfl, hb1⟩
    have B1 := BW0.trans (hb1.mono BW0.size)
    have r0 := (hb1.cell (p := ⟨w.heap.size, 0, none⟩) zW00).trans yW00_0
    have r1 := (hb1.cell (p := ⟨w.heap.size, 1, none⟩) zW00).trans yW00_1
    have r2 := (hb1.cell (p := ⟨w.heap.size, 2, none⟩) zW00).trans yW00_2
    have r3 := (hb1.cell (p := ⟨w.heap.size, 3, none⟩) zW00).trans yW00_3
    have q0 := (hb1.frozen (p := ⟨w.heap.size, 0, none⟩) zW00).trans (fW00 0)
    have q1 := (hb1.frozen (p := ⟨w.heap.size, 1, none⟩) zW00).trans (fW00 1)
    have q2 := (hb1.frozen (p := ⟨w.heap.size, 2, none⟩) zW00).trans (fW00 2)
    have q3 := (hb1.frozen (p := ⟨w.heap.size, 3, none⟩) zW00).trans (fW00 3)
    have d0 := (hb1.cell (p := ⟨w.heap.size + 1, 0, none⟩) zW01).trans yW01_0
    have d1 := (hb1.cell (p := ⟨w.heap.size + 1, 1, none⟩) zW01).trans yW01_1
    have v0 : w.heap.size < w1.heap.size := by have := hb1.size; omega
    have v1 : w.heap.size + 1 < w1.heap.size := by have := hb1.size; omega
    have zz := B1.size
    clear yW00_0 yW00_1 yW00_2 yW00_3 yW01_0 yW01_1 fW00 fW01 zW00 zW01 BW0 hb1 K
    go_wp2_with fail
    refine (KU.out _).mono ?_; rintro e _ ⟨rfl, rfl⟩
    go_wp2_with fail
    refine bodyPost_ret (v := .tuple #[.agg #[.int .i64 0, .int .i64 0, .int .i64 0, .int .i64 0], .bool false]) (by simp [results, Try.results70, go_sem, r0, r1, r2, r3, v0]) rfl ⟨rfl, ?_⟩
    repeat (first | with_reducible assumption | with_reducible exact Below.refl _ _ | with_reducible apply Below.drew | ((with_reducible refine Below.setCell ?_ ?_ _); rotate_left; (first | exact Nat.le_refl _ | omega | (simp <;> omega))) | ((with_reducible refine Below.alloc ?_ ?_ _); rotate_left; (first | omega | (simp <;> omega))))
  by_cases hv : (decide (-200 ≤ v) && decide (v ≤ 200)) = true
  rotate_left
  · have hvf : (decide (-200 ≤ v) && decide (v ≤ 200)) = false := by simpa using hv
    have ho : okW l u v = false := by unfold okW dirB; rw [hvf]; simp
    rw [spV_f ho, ho]
    rw [hg] at K
    rw [hu] at KU
    rw [hvf] at KV
    clear hg hgg hu hv hvf ho hR
    go_enter Try.func70, Try.ntmps70
    go_wp2_with fail
    obtain ⟨W0, hW0⟩ : ∃ W0, W0 = ((w.alloc (.cells #[.int .i64 0, .int .i64 0, .int .i64 0, .int .i64 0] 68)).alloc (.cells #[.int .i64 u, .int .i64 v] 66)) := ⟨_, rfl⟩
    rw [← hW0]
    have yW00_0 : W0.cell? ⟨w.heap.size, 0, none⟩ = some (.int .i64 0) := by rw [hW0]; go_simp
    have yW00_1 : W0.cell? ⟨w.heap.size, 1, none⟩ = some (.int .i64 0) := by rw [hW0]; go_simp
    have yW00_2 : W0.cell? ⟨w.heap.size, 2, none⟩ = some (.int .i64 0) := by rw [hW0]; go_simp
    have yW00_3 : W0.cell? ⟨w.heap.size, 3, none⟩ = some (.int .i64 0) := by rw [hW0]; go_simp
    have fW00 : ∀ o, W0.frozen? ⟨w.heap.size, o, none⟩ = false := by intro o; rw [hW0]; (repeat rw [frozen?_alloc_cells]); simp [World.frozen?]
    have zW00 : w.heap.size < W0.heap.size := by rw [hW0]; simp <;> omega
    have yW01_0 : W0.cell? ⟨w.heap.size + 1, 0, none⟩ = some (.int .i64 u) := by rw [hW0]; go_simp
    have yW01_1 : W0.cell? ⟨w.heap.size + 1, 1, none⟩ = some (.int .i64 v) := by rw [hW0]; go_simp
    have fW01 : ∀ o, W0.frozen? ⟨w.heap.size + 1, o, none⟩ = false := by intro o; rw [hW0]; (repeat rw [frozen?_alloc_cells]); simp [World.frozen?]
    have zW01 : w.heap.size + 1 < W0.heap.size := by rw [hW0]; simp <;> omega
    have BW0 : Below w.heap.size w W0 := by rw [hW0]; exact (Below.alloc (Below.alloc (Below.refl _ _) (by simp <;> omega) _) (by simp <;> omega) _)
    have eW0 : Hid (W0.heap.size = w.heap.size + 2) := Lib.hid (by rw [hW0]; simp)
    clear hW0
    refine (K.out _ BW0).mono ?_; rintro e w1 ⟨rfl, hb1⟩
    have B1 := BW0.trans (hb1.mono BW0.size)
    have r0 := (hb1.cell (p := ⟨w.heap.size, 0, none⟩) zW00).trans yW00_0
    have r1 := (hb1.cell (p := ⟨w.heap.size, 1, none⟩) zW00).trans yW00_1
    have r2 := (hb1.cell (p := ⟨w.heap.size, 2, none⟩) zW00).trans yW00_2
    have r3 := (hb1.cell (p := ⟨w.heap.size, 3, none⟩) zW00).trans yW00_3
    have q0 := (hb1.frozen (p := ⟨w.heap.size, 0, none⟩) zW00).trans (fW00 0)
    have q1 := (hb1.frozen (p := ⟨w.heap.size, 1, none⟩) zW00).trans (fW00 1)
    have q2 := (hb1.frozen (p := ⟨w.heap.size, 2, none⟩) zW00).trans (fW00 2)
    have q3 := (hb1.frozen (p := ⟨w.heap.size, 3, none⟩) zW00).trans (fW00 3)
    have d0 := (hb1.cell (p := ⟨w.heap.size + 1, 0, none⟩) zW01).trans yW01_0
    have d1 := (hb1.cell (p := ⟨w.heap.size + 1, 1, none⟩) zW01).trans yW01_1
    have v0 : w.heap.size < w1.heap.size := by have := hb1.size; omega
    have v1 : w.heap.size + 1 < w1.heap.size := by have := hb1.size; omega
    have zz := B1.size
    clear yW00_0 yW00_1 yW00_2 yW00_3 yW01_0 yW01_1 fW00 fW01 zW00 zW01 BW0 hb1 K
    go_wp2_with fail
    refine (KU.out _).mono ?_; rintro e _ ⟨rfl, rfl⟩
    go_wp2_with fail
    refine (KV.out _).mono ?_; rintro e _ ⟨rfl, rfl⟩
    go_wp2_with fail
    refine bodyPost_ret (v := .tuple #[.agg #[.int .i64 0, .int .i64 0, .int .i64 0, .int .i64 0], .bool false]) (by simp [results, Try.results70, go_sem, r0, r1, r2, r3, v0]) rfl ⟨rfl, ?_⟩
    repeat (first | with_reducible assumption | with_reducible exact Below.refl _ _ | with_reducible apply Below.drew | ((with_reducible refine Below.setCell ?_ ?_ _); rotate_left; (first | exact Nat.le_refl _ | omega | (simp <;> omega))) | ((with_reducible refine Below.alloc ?_ ?_ _); rotate_left; (first | omega | (simp <;> omega))))
  have hu2 := hu
  have hv2 := hv
  simp only [Bool.and_eq_true, decide_eq_true_eq] at hu2 hv2
  have KR := Lib.hid (fun W => isReduced_any u v W (by omega) (by omega) (by omega) (by omega))
  by_cases hc : Nat.gcd u.natAbs v.natAbs = 1
  · have ho : okW l u v = true := by unfold okW dirB; rw [hg, hu, hv]; simp [hc]
    have KS := Lib.hid (fun W (hb : Below w.heap.size w W) => spanOf_any A c l u v W (by omega) (by omega) (by omega) (by omega) hgg (rd_more (rd_below hR hb (Nat.le_refl _)) hb.size))
    rw [spV_t ho, ho]
    rw [hg] at K
    rw [hu] at KU
    rw [hv] at KV
    rw [show decide (Nat.gcd u.natAbs v.natAbs = 1) = true by simp [hc]] at KR
    generalize loW l u v l.length = lo at *
    generalize hiW l u v l.length = hi at *
    clear hg hgg hu hv hu2 hv2 ho hR hc
    go_enter Try.func70, Try.ntmps70
    go_wp2_with fail
    obtain ⟨W0, hW0⟩ : ∃ W0, W0 = ((w.alloc (.cells #[.int .i64 0, .int .i64 0, .int .i64 0, .int .i64 0] 68)).alloc (.cells #[.int .i64 u, .int .i64 v] 66)) := ⟨_, rfl⟩
    rw [← hW0]
    have yW00_0 : W0.cell? ⟨w.heap.size, 0, none⟩ = some (.int .i64 0) := by rw [hW0]; go_simp
    have yW00_1 : W0.cell? ⟨w.heap.size, 1, none⟩ = some (.int .i64 0) := by rw [hW0]; go_simp
    have yW00_2 : W0.cell? ⟨w.heap.size, 2, none⟩ = some (.int .i64 0) := by rw [hW0]; go_simp
    have yW00_3 : W0.cell? ⟨w.heap.size, 3, none⟩ = some (.int .i64 0) := by rw [hW0]; go_simp
    have fW00 : ∀ o, W0.frozen? ⟨w.heap.size, o, none⟩ = false := by intro o; rw [hW0]; (repeat rw [frozen?_alloc_cells]); simp [World.frozen?]
    have zW00 : w.heap.size < W0.heap.size := by rw [hW0]; simp <;> omega
    have yW01_0 : W0.cell? ⟨w.heap.size + 1, 0, none⟩ = some (.int .i64 u) := by rw [hW0]; go_simp
    have yW01_1 : W0.cell? ⟨w.heap.size + 1, 1, none⟩ = some (.int .i64 v) := by rw [hW0]; go_simp
    have fW01 : ∀ o, W0.frozen? ⟨w.heap.size + 1, o, none⟩ = false := by intro o; rw [hW0]; (repeat rw [frozen?_alloc_cells]); simp [World.frozen?]
    have zW01 : w.heap.size + 1 < W0.heap.size := by rw [hW0]; simp <;> omega
    have BW0 : Below w.heap.size w W0 := by rw [hW0]; exact (Below.alloc (Below.alloc (Below.refl _ _) (by simp <;> omega) _) (by simp <;> omega) _)
    have eW0 : Hid (W0.heap.size = w.heap.size + 2) := Lib.hid (by rw [hW0]; simp)
    clear hW0
    refine (K.out _ BW0).mono ?_; rintro e w1 ⟨rfl, hb1⟩
    have B1 := BW0.trans (hb1.mono BW0.size)
    have r0 := (hb1.cell (p := ⟨w.heap.size, 0, none⟩) zW00).trans yW00_0
    have r1 := (hb1.cell (p := ⟨w.heap.size, 1, none⟩) zW00).trans yW00_1
    have r2 := (hb1.cell (p := ⟨w.heap.size, 2, none⟩) zW00).trans yW00_2
    have r3 := (hb1.cell (p := ⟨w.heap.size, 3, none⟩) zW00).trans yW00_3
    have q0 := (hb1.frozen (p := ⟨w.heap.size, 0, none⟩) zW00).trans (fW00 0)
    have q1 := (hb1.frozen (p := ⟨w.heap.size, 1, none⟩) zW00).trans (fW00 1)
    have q2 := (hb1.frozen (p := ⟨w.heap.size, 2, none⟩) zW00).trans (fW00 2)
    have q3 := (hb1.frozen (p := ⟨w.heap.size, 3, none⟩) zW00).trans (fW00 3)
    have d0 := (hb1.cell (p := ⟨w.heap.size + 1, 0, none⟩) zW01).trans yW01_0
    have d1 := (hb1.cell (p := ⟨w.heap.size + 1, 1, none⟩) zW01).trans yW01_1
    have v0 : w.heap.size < w1.heap.size := by have := hb1.size; omega
    have v1 : w.heap.size + 1 < w1.heap.size := by have := hb1.size; omega
    have zz := B1.size
    clear yW00_0 yW00_1 yW00_2 yW00_3 yW01_0 yW01_1 fW00 fW01 zW00 zW01 BW0 hb1 K
    go_wp2_with fail
    refine (KU.out _).mono ?_; rintro e _ ⟨rfl, rfl⟩
    go_wp2_with fail
    refine (KV.out _).mono ?_; rintro e _ ⟨rfl, rfl⟩
    go_wp2_with fail
    refine (KR.out _).mono ?_; rintro e w2 ⟨rfl, hb2⟩
    have r0 := (hb2.cell (p := ⟨w.heap.size, 0, none⟩) v0).trans r0
    have r1 := (hb2.cell (p := ⟨w.heap.size, 1, none⟩) v0).trans r1
    have r2 := (hb2.cell (p := ⟨w.heap.size, 2, none⟩) v0).trans r2
    have r3 := (hb2.cell (p := ⟨w.heap.size, 3, none⟩) v0).trans r3
    have q0 := (hb2.frozen (p := ⟨w.heap.size, 0, none⟩) v0).trans q0
    have q1 := (hb2.frozen (p := ⟨w.heap.size, 1, none⟩) v0).trans q1
    have q2 := (hb2.frozen (p := ⟨w.heap.size, 2, none⟩) v0).trans q2
    have q3 := (hb2.frozen (p := ⟨w.heap.size, 3, none⟩) v0).trans q3
    have d0 := (hb2.cell (p := ⟨w.heap.size + 1, 0, none⟩) v1).trans d0
    have d1 := (hb2.cell (p := ⟨w.heap.size + 1, 1, none⟩) v1).trans d1
    have v1 : w.heap.size + 1 < w2.heap.size := by have := hb2.size; omega
    have v0 : w.heap.size < w2.heap.size := by have := hb2.size; omega
    have B2 := B1.trans (hb2.mono B1.size)
    have zz := B2.size
    clear hb2
    go_wp2_with fail
    refine (KS.out _ B2).mono ?_; rintro e w3 ⟨rfl, hb2⟩
    have r0 := (hb2.cell (p := ⟨w.heap.size, 0, none⟩) v0).trans r0
    have r1 := (hb2.cell (p := ⟨w.heap.size, 1, none⟩) v0).trans r1
    have r2 := (hb2.cell (p := ⟨w.heap.size, 2, none⟩) v0).trans r2
    have r3 := (hb2.cell (p := ⟨w.heap.size, 3, none⟩) v0).trans r3
    have q0 := (hb2.frozen (p := ⟨w.heap.size, 0, none⟩) v0).trans q0
    have q1 := (hb2.frozen (p := ⟨w.heap.size, 1, none⟩) v0).trans q1
    have q2 := (hb2.frozen (p := ⟨w.heap.size, 2, none⟩) v0).trans q2
    have q3 := (hb2.frozen (p := ⟨w.heap.size, 3, none⟩) v0).trans q3
    have d0 := (hb2.cell (p := ⟨w.heap.size + 1, 0, none⟩) v1).trans d0
    have d1 := (hb2.cell (p := ⟨w.heap.size + 1, 1, none⟩) v1).trans d1
    have v1 : w.heap.size + 1 < w3.heap.size := by have := hb2.size; omega
    have v0 : w.heap.size < w3.heap.size := by have := hb2.size; omega
    have B3 := B2.trans (hb2.mono B2.size)
    have zz := B3.size
    clear hb2
    go_wp2_with fail
    refine bodyPost_ret (v := .tuple #[.agg #[.int .i64 u, .int .i64 v, .int .i64 lo, .int .i64 hi], .bool true]) (by simp [results, Try.results70, go_sem, r0, r1, r2, r3, v0]) rfl ⟨rfl, ?_⟩
    repeat (first | with_reducible assumption | with_reducible exact Below.refl _ _ | with_reducible apply Below.drew | ((with_reducible refine Below.setCell ?_ ?_ _); rotate_left; (first | exact Nat.le_refl _ | omega | (simp <;> omega))) | ((with_reducible refine Below.alloc ?_ ?_ _); rotate_left; (first | omega | (simp <;> omega))))
  · have ho : okW l u v = false := by unfold okW dirB; simp [hc]
    rw [spV_f ho, ho]
    rw [hg] at K
    rw [hu] at KU
    rw [hv] at KV
    rw [show decide (Nat.gcd u.natAbs v.natAbs = 1) = false by simp [hc]] at KR
    clear hg hgg hu hv hu2 hv2 ho hR hc
    go_enter Try.func70, Try.ntmps70
    go_wp2_with fail
    obtain ⟨W0, hW0⟩ : ∃ W0, W0 = ((w.alloc (.cells #[.int .i64 0, .int .i64 0, .int .i64 0, .int .i64 0] 68)).alloc (.cells #[.int .i64 u, .int .i64 v] 66)) := ⟨_, rfl⟩
    rw [← hW0]
    have yW00_0 : W0.cell? ⟨w.heap.size, 0, none⟩ = some (.int .i64 0) := by rw [hW0]; go_simp
    have yW00_1 : W0.cell? ⟨w.heap.size, 1, none⟩ = some (.int .i64 0) := by rw [hW0]; go_simp
    have yW00_2 : W0.cell? ⟨w.heap.size, 2, none⟩ = some (.int .i64 0) := by rw [hW0]; go_simp
    have yW00_3 : W0.cell? ⟨w.heap.size, 3, none⟩ = some (.int .i64 0) := by rw [hW0]; go_simp
    have fW00 : ∀ o, W0.frozen? ⟨w.heap.size, o, none⟩ = false := by intro o; rw [hW0]; (repeat rw [frozen?_alloc_cells]); simp [World.frozen?]
    have zW00 : w.heap.size < W0.heap.size := by rw [hW0]; simp <;> omega
    have yW01_0 : W0.cell? ⟨w.heap.size + 1, 0, none⟩ = some (.int .i64 u) := by rw [hW0]; go_simp
    have yW01_1 : W0.cell? ⟨w.heap.size + 1, 1, none⟩ = some (.int .i64 v) := by rw [hW0]; go_simp
    have fW01 : ∀ o, W0.frozen? ⟨w.heap.size + 1, o, none⟩ = false := by intro o; rw [hW0]; (repeat rw [frozen?_alloc_cells]); simp [World.frozen?]
    have zW01 : w.heap.size + 1 < W0.heap.size := by rw [hW0]; simp <;> omega
    have BW0 : Below w.heap.size w W0 := by rw [hW0]; exact (Below.alloc (Below.alloc (Below.refl _ _) (by simp <;> omega) _) (by simp <;> omega) _)
    have eW0 : Hid (W0.heap.size = w.heap.size + 2) := Lib.hid (by rw [hW0]; simp)
    clear hW0
    refine (K.out _ BW0).mono ?_; rintro e w1 ⟨rfl, hb1⟩
    have B1 := BW0.trans (hb1.mono BW0.size)
    have r0 := (hb1.cell (p := ⟨w.heap.size, 0, none⟩) zW00).trans yW00_0
    have r1 := (hb1.cell (p := ⟨w.heap.size, 1, none⟩) zW00).trans yW00_1
    have r2 := (hb1.cell (p := ⟨w.heap.size, 2, none⟩) zW00).trans yW00_2
    have r3 := (hb1.cell (p := ⟨w.heap.size, 3, none⟩) zW00).trans yW00_3
    have q0 := (hb1.frozen (p := ⟨w.heap.size, 0, none⟩) zW00).trans (fW00 0)
    have q1 := (hb1.frozen (p := ⟨w.heap.size, 1, none⟩) zW00).trans (fW00 1)
    have q2 := (hb1.frozen (p := ⟨w.heap.size, 2, none⟩) zW00).trans (fW00 2)
    have q3 := (hb1.frozen (p := ⟨w.heap.size, 3, none⟩) zW00).trans (fW00 3)
    have d0 := (hb1.cell (p := ⟨w.heap.size + 1, 0, none⟩) zW01).trans yW01_0
    have d1 := (hb1.cell (p := ⟨w.heap.size + 1, 1, none⟩) zW01).trans yW01_1
    have v0 : w.heap.size < w1.heap.size := by have := hb1.size; omega
    have v1 : w.heap.size + 1 < w1.heap.size := by have := hb1.size; omega
    have zz := B1.size
    clear yW00_0 yW00_1 yW00_2 yW00_3 yW01_0 yW01_1 fW00 fW01 zW00 zW01 BW0 hb1 K
    go_wp2_with fail
    refine (KU.out _).mono ?_; rintro e _ ⟨rfl, rfl⟩
    go_wp2_with fail
    refine (KV.out _).mono ?_; rintro e _ ⟨rfl, rfl⟩
    go_wp2_with fail
    refine (KR.out _).mono ?_; rintro e w2 ⟨rfl, hb2⟩
    have r0 := (hb2.cell (p := ⟨w.heap.size, 0, none⟩) v0).trans r0
    have r1 := (hb2.cell (p := ⟨w.heap.size, 1, none⟩) v0).trans r1
    have r2 := (hb2.cell (p := ⟨w.heap.size, 2, none⟩) v0).trans r2
    have r3 := (hb2.cell (p := ⟨w.heap.size, 3, none⟩) v0).trans r3
    have q0 := (hb2.frozen (p := ⟨w.heap.size, 0, none⟩) v0).trans q0
    have q1 := (hb2.frozen (p := ⟨w.heap.size, 1, none⟩) v0).trans q1
    have q2 := (hb2.frozen (p := ⟨w.heap.size, 2, none⟩) v0).trans q2
    have q3 := (hb2.frozen (p := ⟨w.heap.size, 3, none⟩) v0).trans q3
    have d0 := (hb2.cell (p := ⟨w.heap.size + 1, 0, none⟩) v1).trans d0
    have d1 := (hb2.cell (p := ⟨w.heap.size + 1, 1, none⟩) v1).trans d1
    have v1 : w.heap.size + 1 < w2.heap.size := by have := hb2.size; omega
    have v0 : w.heap.size < w2.heap.size := by have := hb2.size; omega
    have B2 := B1.trans (hb2.mono B1.size)
    have zz := B2.size
    clear hb2
    go_wp2_with fail
    refine bodyPost_ret (v := .tuple #[.agg #[.int .i64 0, .int .i64 0, .int .i64 0, .int .i64 0], .bool false]) (by simp [results, Try.results70, go_sem, r0, r1, r2, r3, v0]) rfl ⟨rfl, ?_⟩
    repeat (first | with_reducible assumption | with_reducible exact Below.refl _ _ | with_reducible apply Below.drew | ((with_reducible refine Below.setCell ?_ ?_ _); rotate_left; (first | exact Nat.le_refl _ | omega | (simp <;> omega))) | ((with_reducible refine Below.alloc ?_ ?_ _); rotate_left; (first | omega | (simp <;> omega))))
theorem implWidthIn_any (A : Option Addr) (c : Nat) (l : List (Int × Int)) (u v : Int) (w : World) (hn : l.length ≤ 1048576) (hR : Rd w w.heap.size A l) :
    Calls Try.prog 51 #[.slice A l.length c, .int .i64 u, .int .i64 v] w fun e w' => e = .returned (.tuple #[.int .i64 (wdS l u v), .bool (okW l u v)]) ∧ Below w.heap.size w w' := by
  have K := Lib.hid (spanIn_any A c l u v w hn hR)
  have hx : ∃ a b x y : Int, spV l u v = .agg #[.int .i64 x, .int .i64 y, .int .i64 a, .int .i64 b] ∧ wdS l u v = b - a ∧ -1600000 ≤ a ∧ a ≤ 1600000 ∧ -1600000 ≤ b ∧ b ≤ 1600000 := by
    by_cases hk : okW l u v = true
    · have hk2 : goodB l = true ∧ dirB u v = true := by unfold okW at hk; simpa using hk
      obtain ⟨a1, a2, a3, a4, _⟩ := dirB_t hk2.2
      have hg : Good l := by unfold goodB at hk2; simpa using hk2.1
      have hb := lohi_bd (u := u) (v := v) (by omega) (by omega) (by omega) (by omega) hg.pegs (by have := hg.few; omega) l.length (Nat.le_refl _)
      exact ⟨_, _, _, _, spV_t hk, wdS_t hk, hb.1.1, hb.1.2, hb.2.1.1, hb.2.1.2⟩
    · have hkf : okW l u v = false := by simpa using hk
      exact ⟨0, 0, 0, 0, spV_f hkf, by rw [wdS_f hkf]; rfl, by omega, by omega, by omega, by omega⟩
  obtain ⟨a, b, x, y, e1, e2, a1, a2, b1, b2⟩ := hx
  rw [e1] at K
  rw [e2]
  have KW := Lib.hid (fun W => width_any x y a b W a1 a2 b1 b2)
  generalize okW l u v = ok at *
  clear e1 e2 a1 a2 b1 b2 hR
  go_enter Try.func51, Try.ntmps51
  go_wp2_with fail
  refine K.out.mono ?_; rintro e w1 ⟨rfl, hb1⟩
  go_wp2_with fail
  obtain ⟨W2, hW2⟩ : ∃ W2, W2 = (w1.alloc (.cells #[.int .i64 x, .int .i64 y, .int .i64 a, .int .i64 b] 68)) := ⟨_, rfl⟩
  rw [← hW2]
  have yW20_0 : W2.cell? ⟨w1.heap.size, 0, none⟩ = some (.int .i64 x) := by rw [hW2]; go_simp
  have yW20_1 : W2.cell? ⟨w1.heap.size, 1, none⟩ = some (.int .i64 y) := by rw [hW2]; go_simp
  have yW20_2 : W2.cell? ⟨w1.heap.size, 2, none⟩ = some (.int .i64 a) := by rw [hW2]; go_simp
  have yW20_3 : W2.cell? ⟨w1.heap.size, 3, none⟩ = some (.int .i64 b) := by rw [hW2]; go_simp
  have fW20 : ∀ o, W2.frozen? ⟨w1.heap.size, o, none⟩ = false := by intro o; rw [hW2]; (repeat rw [frozen?_alloc_cells]); simp [World.frozen?]
  have zW20 : w1.heap.size < W2.heap.size := by rw [hW2]; simp <;> omega
  have BW2 : Below w1.heap.size w1 W2 := by rw [hW2]; exact (Below.alloc (Below.refl _ _) (by simp <;> omega) _)
  have eW2 : Hid (W2.heap.size = w1.heap.size + 1) := Lib.hid (by rw [hW2]; simp)
  clear hW2
  have B2 := hb1.trans (BW2.mono hb1.size)
  refine (KW.out _).mono ?_; rintro e w3 ⟨rfl, hb3⟩
  go_wp2_with fail
  go_ret2
  exact ⟨rfl, B2.trans (hb3.mono B2.size)⟩
end Go.Proofs.Ytheddoinnakneaa
/- contract: whether a direction is told, the program -/
namespace Go.Proofs.Ytheddoinnakneaa
open Go.ChangeShapes Go.WideShapes Go.ChangeAt Go.RowKit Go.Joins
set_option linter.unusedVariables false
set_option linter.unusedSimpArgs false
set_option maxRecDepth 4000
theorem isTold_any (u v : Int) (w : World) (h1 : -20000 ≤ u) (h2 : u ≤ 20000) (h3 : -20000 ≤ v) (h4 : v ≤ 20000) :
    Calls Try.prog 95 #[.agg #[.int .i64 u, .int .i64 v]] w fun e w' => e = .returned (.bool (toldB u v)) ∧ Below w.heap.size w w' := by
  have KG := Lib.hid (fun W => isReduced_any u v W h1 h2 h3 h4)
  have hT : toldB u v = ((decide (0 < u) || (decide (u = 0) && decide (v = 1))) && decide (Nat.gcd u.natAbs v.natAbs = 1)) := rfl
  rw [hT]
  generalize decide (Nat.gcd u.natAbs v.natAbs = 1) = g at *
  clear hT h1 h2 h3 h4
  cases g
  · rw [Bool.and_false]
    go_enter Try.func95, Try.ntmps95
    go_wp2_with fail
    obtain ⟨W0, hW0⟩ : ∃ W0, W0 = (w.alloc (.cells #[.int .i64 u, .int .i64 v] 66)) := ⟨_, rfl⟩
    rw [← hW0]
    have yW00_0 : W0.cell? ⟨w.heap.size, 0, none⟩ = some (.int .i64 u) := by rw [hW0]; go_simp
    have yW00_1 : W0.cell? ⟨w.heap.size, 1, none⟩ = some (.int .i64 v) := by rw [hW0]; go_simp
    have fW00 : ∀ o, W0.frozen? ⟨w.heap.size, o, none⟩ = false := by intro o; rw [hW0]; (repeat rw [frozen?_alloc_cells]); simp [World.frozen?]
    have zW00 : w.heap.size < W0.heap.size := by rw [hW0]; simp <;> omega
    have BW0 : Below w.heap.size w W0 := by rw [hW0]; exact (Below.alloc (Below.refl _ _) (by simp <;> omega) _)
    have eW0 : Hid (W0.heap.size = w.heap.size + 1) := Lib.hid (by rw [hW0]; simp)
    clear hW0
    refine (KG.out _).mono ?_; rintro e w1 ⟨rfl, hb1⟩
    go_wp2_with fail
    go_ret
    exact ⟨rfl, BW0.trans (hb1.mono BW0.size)⟩
  · rw [Bool.and_true]
    rcases (show 0 < u ∨ u < 0 ∨ u = 0 by omega) with hu | hu | rfl
    · rw [decide_eq_true hu, Bool.true_or]
      go_enter Try.func95, Try.ntmps95
      go_wp2_with fail
      obtain ⟨W0, hW0⟩ : ∃ W0, W0 = (w.alloc (.cells #[.int .i64 u, .int .i64 v] 66)) := ⟨_, rfl⟩
      rw [← hW0]
      have yW00_0 : W0.cell? ⟨w.heap.size, 0, none⟩ = some (.int .i64 u) := by rw [hW0]; go_simp
      have yW00_1 : W0.cell? ⟨w.heap.size, 1, none⟩ = some (.int .i64 v) := by rw [hW0]; go_simp
      have fW00 : ∀ o, W0.frozen? ⟨w.heap.size, o, none⟩ = false := by intro o; rw [hW0]; (repeat rw [frozen?_alloc_cells]); simp [World.frozen?]
      have zW00 : w.heap.size < W0.heap.size := by rw [hW0]; simp <;> omega
      have BW0 : Below w.heap.size w W0 := by rw [hW0]; exact (Below.alloc (Below.refl _ _) (by simp <;> omega) _)
      have eW0 : Hid (W0.heap.size = w.heap.size + 1) := Lib.hid (by rw [hW0]; simp)
      clear hW0
      refine (KG.out _).mono ?_; rintro e w1 ⟨rfl, hb1⟩
      have q0 := ((bcell hb1).1 _ 0 zW00).trans yW00_0
      have q1 := ((bcell hb1).1 _ 1 zW00).trans yW00_1
      go_wp2_with fail
      go_ret
      exact ⟨rfl, BW0.trans (hb1.mono BW0.size)⟩
    · have hu1 : ¬ 0 < u := by omega
      have hu2 : ¬ u = 0 := by omega
      rw [decide_eq_false hu1, decide_eq_false hu2, Bool.false_and, Bool.false_or]
      clear hu
      go_enter Try.func95, Try.ntmps95
      go_wp2_with fail
      obtain ⟨W0, hW0⟩ : ∃ W0, W0 = (w.alloc (.cells #[.int .i64 u, .int .i64 v] 66)) := ⟨_, rfl⟩
      rw [← hW0]
      have yW00_0 : W0.cell? ⟨w.heap.size, 0, none⟩ = some (.int .i64 u) := by rw [hW0]; go_simp
      have yW00_1 : W0.cell? ⟨w.heap.size, 1, none⟩ = some (.int .i64 v) := by rw [hW0]; go_simp
      have fW00 : ∀ o, W0.frozen? ⟨w.heap.size, o, none⟩ = false := by intro o; rw [hW0]; (repeat rw [frozen?_alloc_cells]); simp [World.frozen?]
      have zW00 : w.heap.size < W0.heap.size := by rw [hW0]; simp <;> omega
      have BW0 : Below w.heap.size w W0 := by rw [hW0]; exact (Below.alloc (Below.refl _ _) (by simp <;> omega) _)
      have eW0 : Hid (W0.heap.size = w.heap.size + 1) := Lib.hid (by rw [hW0]; simp)
      clear hW0
      refine (KG.out _).mono ?_; rintro e w1 ⟨rfl, hb1⟩
      have q0 := ((bcell hb1).1 _ 0 zW00).trans yW00_0
      have q1 := ((bcell hb1).1 _ 1 zW00).trans yW00_1
      go_wp2_with fail
      go_ret
      exact ⟨by first | rfl | exact ret_bool (decide_eq_false (by omega)), BW0.trans (hb1.mono BW0.size)⟩
    · rw [decide_eq_false (show ¬ (0 : Int) < 0 by omega), decide_eq_true (show (0 : Int) = 0 from rfl), Bool.true_and, Bool.false_or]
      go_enter Try.func95, Try.ntmps95
      go_wp2_with fail
      obtain ⟨W0, hW0⟩ : ∃ W0, W0 = (w.alloc (.cells #[.int .i64 0, .int .i64 v] 66)) := ⟨_, rfl⟩
      rw [← hW0]
      have yW00_0 : W0.cell? ⟨w.heap.size, 0, none⟩ = some (.int .i64 0) := by rw [hW0]; go_simp
      have yW00_1 : W0.cell? ⟨w.heap.size, 1, none⟩ = some (.int .i64 v) := by rw [hW0]; go_simp
      have fW00 : ∀ o, W0.frozen? ⟨w.heap.size, o, none⟩ = false := by intro o; rw [hW0]; (repeat rw [frozen?_alloc_cells]); simp [World.frozen?]
      have zW00 : w.heap.size < W0.heap.size := by rw [hW0]; simp <;> omega
      have BW0 : Below w.heap.size w W0 := by rw [hW0]; exact (Below.alloc (Below.refl _ _) (by simp <;> omega) _)
      have eW0 : Hid (W0.heap.size = w.heap.size + 1) := Lib.hid (by rw [hW0]; simp)
      clear hW0
      refine (KG.out _).mono ?_; rintro e w1 ⟨rfl, hb1⟩
      have q0 := ((bcell hb1).1 _ 0 zW00).trans yW00_0
      have q1 := ((bcell hb1).1 _ 1 zW00).trans yW00_1
      go_wp2_with fail
      go_ret
      exact ⟨by first | rfl | simp, BW0.trans (hb1.mono BW0.size)⟩
end Go.Proofs.Ytheddoinnakneaa
/- boxes of two numbers that a region made somewhere -/
namespace Go.Proofs.Ytheddoinnakneaa
open Go.ChangeShapes Go.WideShapes Go.ChangeAt Go.RowKit Go.Joins
set_option linter.unusedVariables false
set_option linter.unusedSimpArgs false
set_option maxRecDepth 4000
theorem bx2_heap {W : World} {g : Nat} {u v : Int} {T : TypeId} (h : W.heap[g]? = some (.cells #[.int .i64 u, .int .i64 v] T)) : Bx2 W g u v := by
  have hz : g < W.heap.size := by
    rcases Nat.lt_or_ge g W.heap.size with h1 | h1
    · exact h1
    · rw [Array.getElem?_eq_none h1] at h; cases h
  refine ⟨hz, ?_, ?_, fun o => ?_⟩
  · unfold World.cell?; simp [h]
  · unfold World.cell?; simp [h]
  · unfold World.frozen?; simp [h]
theorem bx2_other {W : World} {g : Nat} {u v : Int} (h : Bx2 W g u v) (a : Addr) (x : Value) (ha : a.block ≠ g) : Bx2 (W.setCell a x) g u v := by
  have hc : ∀ o, (W.setCell a x).cell? ⟨g, o, none⟩ = W.cell? ⟨g, o, none⟩ := fun o => World.cell?_setCell_other _ _ _ _ (fun e => ha (by rw [e]))
  exact ⟨by simpa [World.setCell] using h.z, (hc 0).trans h.c0, (hc 1).trans h.c1, fun o => by rw [World.frozen?_setCell]; exact h.fz o⟩
theorem below_set2b {b : Nat} {w W : World} (h : Below b w W) (g : Nat) (hg : b ≤ g) (x y : Value) : Below b w ((W.setCell ⟨g, 0, none⟩ x).setCell ⟨g, 1, none⟩ y) :=
  Below.setCell (Below.setCell h (by simpa using hg) _) (by simpa using hg) _
theorem alB_below {W0 W1 W : World} {obj : Obj} (k1 : Below W0.heap.size W0 W1) (k2 : Below (W1.alloc obj).heap.size (W1.alloc obj) W) : Below W0.heap.size W0 W ∧ W0.heap.size ≤ W1.heap.size ∧ W1.heap.size < W.heap.size := by
  have h1 := k1.size
  have hA := Below.alloc k1 h1 obj
  refine ⟨hA.trans (k2.mono hA.size), h1, ?_⟩
  have := k2.size
  simp only [World.size_alloc] at this
  omega
end Go.Proofs.Ytheddoinnakneaa
/- contracts: points added, and taken several times -/
namespace Go.Proofs.Ytheddoinnakneaa
open Go.ChangeShapes Go.WideShapes Go.ChangeAt Go.RowKit Go.Joins
set_option linter.unusedVariables false
set_option linter.unusedSimpArgs false
set_option maxRecDepth 4000
theorem times_any (a1 a2 n : Int) (w : World) (h1 : -1000000000000000 ≤ a1 * n ∧ a1 * n ≤ 1000000000000000) (h2 : -1000000000000000 ≤ a2 * n ∧ a2 * n ≤ 1000000000000000) :
    Calls Try.prog 128 #[.agg #[.int .i64 a1, .int .i64 a2], .int .i64 n] w fun e w' => e = .returned (.agg #[.int .i64 (a1 * n), .int .i64 (a2 * n)]) ∧ Below w.heap.size w w' := by
  obtain ⟨x1, x2⟩ := h1
  obtain ⟨x3, x4⟩ := h2
  go_enter Try.func128, Try.ntmps128
  go_wp2
  refine bodyPost_ret (v := .agg #[.int .i64 (a1 * n), .int .i64 (a2 * n)]) (by simp [results, Try.results128, go_sem]) rfl ⟨rfl, ?_⟩
  repeat (first | with_reducible assumption | with_reducible exact Below.refl _ _ | with_reducible apply Below.drew | ((with_reducible refine Below.setCell ?_ ?_ _); rotate_left; (first | exact Nat.le_refl _ | omega | (simp <;> omega))) | ((with_reducible refine Below.alloc ?_ ?_ _); rotate_left; (first | omega | (simp <;> omega))))
end Go.Proofs.Ytheddoinnakneaa
/- A statement that leaves its order open and in which one operation writes what no other one reads: one walk through it, in the order of the text. -/
namespace Go.Proofs.Ytheddoinnakneaa
open Go.ChangeShapes Go.WideShapes Go.ChangeAt Go.RowKit Go.Joins
set_option linter.unusedVariables false
set_option linter.unusedSimpArgs false
set_option maxRecDepth 4000
section
variable {P : Program} {ops : Array Oper} {Q : Exit → Act → World → Prop} {md : Region.Mode} {S : Array Bool → World → Prop}
def SteadyL (P : Program) (ops : Array Oper) (S : Array Bool → World → Prop) (i : Nat) (o : Oper) (v : Value) (a : Act) : Prop :=
  (Region.wanted o (yielded ops a.tmps) = true ∧ ∀ L w, L.getD i true = false → S L w → Comes P (S (L.setIfInBounds i true)) v ((execOp a.eval o).run P w)) ∨
  (Region.wanted o (yielded ops a.tmps) = false ∧ v = undef ∧ ∀ L w, S L w → S (L.setIfInBounds i true) w)
theorem steadyL_same {i : Nat} {o : Oper} {v : Value} {a a' : Act} (hy : SteadyL P ops S i o v a) (he : execOp a'.eval o = execOp a.eval o)
    (hw : Region.wanted o (yielded ops a'.tmps) = Region.wanted o (yielded ops a.tmps)) : SteadyL P ops S i o v a' := by
  unfold SteadyL at *; rw [he, hw]; exact hy
theorem steadyL_op {i : Nat} {o : Oper} {v : Value} {a : Act} (hi : ops[i]? = some o) (hy : SteadyL P ops S i o v a) {K : Act → World → Prop} {w : World} {L : Array Bool} (hl : L.getD i true = false) (hS : S L w)
    (h : ∀ w', S (L.setIfInBounds i true) w' → K (a.put o.dst v) w') : wpOp P ops Q i K a w := by
  unfold wpOp
  simp only [hi]
  rcases hy with ⟨hw, hv⟩ | ⟨hw, rfl, hk⟩
  · simp only [hw, if_true]
    left
    have hc := hv L w hl hS
    unfold Oper.wp
    generalize (execOp a.eval o).run P w = r at *
    cases r with
    | ok n w' =>
      cases n with
      | value u => obtain ⟨rfl, h'⟩ := hc; exact h _ h'
      | skip => obtain ⟨rfl, h'⟩ := hc; exact h _ h'
      | enter f args => exact Calls.mono hc fun e w'' he => by obtain ⟨rfl, hs⟩ := he; exact h _ hs
      | _ => exact hc.elim
    | halt x w' => exact hc.elim
  · simp only [hw, Bool.false_eq_true, if_false]
    exact h _ (hk L w hS)
def wpL (P : Program) (md : Region.Mode) (ops : Array Oper) (Q : Exit → Act → World → Prop) (S : Array Bool → World → Prop) : Nat → Array Bool → Act → Prop
  | 0, listed, a => Region.ready md ops listed = [] ∧ ∀ w, S listed w → Q .normal a w
  | fuel + 1, listed, a => (Region.ready md ops listed = [] → ∀ w, S listed w → Q .normal a w) ∧
    ∀ i ∈ Region.ready md ops listed, ∃ oi v, ops[i]? = some oi ∧ SteadyL P ops S i oi v a ∧ wpL P md ops Q S fuel (listed.setIfInBounds i true) (a.put oi.dst v)
theorem wpAny_of_L : ∀ (fuel : Nat) (listed : Array Bool) (a : Act), wpL P md ops Q S fuel listed a → ∀ w, S listed w → wpAny P md ops Q fuel listed a w
  | 0, _, _, h, w, hS => ⟨h.1, h.2 w hS⟩
  | fuel + 1, _, _, h, w, hS => ⟨fun hr => h.1 hr w hS, fun i hi => by
      obtain ⟨oi, v, ho, hy, hn⟩ := h.2 i hi
      exact steadyL_op ho hy (mem_ready.1 hi).1 hS fun w' hS' => wpAny_of_L fuel _ _ hn w' hS'⟩
theorem wpL_first {i : Nat} {oi : Oper} {v : Value} (hi : ops[i]? = some oi) (hsel : ∀ (j : Nat) (o : Oper) cs b, ops[j]? = some o → o.op ≠ .select cs b) :
    ∀ (fuel : Nat) (listed : Array Bool) (a : Act),
      (∀ j oj, ops[j]? = some oj → j ≠ i → listed.getD j true = false → (∀ e ∈ oj.after, Region.binds md e = true → e.on ≠ i) → oi.apart ops oj = true) →
      i ∈ Region.ready md ops listed → SteadyL P ops S i oi v a →
      wpL P md ops Q S fuel (listed.setIfInBounds i true) (a.put oi.dst v) → wpL P md ops Q S (fuel + 1) listed a := by
  intro fuel
  induction fuel with
  | zero =>
    intro listed a _ hr hy H
    refine ⟨fun h => (by rw [h] at hr; cases hr), fun j hj => ?_⟩
    by_cases hji : j = i
    · subst hji; exact ⟨oi, v, hi, hy, H⟩
    · have hm := ready_mono hj hji
      rw [H.1] at hm
      cases hm
  | succ fuel ih =>
    intro listed a hfree hr hy H
    refine ⟨fun h => (by rw [h] at hr; cases hr), fun j hj => ?_⟩
    by_cases hji : j = i
    · subst hji; exact ⟨oi, v, hi, hy, H⟩
    · obtain ⟨oj, u, hoj, hsj, Hj⟩ := H.2 j (ready_mono hj hji)
      obtain ⟨hjun, oj', hoj', hall⟩ := mem_ready.1 hj
      obtain rfl : oj' = oj := Option.some.inj (hoj'.symm.trans hoj)
      have hnot : ∀ e ∈ oj'.after, Region.binds md e = true → e.on ≠ i := fun e he hb heq => by
        have h1 := hall e he hb
        have h0 := (mem_ready.1 hr).1
        rw [heq] at h1
        have : listed.getD i true = listed.getD i false := by
          rcases Nat.lt_or_ge i listed.size with h' | h'
          · simp [h']
          · simp [Array.getElem?_eq_none h'] at h1
        rw [this, h1] at h0
        cases h0
      obtain ⟨h1, h2, h3⟩ := Oper.apart_spec (hfree j oj' hoj hji hjun hnot)
      have k1 : SteadyL P ops S j oj' u a := steadyL_same hsj (execOp_put oj' (fun cs b => hsel j oj' cs b hoj) a oi.dst v h1).symm (wanted_put oj' a oi.dst v h1).symm
      have k2 : SteadyL P ops S i oi v (a.put oj'.dst u) := steadyL_same hy (execOp_put oi (fun cs b => hsel i oi cs b hi) a oj'.dst u h3) (wanted_put oi a oj'.dst u h3)
      refine ⟨oj', u, hoj, k1, ih _ _ (fun k ok hk hki hun hno => ?_) (ready_mono hr (Ne.symm hji)) k2 ?_⟩
      · refine hfree k ok hk hki ?_ hno
        by_cases hjk : j = k
        · subst hjk; exact hjun
        · rw [getD_set_ne true hjk] at hun; exact hun
      · rw [Array.setIfInBounds_comm _ _ hji, ← Act.put_comm a v u h2]
        exact Hj
/-- operation number z turns W1 into W2, as far as block n -/
def Flag (z n : Nat) (W1 W2 : World) (L : Array Bool) (W : World) : Prop := Below n (if L.getD z false = true then W2 else W1) W
theorem wpZ_take {z n i : Nat} {W1 W2 : World} {oi : Oper} {v : Value} {fuel : Nat} {listed : Array Bool} {a : Act} (hi : ops[i]? = some oi) (hs : Region.noSelect ops = true)
    (hf : Region.free md ops listed i = true) (hr : (Region.ready md ops listed).contains i = true) (hy : SteadyL P ops (Flag z n W1 W2) i oi v a)
    (h : wpL P md ops Q (Flag z n W1 W2) fuel (listed.setIfInBounds i true) (a.put oi.dst v)) : wpL P md ops Q (Flag z n W1 W2) (fuel + 1) listed a :=
  wpL_first hi (Region.noSelect_spec hs) fuel listed a (Region.free_spec hi hf) (by simpa using hr) hy h
/-- number i, as it stands in the text; it is not number z -/
theorem wpZ_text {z n : Nat} {W1 W2 : World} (i : Nat) {oi : Oper} {rest : List Oper} {v : Value} {fuel : Nat} {listed : Array Bool} {a : Act} (hi : ops.toList.drop i = oi :: rest) (hs : Region.noSelect ops = true)
    (hf : Region.free md ops listed i = true) (hr : (Region.ready md ops listed).contains i = true) (hw : Region.wanted oi (yielded ops a.tmps) = true) (hz : i ≠ z)
    (h1 : ∀ X, (X = W1 ∨ X = W2) → ∀ w, Below n X w → Comes P (Below n X) v ((execOp a.eval oi).run P w))
    (h : wpL P md ops Q (Flag z n W1 W2) fuel (listed.setIfInBounds i true) (a.put oi.dst v)) : wpL P md ops Q (Flag z n W1 W2) (fuel + 1) listed a :=
  wpZ_take (op_of_drop hi) hs hf hr (Or.inl ⟨hw, fun L w _ hS => by
    have e : Flag z n W1 W2 (L.setIfInBounds i true) = Flag z n W1 W2 L := by unfold Flag; rw [getD_set_ne false hz]
    rw [e]
    unfold Flag at *
    split at hS
    · rename_i hc; simp only [hc, if_true]; exact h1 W2 (.inr rfl) w hS
    · rename_i hc; simp only [hc, if_false]; exact h1 W1 (.inl rfl) w hS⟩) h
theorem wpZ_skip {z n : Nat} {W1 W2 : World} (i : Nat) {oi : Oper} {rest : List Oper} {fuel : Nat} {listed : Array Bool} {a : Act} (hi : ops.toList.drop i = oi :: rest) (hs : Region.noSelect ops = true)
    (hf : Region.free md ops listed i = true) (hr : (Region.ready md ops listed).contains i = true) (hw : Region.wanted oi (yielded ops a.tmps) = false) (hz : i ≠ z)
    (h : wpL P md ops Q (Flag z n W1 W2) fuel (listed.setIfInBounds i true) (a.put oi.dst undef)) : wpL P md ops Q (Flag z n W1 W2) (fuel + 1) listed a :=
  wpZ_take (op_of_drop hi) hs hf hr (Or.inr ⟨hw, rfl, fun L w hS => by unfold Flag at *; rw [getD_set_ne false hz]; exact hS⟩) h
/-- number z itself -/
theorem wpZ_store {z n : Nat} {W1 W2 : World} {oi : Oper} {rest : List Oper} {v : Value} {fuel : Nat} {listed : Array Bool} {a : Act} (hi : ops.toList.drop z = oi :: rest) (hs : Region.noSelect ops = true)
    (hf : Region.free md ops listed z = true) (hr : (Region.ready md ops listed).contains z = true) (hw : Region.wanted oi (yielded ops a.tmps) = true)
    (h1 : ∀ w, Below n W1 w → Comes P (Below n W2) v ((execOp a.eval oi).run P w))
    (h : wpL P md ops Q (Flag z n W1 W2) fuel (listed.setIfInBounds z true) (a.put oi.dst v)) : wpL P md ops Q (Flag z n W1 W2) (fuel + 1) listed a :=
  wpZ_take (op_of_drop hi) hs hf hr (Or.inl ⟨hw, fun L w hl hS => by
    have h0 : L.getD z false = false := getD_both hl
    have h2 : (L.setIfInBounds z true).getD z false = true := by
      rcases Nat.lt_or_ge z L.size with h' | h'
      · simp [h']
      · simp [Array.getElem?_eq_none h'] at hl
    have e : Flag z n W1 W2 (L.setIfInBounds z true) = Below n W2 := by funext W; unfold Flag; rw [h2]; rfl
    rw [e]
    unfold Flag at hS
    rw [h0] at hS
    exact h1 w hS⟩) h
theorem wpZ_done {z n : Nat} {W1 W2 : World} {listed : Array Bool} {a : Act} (hr : Region.ready md ops listed = []) (hz : listed.getD z false = true) (h : ∀ w, Below n W2 w → Q .normal a w) : ∀ fuel, wpL P md ops Q (Flag z n W1 W2) fuel listed a
  | 0 => ⟨hr, fun w hS => h w (by unfold Flag at hS; rw [hz] at hS; exact hS)⟩
  | _ + 1 => ⟨fun _ w hS => h w (by unfold Flag at hS; rw [hz] at hS; exact hS), by rw [hr]; simp⟩
theorem wp_region_Z {id : Nat} {a : Act} {w : World} (z n : Nat) (W1 W2 : World) (hm : P.follows .mixedOrders = true) (hS : Below n W1 w.drew)
    (h : wpL P .any ops Q (Flag z n W1 W2) ops.size (Array.replicate ops.size false) a) : (Code.region id ops true).wp P Q a w :=
  wp_region_any hm (wpAny_of_L _ _ _ h _ (by unfold Flag; rw [getD_replicate_false]; exact hS))
theorem bcellN {n : Nat} {X W : World} (h : Below n X W) : (∀ b o, b < n → W.cell? ⟨b, o, none⟩ = X.cell? ⟨b, o, none⟩) ∧ (∀ b o, b < n → W.frozen? ⟨b, o, none⟩ = X.frozen? ⟨b, o, none⟩) :=
  ⟨fun b o hb => h.cell (p := ⟨b, o, none⟩) hb, fun b o hb => h.frozen (p := ⟨b, o, none⟩) hb⟩
theorem below_set2 {n : Nat} {W1 w : World} (h : Below n W1 w) (p : Addr) (u : Value) (hp : p.block < n) : Below n (W1.setCell p u) (w.setCell p u) :=
  ⟨h.os, h.tape, h.output, by simpa [World.setCell] using h.size, fun k hk => by
    simp only [World.setCell, Array.getElem?_modify]
    rw [h.block k hk]⟩
end
end Go.Proofs.Ytheddoinnakneaa
/- contract: a point divided by a number that is not 0 -/
namespace Go.Proofs.Ytheddoinnakneaa
open Go.ChangeShapes Go.WideShapes Go.ChangeAt Go.RowKit Go.Joins
set_option linter.unusedVariables false
set_option linter.unusedSimpArgs false
set_option maxRecDepth 4000
theorem tdivN_back (p n : Int) : (p.tmod n = 0 ↔ p.tdiv n * n = p) := by
  have := Int.tdiv_mul_add_tmod p n
  constructor <;> intro h <;> omega
theorem tdivN_bd (p n : Int) (h : Mid p) : Mid (p.tdiv n) ∧ Mid (p.tdiv n * n) := by
  have h2 : (p.tdiv n).natAbs ≤ p.natAbs := by rw [Int.natAbs_tdiv]; exact Nat.div_le_self _ _
  have h4 : (p.tdiv n * n).natAbs ≤ p.natAbs := by rw [Int.natAbs_mul, Int.natAbs_tdiv]; exact Nat.div_mul_le_self _ _
  unfold Mid at *
  omega
set_option maxHeartbeats 2000000 in
theorem dividedByN_any (p1 p2 n : Int) (w : World) (h1 : Mid p1) (h2 : Mid p2) (hn : n ≠ 0 ∧ -1000000 ≤ n ∧ n ≤ 1000000) :
    Calls Try.prog 129 #[.agg #[.int .i64 p1, .int .i64 p2], .int .i64 n] w fun e w' => e = .returned (.tuple #[.agg #[.int .i64 (p1.tdiv n), .int .i64 (p2.tdiv n)], .bool (decide (p1.tmod n = 0) && decide (p2.tmod n = 0))]) ∧ Below w.heap.size w w' := by
  obtain ⟨g1, g2⟩ := tdivN_bd p1 n h1
  obtain ⟨g3, g4⟩ := tdivN_bd p2 n h2
  have K := Lib.hid (fun W => times_any (p1.tdiv n) (p2.tdiv n) n W (by unfold Mid at g2; omega) (by unfold Mid at g4; omega))
  have e1 : decide (p1.tmod n = 0) = decide (p1.tdiv n * n = p1) := decide_eq_decide.2 (tdivN_back p1 n)
  have e2 : decide (p2.tmod n = 0) = decide (p2.tdiv n * n = p2) := decide_eq_decide.2 (tdivN_back p2 n)
  rw [e1, e2]
  generalize p1.tdiv n * n = m1 at *
  generalize p2.tdiv n * n = m2 at *
  obtain ⟨x1, x2⟩ := h1
  obtain ⟨x3, x4⟩ := h2
  obtain ⟨n0, n1, n2⟩ := hn
  have n3 : ¬ n = 0 := n0
  obtain ⟨x5, x6⟩ := g1
  obtain ⟨x7, x8⟩ := g3
  clear g2 g4 e1 e2
  by_cases c1 : m1 = p1
  · by_cases c2 : m2 = p2
    · subst c1 c2
      go_enter Try.func129, Try.ntmps129
      go_wp2_with fail
      obtain ⟨W0, hW0⟩ : ∃ W0, W0 = ((w.alloc (.cells #[.int .i64 m1, .int .i64 m2] 56)).alloc (.cells #[.int .i64 0, .int .i64 0] 56)) := ⟨_, rfl⟩
      rw [← hW0]
      have yW00_0 : W0.cell? ⟨w.heap.size, 0, none⟩ = some (.int .i64 m1) := by rw [hW0]; go_simp
      have yW00_1 : W0.cell? ⟨w.heap.size, 1, none⟩ = some (.int .i64 m2) := by rw [hW0]; go_simp
      have fW00 : ∀ o, W0.frozen? ⟨w.heap.size, o, none⟩ = false := by intro o; rw [hW0]; (repeat rw [frozen?_alloc_cells]); simp [World.frozen?]
      have zW00 : w.heap.size < W0.heap.size := by rw [hW0]; simp <;> omega
      have yW01_0 : W0.cell? ⟨w.heap.size + 1, 0, none⟩ = some (.int .i64 0) := by rw [hW0]; go_simp
      have yW01_1 : W0.cell? ⟨w.heap.size + 1, 1, none⟩ = some (.int .i64 0) := by rw [hW0]; go_simp
      have fW01 : ∀ o, W0.frozen? ⟨w.heap.size + 1, o, none⟩ = false := by intro o; rw [hW0]; (repeat rw [frozen?_alloc_cells]); simp [World.frozen?]
      have zW01 : w.heap.size + 1 < W0.heap.size := by rw [hW0]; simp <;> omega
      have BW0 : Below w.heap.size w W0 := by rw [hW0]; exact (Below.alloc (Below.alloc (Below.refl _ _) (by simp <;> omega) _) (by simp <;> omega) _)
      have eW0 : Hid (W0.heap.size = w.heap.size + 2) := Lib.hid (by rw [hW0]; simp)
      clear hW0
      go_region
      obtain ⟨W1, hW1⟩ : ∃ W1, W1 = (W0.alloc (.cells #[.int .i64 (m1.tdiv n), .int .i64 (m2.tdiv n)] 56)) := ⟨_, rfl⟩
      rw [← hW1]
      have yW10_0 : W1.cell? ⟨W0.heap.size, 0, none⟩ = some (.int .i64 (m1.tdiv n)) := by rw [hW1]; go_simp
      have yW10_1 : W1.cell? ⟨W0.heap.size, 1, none⟩ = some (.int .i64 (m2.tdiv n)) := by rw [hW1]; go_simp
      have fW10 : ∀ o, W1.frozen? ⟨W0.heap.size, o, none⟩ = false := by intro o; rw [hW1]; (repeat rw [frozen?_alloc_cells]); simp [World.frozen?]
      have zW10 : W0.heap.size < W1.heap.size := by rw [hW1]; simp <;> omega
      have BW1 : Below W0.heap.size W0 W1 := by rw [hW1]; exact (Below.alloc (Below.refl _ _) (by simp <;> omega) _)
      have eW1 : Hid (W1.heap.size = W0.heap.size + 1) := Lib.hid (by rw [hW1]; simp)
      clear hW1
      obtain ⟨hcA, hfA⟩ := bcell BW1
      have zA : w.heap.size < W1.heap.size := by omega
      have zB : w.heap.size + 1 < W1.heap.size := by omega
      have r0 := (hcA _ _ zW00).trans yW00_0
      have r1 := (hcA _ _ zW00).trans yW00_1
      have r2 := (hcA _ _ zW01).trans yW01_0
      have r3 := (hcA _ _ zW01).trans yW01_1
      have r4 : ∀ o, W1.frozen? ⟨w.heap.size + 1, o, none⟩ = false := fun o => (hfA _ _ zW01).trans (fW01 o)
      clear hcA hfA
      obtain ⟨W2, hW2⟩ : ∃ W2, W2 = (W1.setCell ⟨w.heap.size + 1, 0, none⟩ (.int .i64 (m1.tdiv n))).setCell ⟨w.heap.size + 1, 1, none⟩ (.int .i64 (m2.tdiv n)) := ⟨_, rfl⟩
      have ne : w.heap.size ≠ w.heap.size + 1 := by omega
      have ne2 : W0.heap.size ≠ w.heap.size + 1 := by omega
      have FX : Hid (∀ X, (X = W1 ∨ X = W2) → W1.heap.size ≤ X.heap.size ∧ X.cell? ⟨w.heap.size, 0, none⟩ = some (.int .i64 m1) ∧ X.cell? ⟨w.heap.size, 1, none⟩ = some (.int .i64 m2) ∧ X.cell? ⟨W0.heap.size, 0, none⟩ = some (.int .i64 (m1.tdiv n)) ∧ X.cell? ⟨W0.heap.size, 1, none⟩ = some (.int .i64 (m2.tdiv n))) := Lib.hid (fun X hX => by
        rcases hX with rfl | rfl
        · exact ⟨Nat.le_refl _, r0, r1, yW10_0, yW10_1⟩
        · rw [hW2]
          have o : ∀ (bb oo : Nat), bb ≠ w.heap.size + 1 → ((W1.setCell ⟨w.heap.size + 1, 0, none⟩ (.int .i64 (m1.tdiv n))).setCell ⟨w.heap.size + 1, 1, none⟩ (.int .i64 (m2.tdiv n))).cell? ⟨bb, oo, none⟩ = W1.cell? ⟨bb, oo, none⟩ := fun bb oo hh => by
            rw [World.cell?_setCell_other _ _ _ _ (fun e => hh (by injection e with e1 e2; exact e1.symm)), World.cell?_setCell_other _ _ _ _ (fun e => hh (by injection e with e1 e2; exact e1.symm))]
          exact ⟨by simp [World.setCell], (o _ _ ne).trans r0, (o _ _ ne).trans r1, (o _ _ ne2).trans yW10_0, (o _ _ ne2).trans yW10_1⟩)
      have HW2 := Lib.hid hW2
      have BW2 : Below w.heap.size w W2 := by
        rw [hW2]
        exact Below.setCell (Below.setCell (BW0.trans (BW1.mono BW0.size)) (by simp) _) (by simp) _
      have s0 : W2.cell? ⟨w.heap.size + 1, 0, none⟩ = some (.int .i64 (m1.tdiv n)) := by
        rw [hW2, World.cell?_setCell_other _ _ _ _ (fun e => by injection e with e1 e2; cases e2), World.cell?_setCell_same _ _ _ r2]
      have s1 : W2.cell? ⟨w.heap.size + 1, 1, none⟩ = some (.int .i64 (m2.tdiv n)) := by
        rw [hW2]
        exact World.cell?_setCell_same _ _ _ (show (W1.setCell ⟨w.heap.size + 1, 0, none⟩ (.int .i64 (m1.tdiv n))).cell? ⟨w.heap.size + 1, 1, none⟩ = some (.int .i64 0) by rw [World.cell?_setCell_other _ _ _ _ (fun e => by injection e with e1 e2; cases e2)]; exact r3)
      clear hW2
      go_wp2_with fail
      refine wp_region_Z 6 W1.heap.size W1 W2 (by kernel_rfl) (by repeat (first | exact Below.refl _ _ | apply Below.drew)) ?_
      first | refine wpZ_skip 0 rfl (by kernel_rfl) (by kernel_rfl) (by kernel_rfl) (by rfl) (by decide) ?_ | (refine wpZ_text 0 (v := ?_) rfl (by kernel_rfl) (by kernel_rfl) (by kernel_rfl) (by rfl) (by decide) (fun X hX W k1 => ?_) ?_; rotate_left; (obtain ⟨hX0, x0, x1, x2, x3⟩ := FX.out X hX; obtain ⟨hc1, hf1⟩ := bcellN k1; go_simp; refine comes_v ?_; exact k1))
      (try simp only [Act.put, List.setIfInBounds_toArray, List.set_cons_zero, List.set_cons_succ])
      first | refine wpZ_skip 1 rfl (by kernel_rfl) (by kernel_rfl) (by kernel_rfl) (by rfl) (by decide) ?_ | (refine wpZ_text 1 (v := ?_) rfl (by kernel_rfl) (by kernel_rfl) (by kernel_rfl) (by rfl) (by decide) (fun X hX W k1 => ?_) ?_; rotate_left; (obtain ⟨hX0, x0, x1, x2, x3⟩ := FX.out X hX; obtain ⟨hc1, hf1⟩ := bcellN k1; go_simp; refine comes_v ?_; exact k1))
      (try simp only [Act.put, List.setIfInBounds_toArray, List.set_cons_zero, List.set_cons_succ])
      first | refine wpZ_skip 2 rfl (by kernel_rfl) (by kernel_rfl) (by kernel_rfl) (by rfl) (by decide) ?_ | (refine wpZ_text 2 (v := ?_) rfl (by kernel_rfl) (by kernel_rfl) (by kernel_rfl) (by rfl) (by decide) (fun X hX W k1 => ?_) ?_; rotate_left; (obtain ⟨hX0, x0, x1, x2, x3⟩ := FX.out X hX; obtain ⟨hc1, hf1⟩ := bcellN k1; go_simp; refine comes_v ?_; exact k1))
      (try simp only [Act.put, List.setIfInBounds_toArray, List.set_cons_zero, List.set_cons_succ])
      first | refine wpZ_skip 3 rfl (by kernel_rfl) (by kernel_rfl) (by kernel_rfl) (by rfl) (by decide) ?_ | (refine wpZ_text 3 (v := .agg #[.int .i64 m1, .int .i64 m2]) rfl (by kernel_rfl) (by kernel_rfl) (by kernel_rfl) (by rfl) (by decide) (fun X hX W k1 => ?_) ?_; (obtain ⟨hX0, x0, x1, x2, x3⟩ := FX.out X hX; obtain ⟨hc1, hf1⟩ := bcellN k1; go_simp; exact comes_c ( K.out _) (fun wn hbn => k1.trans (hbn.mono (Nat.le_trans hX0 k1.size)))))
      (try simp only [Act.put, List.setIfInBounds_toArray, List.set_cons_zero, List.set_cons_succ])
      first | refine wpZ_skip 4 rfl (by kernel_rfl) (by kernel_rfl) (by kernel_rfl) (by rfl) (by decide) ?_ | (refine wpZ_text 4 (v := ?_) rfl (by kernel_rfl) (by kernel_rfl) (by kernel_rfl) (by rfl) (by decide) (fun X hX W k1 => ?_) ?_; rotate_left; (obtain ⟨hX0, x0, x1, x2, x3⟩ := FX.out X hX; obtain ⟨hc1, hf1⟩ := bcellN k1; go_simp; refine comes_v ?_; exact k1))
      (try simp only [Act.put, List.setIfInBounds_toArray, List.set_cons_zero, List.set_cons_succ])
      first | refine wpZ_skip 5 rfl (by kernel_rfl) (by kernel_rfl) (by kernel_rfl) (by rfl) (by decide) ?_ | (refine wpZ_text 5 (v := ?_) rfl (by kernel_rfl) (by kernel_rfl) (by kernel_rfl) (by rfl) (by decide) (fun X hX W k1 => ?_) ?_; rotate_left; (obtain ⟨hX0, x0, x1, x2, x3⟩ := FX.out X hX; obtain ⟨hc1, hf1⟩ := bcellN k1; go_simp; refine comes_v ?_; exact k1))
      (try simp only [Act.put, List.setIfInBounds_toArray, List.set_cons_zero, List.set_cons_succ])
      (refine wpZ_store (v := undef) rfl (by kernel_rfl) (by kernel_rfl) (by kernel_rfl) (by rfl) (fun W k1 => ?_) ?_; (obtain ⟨hc1, hf1⟩ := bcellN k1; go_simp; refine ⟨rfl, ?_⟩; rw [HW2.out]; exact below_set2 (below_set2 k1 _ _ zB) _ _ zB))
      (try simp only [Act.put, List.setIfInBounds_toArray, List.set_cons_zero, List.set_cons_succ])
      first | refine wpZ_skip 7 rfl (by kernel_rfl) (by kernel_rfl) (by kernel_rfl) (by rfl) (by decide) ?_ | (refine wpZ_text 7 (v := ?_) rfl (by kernel_rfl) (by kernel_rfl) (by kernel_rfl) (by rfl) (by decide) (fun X hX W k1 => ?_) ?_; rotate_left; (obtain ⟨hX0, x0, x1, x2, x3⟩ := FX.out X hX; obtain ⟨hc1, hf1⟩ := bcellN k1; go_simp; refine comes_v ?_; exact k1))
      (try simp only [Act.put, List.setIfInBounds_toArray, List.set_cons_zero, List.set_cons_succ])
      refine wpZ_done (by kernel_rfl) (by kernel_rfl) ?_ _
      intro W k1; obtain ⟨hc1, hf1⟩ := bcellN k1
      have B1 : Below w.heap.size w W := BW2.trans (k1.mono (by omega))
      go_wp2_with fail
      refine bodyPost_ret (v := .tuple #[.agg #[.int .i64 (m1.tdiv n), .int .i64 (m2.tdiv n)], .bool true]) (by simp [results, Try.results129, go_sem, hc1, zB, s0, s1]) rfl ⟨by simp , ?_⟩
      repeat (first | with_reducible assumption | with_reducible exact Below.refl _ _ | with_reducible apply Below.drew | ((with_reducible refine Below.setCell ?_ ?_ _); rotate_left; (first | exact Nat.le_refl _ | omega | (simp <;> omega))) | ((with_reducible refine Below.alloc ?_ ?_ _); rotate_left; (first | omega | (simp <;> omega))))
    · subst c1
      go_enter Try.func129, Try.ntmps129
      go_wp2_with fail
      obtain ⟨W0, hW0⟩ : ∃ W0, W0 = ((w.alloc (.cells #[.int .i64 m1, .int .i64 p2] 56)).alloc (.cells #[.int .i64 0, .int .i64 0] 56)) := ⟨_, rfl⟩
      rw [← hW0]
      have yW00_0 : W0.cell? ⟨w.heap.size, 0, none⟩ = some (.int .i64 m1) := by rw [hW0]; go_simp
      have yW00_1 : W0.cell? ⟨w.heap.size, 1, none⟩ = some (.int .i64 p2) := by rw [hW0]; go_simp
      have fW00 : ∀ o, W0.frozen? ⟨w.heap.size, o, none⟩ = false := by intro o; rw [hW0]; (repeat rw [frozen?_alloc_cells]); simp [World.frozen?]
      have zW00 : w.heap.size < W0.heap.size := by rw [hW0]; simp <;> omega
      have yW01_0 : W0.cell? ⟨w.heap.size + 1, 0, none⟩ = some (.int .i64 0) := by rw [hW0]; go_simp
      have yW01_1 : W0.cell? ⟨w.heap.size + 1, 1, none⟩ = some (.int .i64 0) := by rw [hW0]; go_simp
      have fW01 : ∀ o, W0.frozen? ⟨w.heap.size + 1, o, none⟩ = false := by intro o; rw [hW0]; (repeat rw [frozen?_alloc_cells]); simp [World.frozen?]
      have zW01 : w.heap.size + 1 < W0.heap.size := by rw [hW0]; simp <;> omega
      have BW0 : Below w.heap.size w W0 := by rw [hW0]; exact (Below.alloc (Below.alloc (Below.refl _ _) (by simp <;> omega) _) (by simp <;> omega) _)
      have eW0 : Hid (W0.heap.size = w.heap.size + 2) := Lib.hid (by rw [hW0]; simp)
      clear hW0
      go_region
      obtain ⟨W1, hW1⟩ : ∃ W1, W1 = (W0.alloc (.cells #[.int .i64 (m1.tdiv n), .int .i64 (p2.tdiv n)] 56)) := ⟨_, rfl⟩
      rw [← hW1]
      have yW10_0 : W1.cell? ⟨W0.heap.size, 0, none⟩ = some (.int .i64 (m1.tdiv n)) := by rw [hW1]; go_simp
      have yW10_1 : W1.cell? ⟨W0.heap.size, 1, none⟩ = some (.int .i64 (p2.tdiv n)) := by rw [hW1]; go_simp
      have fW10 : ∀ o, W1.frozen? ⟨W0.heap.size, o, none⟩ = false := by intro o; rw [hW1]; (repeat rw [frozen?_alloc_cells]); simp [World.frozen?]
      have zW10 : W0.heap.size < W1.heap.size := by rw [hW1]; simp <;> omega
      have BW1 : Below W0.heap.size W0 W1 := by rw [hW1]; exact (Below.alloc (Below.refl _ _) (by simp <;> omega) _)
      have eW1 : Hid (W1.heap.size = W0.heap.size + 1) := Lib.hid (by rw [hW1]; simp)
      clear hW1
      obtain ⟨hcA, hfA⟩ := bcell BW1
      have zA : w.heap.size < W1.heap.size := by omega
      have zB : w.heap.size + 1 < W1.heap.size := by omega
      have r0 := (hcA _ _ zW00).trans yW00_0
      have r1 := (hcA _ _ zW00).trans yW00_1
      have r2 := (hcA _ _ zW01).trans yW01_0
      have r3 := (hcA _ _ zW01).trans yW01_1
      have r4 : ∀ o, W1.frozen? ⟨w.heap.size + 1, o, none⟩ = false := fun o => (hfA _ _ zW01).trans (fW01 o)
      clear hcA hfA
      obtain ⟨W2, hW2⟩ : ∃ W2, W2 = (W1.setCell ⟨w.heap.size + 1, 0, none⟩ (.int .i64 (m1.tdiv n))).setCell ⟨w.heap.size + 1, 1, none⟩ (.int .i64 (p2.tdiv n)) := ⟨_, rfl⟩
      have ne : w.heap.size ≠ w.heap.size + 1 := by omega
      have ne2 : W0.heap.size ≠ w.heap.size + 1 := by omega
      have FX : Hid (∀ X, (X = W1 ∨ X = W2) → W1.heap.size ≤ X.heap.size ∧ X.cell? ⟨w.heap.size, 0, none⟩ = some (.int .i64 m1) ∧ X.cell? ⟨w.heap.size, 1, none⟩ = some (.int .i64 p2) ∧ X.cell? ⟨W0.heap.size, 0, none⟩ = some (.int .i64 (m1.tdiv n)) ∧ X.cell? ⟨W0.heap.size, 1, none⟩ = some (.int .i64 (p2.tdiv n))) := Lib.hid (fun X hX => by
        rcases hX with rfl | rfl
        · exact ⟨Nat.le_refl _, r0, r1, yW10_0, yW10_1⟩
        · rw [hW2]
          have o : ∀ (bb oo : Nat), bb ≠ w.heap.size + 1 → ((W1.setCell ⟨w.heap.size + 1, 0, none⟩ (.int .i64 (m1.tdiv n))).setCell ⟨w.heap.size + 1, 1, none⟩ (.int .i64 (p2.tdiv n))).cell? ⟨bb, oo, none⟩ = W1.cell? ⟨bb, oo, none⟩ := fun bb oo hh => by
            rw [World.cell?_setCell_other _ _ _ _ (fun e => hh (by injection e with e1 e2; exact e1.symm)), World.cell?_setCell_other _ _ _ _ (fun e => hh (by injection e with e1 e2; exact e1.symm))]
          exact ⟨by simp [World.setCell], (o _ _ ne).trans r0, (o _ _ ne).trans r1, (o _ _ ne2).trans yW10_0, (o _ _ ne2).trans yW10_1⟩)
      have HW2 := Lib.hid hW2
      have BW2 : Below w.heap.size w W2 := by
        rw [hW2]
        exact Below.setCell (Below.setCell (BW0.trans (BW1.mono BW0.size)) (by simp) _) (by simp) _
      have s0 : W2.cell? ⟨w.heap.size + 1, 0, none⟩ = some (.int .i64 (m1.tdiv n)) := by
        rw [hW2, World.cell?_setCell_other _ _ _ _ (fun e => by injection e with e1 e2; cases e2), World.cell?_setCell_same _ _ _ r2]
      have s1 : W2.cell? ⟨w.heap.size + 1, 1, none⟩ = some (.int .i64 (p2.tdiv n)) := by
        rw [hW2]
        exact World.cell?_setCell_same _ _ _ (show (W1.setCell ⟨w.heap.size + 1, 0, none⟩ (.int .i64 (m1.tdiv n))).cell? ⟨w.heap.size + 1, 1, none⟩ = some (.int .i64 0) by rw [World.cell?_setCell_other _ _ _ _ (fun e => by injection e with e1 e2; cases e2)]; exact r3)
      clear hW2
      go_wp2_with fail
      refine wp_region_Z 6 W1.heap.size W1 W2 (by kernel_rfl) (by repeat (first | exact Below.refl _ _ | apply Below.drew)) ?_
      first | refine wpZ_skip 0 rfl (by kernel_rfl) (by kernel_rfl) (by kernel_rfl) (by rfl) (by decide) ?_ | (refine wpZ_text 0 (v := ?_) rfl (by kernel_rfl) (by kernel_rfl) (by kernel_rfl) (by rfl) (by decide) (fun X hX W k1 => ?_) ?_; rotate_left; (obtain ⟨hX0, x0, x1, x2, x3⟩ := FX.out X hX; obtain ⟨hc1, hf1⟩ := bcellN k1; go_simp; refine comes_v ?_; exact k1))
      (try simp only [Act.put, List.setIfInBounds_toArray, List.set_cons_zero, List.set_cons_succ])
      first | refine wpZ_skip 1 rfl (by kernel_rfl) (by kernel_rfl) (by kernel_rfl) (by rfl) (by decide) ?_ | (refine wpZ_text 1 (v := ?_) rfl (by kernel_rfl) (by kernel_rfl) (by kernel_rfl) (by rfl) (by decide) (fun X hX W k1 => ?_) ?_; rotate_left; (obtain ⟨hX0, x0, x1, x2, x3⟩ := FX.out X hX; obtain ⟨hc1, hf1⟩ := bcellN k1; go_simp; refine comes_v ?_; exact k1))
      (try simp only [Act.put, List.setIfInBounds_toArray, List.set_cons_zero, List.set_cons_succ])
      first | refine wpZ_skip 2 rfl (by kernel_rfl) (by kernel_rfl) (by kernel_rfl) (by rfl) (by decide) ?_ | (refine wpZ_text 2 (v := ?_) rfl (by kernel_rfl) (by kernel_rfl) (by kernel_rfl) (by rfl) (by decide) (fun X hX W k1 => ?_) ?_; rotate_left; (obtain ⟨hX0, x0, x1, x2, x3⟩ := FX.out X hX; obtain ⟨hc1, hf1⟩ := bcellN k1; go_simp; refine comes_v ?_; exact k1))
      (try simp only [Act.put, List.setIfInBounds_toArray, List.set_cons_zero, List.set_cons_succ])
      first | refine wpZ_skip 3 rfl (by kernel_rfl) (by kernel_rfl) (by kernel_rfl) (by rfl) (by decide) ?_ | (refine wpZ_text 3 (v := .agg #[.int .i64 m1, .int .i64 m2]) rfl (by kernel_rfl) (by kernel_rfl) (by kernel_rfl) (by rfl) (by decide) (fun X hX W k1 => ?_) ?_; (obtain ⟨hX0, x0, x1, x2, x3⟩ := FX.out X hX; obtain ⟨hc1, hf1⟩ := bcellN k1; go_simp; exact comes_c ( K.out _) (fun wn hbn => k1.trans (hbn.mono (Nat.le_trans hX0 k1.size)))))
      (try simp only [Act.put, List.setIfInBounds_toArray, List.set_cons_zero, List.set_cons_succ])
      first | refine wpZ_skip 4 rfl (by kernel_rfl) (by kernel_rfl) (by kernel_rfl) (by rfl) (by decide) ?_ | (refine wpZ_text 4 (v := ?_) rfl (by kernel_rfl) (by kernel_rfl) (by kernel_rfl) (by rfl) (by decide) (fun X hX W k1 => ?_) ?_; rotate_left; (obtain ⟨hX0, x0, x1, x2, x3⟩ := FX.out X hX; obtain ⟨hc1, hf1⟩ := bcellN k1; go_simp; refine comes_v ?_; exact k1))
      (try simp only [Act.put, List.setIfInBounds_toArray, List.set_cons_zero, List.set_cons_succ])
      first | refine wpZ_skip 5 rfl (by kernel_rfl) (by kernel_rfl) (by kernel_rfl) (by rfl) (by decide) ?_ | (refine wpZ_text 5 (v := ?_) rfl (by kernel_rfl) (by kernel_rfl) (by kernel_rfl) (by rfl) (by decide) (fun X hX W k1 => ?_) ?_; rotate_left; (obtain ⟨hX0, x0, x1, x2, x3⟩ := FX.out X hX; obtain ⟨hc1, hf1⟩ := bcellN k1; go_simp; refine comes_v ?_; exact k1))
      (try simp only [Act.put, List.setIfInBounds_toArray, List.set_cons_zero, List.set_cons_succ])
      (refine wpZ_store (v := undef) rfl (by kernel_rfl) (by kernel_rfl) (by kernel_rfl) (by rfl) (fun W k1 => ?_) ?_; (obtain ⟨hc1, hf1⟩ := bcellN k1; go_simp; refine ⟨rfl, ?_⟩; rw [HW2.out]; exact below_set2 (below_set2 k1 _ _ zB) _ _ zB))
      (try simp only [Act.put, List.setIfInBounds_toArray, List.set_cons_zero, List.set_cons_succ])
      first | refine wpZ_skip 7 rfl (by kernel_rfl) (by kernel_rfl) (by kernel_rfl) (by rfl) (by decide) ?_ | (refine wpZ_text 7 (v := ?_) rfl (by kernel_rfl) (by kernel_rfl) (by kernel_rfl) (by rfl) (by decide) (fun X hX W k1 => ?_) ?_; rotate_left; (obtain ⟨hX0, x0, x1, x2, x3⟩ := FX.out X hX; obtain ⟨hc1, hf1⟩ := bcellN k1; go_simp; refine comes_v ?_; exact k1))
      (try simp only [Act.put, List.setIfInBounds_toArray, List.set_cons_zero, List.set_cons_succ])
      refine wpZ_done (by kernel_rfl) (by kernel_rfl) ?_ _
      intro W k1; obtain ⟨hc1, hf1⟩ := bcellN k1
      have B1 : Below w.heap.size w W := BW2.trans (k1.mono (by omega))
      go_wp2_with fail
      refine bodyPost_ret (v := .tuple #[.agg #[.int .i64 (m1.tdiv n), .int .i64 (p2.tdiv n)], .bool false]) (by simp [results, Try.results129, go_sem, hc1, zB, s0, s1]) rfl ⟨by simp [c2], ?_⟩
      repeat (first | with_reducible assumption | with_reducible exact Below.refl _ _ | with_reducible apply Below.drew | ((with_reducible refine Below.setCell ?_ ?_ _); rotate_left; (first | exact Nat.le_refl _ | omega | (simp <;> omega))) | ((with_reducible refine Below.alloc ?_ ?_ _); rotate_left; (first | omega | (simp <;> omega))))
  · by_cases c2 : m2 = p2
    · subst c2
      go_enter Try.func129, Try.ntmps129
      go_wp2_with fail
      obtain ⟨W0, hW0⟩ : ∃ W0, W0 = ((w.alloc (.cells #[.int .i64 p1, .int .i64 m2] 56)).alloc (.cells #[.int .i64 0, .int .i64 0] 56)) := ⟨_, rfl⟩
      rw [← hW0]
      have yW00_0 : W0.cell? ⟨w.heap.size, 0, none⟩ = some (.int .i64 p1) := by rw [hW0]; go_simp
      have yW00_1 : W0.cell? ⟨w.heap.size, 1, none⟩ = some (.int .i64 m2) := by rw [hW0]; go_simp
      have fW00 : ∀ o, W0.frozen? ⟨w.heap.size, o, none⟩ = false := by intro o; rw [hW0]; (repeat rw [frozen?_alloc_cells]); simp [World.frozen?]
      have zW00 : w.heap.size < W0.heap.size := by rw [hW0]; simp <;> omega
      have yW01_0 : W0.cell? ⟨w.heap.size + 1, 0, none⟩ = some (.int .i64 0) := by rw [hW0]; go_simp
      have yW01_1 : W0.cell? ⟨w.heap.size + 1, 1, none⟩ = some (.int .i64 0) := by rw [hW0]; go_simp
      have fW01 : ∀ o, W0.frozen? ⟨w.heap.size + 1, o, none⟩ = false := by intro o; rw [hW0]; (repeat rw [frozen?_alloc_cells]); simp [World.frozen?]
      have zW01 : w.heap.size + 1 < W0.heap.size := by rw [hW0]; simp <;> omega
      have BW0 : Below w.heap.size w W0 := by rw [hW0]; exact (Below.alloc (Below.alloc (Below.refl _ _) (by simp <;> omega) _) (by simp <;> omega) _)
      have eW0 : Hid (W0.heap.size = w.heap.size + 2) := Lib.hid (by rw [hW0]; simp)
      clear hW0
      go_region
      obtain ⟨W1, hW1⟩ : ∃ W1, W1 = (W0.alloc (.cells #[.int .i64 (p1.tdiv n), .int .i64 (m2.tdiv n)] 56)) := ⟨_, rfl⟩
      rw [← hW1]
      have yW10_0 : W1.cell? ⟨W0.heap.size, 0, none⟩ = some (.int .i64 (p1.tdiv n)) := by rw [hW1]; go_simp
      have yW10_1 : W1.cell? ⟨W0.heap.size, 1, none⟩ = some (.int .i64 (m2.tdiv n)) := by rw [hW1]; go_simp
      have fW10 : ∀ o, W1.frozen? ⟨W0.heap.size, o, none⟩ = false := by intro o; rw [hW1]; (repeat rw [frozen?_alloc_cells]); simp [World.frozen?]
      have zW10 : W0.heap.size < W1.heap.size := by rw [hW1]; simp <;> omega
      have BW1 : Below W0.heap.size W0 W1 := by rw [hW1]; exact (Below.alloc (Below.refl _ _) (by simp <;> omega) _)
      have eW1 : Hid (W1.heap.size = W0.heap.size + 1) := Lib.hid (by rw [hW1]; simp)
      clear hW1
      obtain ⟨hcA, hfA⟩ := bcell BW1
      have zA : w.heap.size < W1.heap.size := by omega
      have zB : w.heap.size + 1 < W1.heap.size := by omega
      have r0 := (hcA _ _ zW00).trans yW00_0
      have r1 := (hcA _ _ zW00).trans yW00_1
      have r2 := (hcA _ _ zW01).trans yW01_0
      have r3 := (hcA _ _ zW01).trans yW01_1
      have r4 : ∀ o, W1.frozen? ⟨w.heap.size + 1, o, none⟩ = false := fun o => (hfA _ _ zW01).trans (fW01 o)
      clear hcA hfA
      obtain ⟨W2, hW2⟩ : ∃ W2, W2 = (W1.setCell ⟨w.heap.size + 1, 0, none⟩ (.int .i64 (p1.tdiv n))).setCell ⟨w.heap.size + 1, 1, none⟩ (.int .i64 (m2.tdiv n)) := ⟨_, rfl⟩
      have ne : w.heap.size ≠ w.heap.size + 1 := by omega
      have ne2 : W0.heap.size ≠ w.heap.size + 1 := by omega
      have FX : Hid (∀ X, (X = W1 ∨ X = W2) → W1.heap.size ≤ X.heap.size ∧ X.cell? ⟨w.heap.size, 0, none⟩ = some (.int .i64 p1) ∧ X.cell? ⟨w.heap.size, 1, none⟩ = some (.int .i64 m2) ∧ X.cell? ⟨W0.heap.size, 0, none⟩ = some (.int .i64 (p1.tdiv n)) ∧ X.cell? ⟨W0.heap.size, 1, none⟩ = some (.int .i64 (m2.tdiv n))) := Lib.hid (fun X hX => by
        rcases hX with rfl | rfl
        · exact ⟨Nat.le_refl _, r0, r1, yW10_0, yW10_1⟩
        · rw [hW2]
          have o : ∀ (bb oo : Nat), bb ≠ w.heap.size + 1 → ((W1.setCell ⟨w.heap.size + 1, 0, none⟩ (.int .i64 (p1.tdiv n))).setCell ⟨w.heap.size + 1, 1, none⟩ (.int .i64 (m2.tdiv n))).cell? ⟨bb, oo, none⟩ = W1.cell? ⟨bb, oo, none⟩ := fun bb oo hh => by
            rw [World.cell?_setCell_other _ _ _ _ (fun e => hh (by injection e with e1 e2; exact e1.symm)), World.cell?_setCell_other _ _ _ _ (fun e => hh (by injection e with e1 e2; exact e1.symm))]
          exact ⟨by simp [World.setCell], (o _ _ ne).trans r0, (o _ _ ne).trans r1, (o _ _ ne2).trans yW10_0, (o _ _ ne2).trans yW10_1⟩)
      have HW2 := Lib.hid hW2
      have BW2 : Below w.heap.size w W2 := by
        rw [hW2]
        exact Below.setCell (Below.setCell (BW0.trans (BW1.mono BW0.size)) (by simp) _) (by simp) _
      have s0 : W2.cell? ⟨w.heap.size + 1, 0, none⟩ = some (.int .i64 (p1.tdiv n)) := by
        rw [hW2, World.cell?_setCell_other _ _ _ _ (fun e => by injection e with e1 e2; cases e2), World.cell?_setCell_same _ _ _ r2]
      have s1 : W2.cell? ⟨w.heap.size + 1, 1, none⟩ = some (.int .i64 (m2.tdiv n)) := by
        rw [hW2]
        exact World.cell?_setCell_same _ _ _ (show (W1.setCell ⟨w.heap.size + 1, 0, none⟩ (.int .i64 (p1.tdiv n))).cell? ⟨w.heap.size + 1, 1, none⟩ = some (.int .i64 0) by rw [World.cell?_setCell_other _ _ _ _ (fun e => by injection e with e1 e2; cases e2)]; exact r3)
      clear hW2
      go_wp2_with fail
      refine wp_region_Z 6 W1.heap.size W1 W2 (by kernel_rfl) (by repeat (first | exact Below.refl _ _ | apply Below.drew)) ?_
      first | refine wpZ_skip 0 rfl (by kernel_rfl) (by kernel_rfl) (by kernel_rfl) (by rfl) (by decide) ?_ | (refine wpZ_text 0 (v := ?_) rfl (by kernel_rfl) (by kernel_rfl) (by kernel_rfl) (by rfl) (by decide) (fun X hX W k1 => ?_) ?_; rotate_left; (obtain ⟨hX0, x0, x1, x2, x3⟩ := FX.out X hX; obtain ⟨hc1, hf1⟩ := bcellN k1; go_simp; refine comes_v ?_; exact k1))
      (try simp only [Act.put, List.setIfInBounds_toArray, List.set_cons_zero, List.set_cons_succ])
      first | refine wpZ_skip 1 rfl (by kernel_rfl) (by kernel_rfl) (by kernel_rfl) (by rfl) (by decide) ?_ | (refine wpZ_text 1 (v := ?_) rfl (by kernel_rfl) (by kernel_rfl) (by kernel_rfl) (by rfl) (by decide) (fun X hX W k1 => ?_) ?_; rotate_left; (obtain ⟨hX0, x0, x1, x2, x3⟩ := FX.out X hX; obtain ⟨hc1, hf1⟩ := bcellN k1; go_simp; refine comes_v ?_; exact k1))
      (try simp only [Act.put, List.setIfInBounds_toArray, List.set_cons_zero, List.set_cons_succ])
      first | refine wpZ_skip 2 rfl (by kernel_rfl) (by kernel_rfl) (by kernel_rfl) (by rfl) (by decide) ?_ | (refine wpZ_text 2 (v := ?_) rfl (by kernel_rfl) (by kernel_rfl) (by kernel_rfl) (by rfl) (by decide) (fun X hX W k1 => ?_) ?_; rotate_left; (obtain ⟨hX0, x0, x1, x2, x3⟩ := FX.out X hX; obtain ⟨hc1, hf1⟩ := bcellN k1; go_simp; refine comes_v ?_; exact k1))
      (try simp only [Act.put, List.setIfInBounds_toArray, List.set_cons_zero, List.set_cons_succ])
      first | refine wpZ_skip 3 rfl (by kernel_rfl) (by kernel_rfl) (by kernel_rfl) (by rfl) (by decide) ?_ | (refine wpZ_text 3 (v := .agg #[.int .i64 m1, .int .i64 m2]) rfl (by kernel_rfl) (by kernel_rfl) (by kernel_rfl) (by rfl) (by decide) (fun X hX W k1 => ?_) ?_; (obtain ⟨hX0, x0, x1, x2, x3⟩ := FX.out X hX; obtain ⟨hc1, hf1⟩ := bcellN k1; go_simp; exact comes_c ( K.out _) (fun wn hbn => k1.trans (hbn.mono (Nat.le_trans hX0 k1.size)))))
      (try simp only [Act.put, List.setIfInBounds_toArray, List.set_cons_zero, List.set_cons_succ])
      first | refine wpZ_skip 4 rfl (by kernel_rfl) (by kernel_rfl) (by kernel_rfl) (by rfl) (by decide) ?_ | (refine wpZ_text 4 (v := ?_) rfl (by kernel_rfl) (by kernel_rfl) (by kernel_rfl) (by rfl) (by decide) (fun X hX W k1 => ?_) ?_; rotate_left; (obtain ⟨hX0, x0, x1, x2, x3⟩ := FX.out X hX; obtain ⟨hc1, hf1⟩ := bcellN k1; go_simp; refine comes_v ?_; exact k1))
      (try simp only [Act.put, List.setIfInBounds_toArray, List.set_cons_zero, List.set_cons_succ])
      first | refine wpZ_skip 5 rfl (by kernel_rfl) (by kernel_rfl) (by kernel_rfl) (by rfl) (by decide) ?_ | (refine wpZ_text 5 (v := ?_) rfl (by kernel_rfl) (by kernel_rfl) (by kernel_rfl) (by rfl) (by decide) (fun X hX W k1 => ?_) ?_; rotate_left; (obtain ⟨hX0, x0, x1, x2, x3⟩ := FX.out X hX; obtain ⟨hc1, hf1⟩ := bcellN k1; go_simp; refine comes_v ?_; exact k1))
      (try simp only [Act.put, List.setIfInBounds_toArray, List.set_cons_zero, List.set_cons_succ])
      (refine wpZ_store (v := undef) rfl (by kernel_rfl) (by kernel_rfl) (by kernel_rfl) (by rfl) (fun W k1 => ?_) ?_; (obtain ⟨hc1, hf1⟩ := bcellN k1; go_simp; refine ⟨rfl, ?_⟩; rw [HW2.out]; exact below_set2 (below_set2 k1 _ _ zB) _ _ zB))
      (try simp only [Act.put, List.setIfInBounds_toArray, List.set_cons_zero, List.set_cons_succ])
      first | refine wpZ_skip 7 rfl (by kernel_rfl) (by kernel_rfl) (by kernel_rfl) (by rfl) (by decide) ?_ | (refine wpZ_text 7 (v := ?_) rfl (by kernel_rfl) (by kernel_rfl) (by kernel_rfl) (by rfl) (by decide) (fun X hX W k1 => ?_) ?_; rotate_left; (obtain ⟨hX0, x0, x1, x2, x3⟩ := FX.out X hX; obtain ⟨hc1, hf1⟩ := bcellN k1; go_simp; refine comes_v ?_; exact k1))
      (try simp only [Act.put, List.setIfInBounds_toArray, List.set_cons_zero, List.set_cons_succ])
      refine wpZ_done (by kernel_rfl) (by kernel_rfl) ?_ _
      intro W k1; obtain ⟨hc1, hf1⟩ := bcellN k1
      have B1 : Below w.heap.size w W := BW2.trans (k1.mono (by omega))
      go_wp2_with fail
      refine bodyPost_ret (v := .tuple #[.agg #[.int .i64 (p1.tdiv n), .int .i64 (m2.tdiv n)], .bool false]) (by simp [results, Try.results129, go_sem, hc1, zB, s0, s1]) rfl ⟨by simp [c1], ?_⟩
      repeat (first | with_reducible assumption | with_reducible exact Below.refl _ _ | with_reducible apply Below.drew | ((with_reducible refine Below.setCell ?_ ?_ _); rotate_left; (first | exact Nat.le_refl _ | omega | (simp <;> omega))) | ((with_reducible refine Below.alloc ?_ ?_ _); rotate_left; (first | omega | (simp <;> omega))))
    · skip
      go_enter Try.func129, Try.ntmps129
      go_wp2_with fail
      obtain ⟨W0, hW0⟩ : ∃ W0, W0 = ((w.alloc (.cells #[.int .i64 p1, .int .i64 p2] 56)).alloc (.cells #[.int .i64 0, .int .i64 0] 56)) := ⟨_, rfl⟩
      rw [← hW0]
      have yW00_0 : W0.cell? ⟨w.heap.size, 0, none⟩ = some (.int .i64 p1) := by rw [hW0]; go_simp
      have yW00_1 : W0.cell? ⟨w.heap.size, 1, none⟩ = some (.int .i64 p2) := by rw [hW0]; go_simp
      have fW00 : ∀ o, W0.frozen? ⟨w.heap.size, o, none⟩ = false := by intro o; rw [hW0]; (repeat rw [frozen?_alloc_cells]); simp [World.frozen?]
      have zW00 : w.heap.size < W0.heap.size := by rw [hW0]; simp <;> omega
      have yW01_0 : W0.cell? ⟨w.heap.size + 1, 0, none⟩ = some (.int .i64 0) := by rw [hW0]; go_simp
      have yW01_1 : W0.cell? ⟨w.heap.size + 1, 1, none⟩ = some (.int .i64 0) := by rw [hW0]; go_simp
      have fW01 : ∀ o, W0.frozen? ⟨w.heap.size + 1, o, none⟩ = false := by intro o; rw [hW0]; (repeat rw [frozen?_alloc_cells]); simp [World.frozen?]
      have zW01 : w.heap.size + 1 < W0.heap.size := by rw [hW0]; simp <;> omega
      have BW0 : Below w.heap.size w W0 := by rw [hW0]; exact (Below.alloc (Below.alloc (Below.refl _ _) (by simp <;> omega) _) (by simp <;> omega) _)
      have eW0 : Hid (W0.heap.size = w.heap.size + 2) := Lib.hid (by rw [hW0]; simp)
      clear hW0
      go_region
      obtain ⟨W1, hW1⟩ : ∃ W1, W1 = (W0.alloc (.cells #[.int .i64 (p1.tdiv n), .int .i64 (p2.tdiv n)] 56)) := ⟨_, rfl⟩
      rw [← hW1]
      have yW10_0 : W1.cell? ⟨W0.heap.size, 0, none⟩ = some (.int .i64 (p1.tdiv n)) := by rw [hW1]; go_simp
      have yW10_1 : W1.cell? ⟨W0.heap.size, 1, none⟩ = some (.int .i64 (p2.tdiv n)) := by rw [hW1]; go_simp
      have fW10 : ∀ o, W1.frozen? ⟨W0.heap.size, o, none⟩ = false := by intro o; rw [hW1]; (repeat rw [frozen?_alloc_cells]); simp [World.frozen?]
      have zW10 : W0.heap.size < W1.heap.size := by rw [hW1]; simp <;> omega
      have BW1 : Below W0.heap.size W0 W1 := by rw [hW1]; exact (Below.alloc (Below.refl _ _) (by simp <;> omega) _)
      have eW1 : Hid (W1.heap.size = W0.heap.size + 1) := Lib.hid (by rw [hW1]; simp)
      clear hW1
      obtain ⟨hcA, hfA⟩ := bcell BW1
      have zA : w.heap.size < W1.heap.size := by omega
      have zB : w.heap.size + 1 < W1.heap.size := by omega
      have r0 := (hcA _ _ zW00).trans yW00_0
      have r1 := (hcA _ _ zW00).trans yW00_1
      have r2 := (hcA _ _ zW01).trans yW01_0
      have r3 := (hcA _ _ zW01).trans yW01_1
      have r4 : ∀ o, W1.frozen? ⟨w.heap.size + 1, o, none⟩ = false := fun o => (hfA _ _ zW01).trans (fW01 o)
      clear hcA hfA
      obtain ⟨W2, hW2⟩ : ∃ W2, W2 = (W1.setCell ⟨w.heap.size + 1, 0, none⟩ (.int .i64 (p1.tdiv n))).setCell ⟨w.heap.size + 1, 1, none⟩ (.int .i64 (p2.tdiv n)) := ⟨_, rfl⟩
      have ne : w.heap.size ≠ w.heap.size + 1 := by omega
      have ne2 : W0.heap.size ≠ w.heap.size + 1 := by omega
      have FX : Hid (∀ X, (X = W1 ∨ X = W2) → W1.heap.size ≤ X.heap.size ∧ X.cell? ⟨w.heap.size, 0, none⟩ = some (.int .i64 p1) ∧ X.cell? ⟨w.heap.size, 1, none⟩ = some (.int .i64 p2) ∧ X.cell? ⟨W0.heap.size, 0, none⟩ = some (.int .i64 (p1.tdiv n)) ∧ X.cell? ⟨W0.heap.size, 1, none⟩ = some (.int .i64 (p2.tdiv n))) := Lib.hid (fun X hX => by
        rcases hX with rfl | rfl
        · exact ⟨Nat.le_refl _, r0, r1, yW10_0, yW10_1⟩
        · rw [hW2]
          have o : ∀ (bb oo : Nat), bb ≠ w.heap.size + 1 → ((W1.setCell ⟨w.heap.size + 1, 0, none⟩ (.int .i64 (p1.tdiv n))).setCell ⟨w.heap.size + 1, 1, none⟩ (.int .i64 (p2.tdiv n))).cell? ⟨bb, oo, none⟩ = W1.cell? ⟨bb, oo, none⟩ := fun bb oo hh => by
            rw [World.cell?_setCell_other _ _ _ _ (fun e => hh (by injection e with e1 e2; exact e1.symm)), World.cell?_setCell_other _ _ _ _ (fun e => hh (by injection e with e1 e2; exact e1.symm))]
          exact ⟨by simp [World.setCell], (o _ _ ne).trans r0, (o _ _ ne).trans r1, (o _ _ ne2).trans yW10_0, (o _ _ ne2).trans yW10_1⟩)
      have HW2 := Lib.hid hW2
      have BW2 : Below w.heap.size w W2 := by
        rw [hW2]
        exact Below.setCell (Below.setCell (BW0.trans (BW1.mono BW0.size)) (by simp) _) (by simp) _
      have s0 : W2.cell? ⟨w.heap.size + 1, 0, none⟩ = some (.int .i64 (p1.tdiv n)) := by
        rw [hW2, World.cell?_setCell_other _ _ _ _ (fun e => by injection e with e1 e2; cases e2), World.cell?_setCell_same _ _ _ r2]
      have s1 : W2.cell? ⟨w.heap.size + 1, 1, none⟩ = some (.int .i64 (p2.tdiv n)) := by
        rw [hW2]
        exact World.cell?_setCell_same _ _ _ (show (W1.setCell ⟨w.heap.size + 1, 0, none⟩ (.int .i64 (p1.tdiv n))).cell? ⟨w.heap.size + 1, 1, none⟩ = some (.int .i64 0) by rw [World.cell?_setCell_other _ _ _ _ (fun e => by injection e with e1 e2; cases e2)]; exact r3)
      clear hW2
      go_wp2_with fail
      refine wp_region_Z 6 W1.heap.size W1 W2 (by kernel_rfl) (by repeat (first | exact Below.refl _ _ | apply Below.drew)) ?_
      first | refine wpZ_skip 0 rfl (by kernel_rfl) (by kernel_rfl) (by kernel_rfl) (by rfl) (by decide) ?_ | (refine wpZ_text 0 (v := ?_) rfl (by kernel_rfl) (by kernel_rfl) (by kernel_rfl) (by rfl) (by decide) (fun X hX W k1 => ?_) ?_; rotate_left; (obtain ⟨hX0, x0, x1, x2, x3⟩ := FX.out X hX; obtain ⟨hc1, hf1⟩ := bcellN k1; go_simp; refine comes_v ?_; exact k1))
      (try simp only [Act.put, List.setIfInBounds_toArray, List.set_cons_zero, List.set_cons_succ])
      first | refine wpZ_skip 1 rfl (by kernel_rfl) (by kernel_rfl) (by kernel_rfl) (by rfl) (by decide) ?_ | (refine wpZ_text 1 (v := ?_) rfl (by kernel_rfl) (by kernel_rfl) (by kernel_rfl) (by rfl) (by decide) (fun X hX W k1 => ?_) ?_; rotate_left; (obtain ⟨hX0, x0, x1, x2, x3⟩ := FX.out X hX; obtain ⟨hc1, hf1⟩ := bcellN k1; go_simp; refine comes_v ?_; exact k1))
      (try simp only [Act.put, List.setIfInBounds_toArray, List.set_cons_zero, List.set_cons_succ])
      first | refine wpZ_skip 2 rfl (by kernel_rfl) (by kernel_rfl) (by kernel_rfl) (by rfl) (by decide) ?_ | (refine wpZ_text 2 (v := ?_) rfl (by kernel_rfl) (by kernel_rfl) (by kernel_rfl) (by rfl) (by decide) (fun X hX W k1 => ?_) ?_; rotate_left; (obtain ⟨hX0, x0, x1, x2, x3⟩ := FX.out X hX; obtain ⟨hc1, hf1⟩ := bcellN k1; go_simp; refine comes_v ?_; exact k1))
      (try simp only [Act.put, List.setIfInBounds_toArray, List.set_cons_zero, List.set_cons_succ])
      first | refine wpZ_skip 3 rfl (by kernel_rfl) (by kernel_rfl) (by kernel_rfl) (by rfl) (by decide) ?_ | (refine wpZ_text 3 (v := .agg #[.int .i64 m1, .int .i64 m2]) rfl (by kernel_rfl) (by kernel_rfl) (by kernel_rfl) (by rfl) (by decide) (fun X hX W k1 => ?_) ?_; (obtain ⟨hX0, x0, x1, x2, x3⟩ := FX.out X hX; obtain ⟨hc1, hf1⟩ := bcellN k1; go_simp; exact comes_c ( K.out _) (fun wn hbn => k1.trans (hbn.mono (Nat.le_trans hX0 k1.size)))))
      (try simp only [Act.put, List.setIfInBounds_toArray, List.set_cons_zero, List.set_cons_succ])
      first | refine wpZ_skip 4 rfl (by kernel_rfl) (by kernel_rfl) (by kernel_rfl) (by rfl) (by decide) ?_ | (refine wpZ_text 4 (v := ?_) rfl (by kernel_rfl) (by kernel_rfl) (by kernel_rfl) (by rfl) (by decide) (fun X hX W k1 => ?_) ?_; rotate_left; (obtain ⟨hX0, x0, x1, x2, x3⟩ := FX.out X hX; obtain ⟨hc1, hf1⟩ := bcellN k1; go_simp; refine comes_v ?_; exact k1))
      (try simp only [Act.put, List.setIfInBounds_toArray, List.set_cons_zero, List.set_cons_succ])
      first | refine wpZ_skip 5 rfl (by kernel_rfl) (by kernel_rfl) (by kernel_rfl) (by rfl) (by decide) ?_ | (refine wpZ_text 5 (v := ?_) rfl (by kernel_rfl) (by kernel_rfl) (by kernel_rfl) (by rfl) (by decide) (fun X hX W k1 => ?_) ?_; rotate_left; (obtain ⟨hX0, x0, x1, x2, x3⟩ := FX.out X hX; obtain ⟨hc1, hf1⟩ := bcellN k1; go_simp; refine comes_v ?_; exact k1))
      (try simp only [Act.put, List.setIfInBounds_toArray, List.set_cons_zero, List.set_cons_succ])
      (refine wpZ_store (v := undef) rfl (by kernel_rfl) (by kernel_rfl) (by kernel_rfl) (by rfl) (fun W k1 => ?_) ?_; (obtain ⟨hc1, hf1⟩ := bcellN k1; go_simp; refine ⟨rfl, ?_⟩; rw [HW2.out]; exact below_set2 (below_set2 k1 _ _ zB) _ _ zB))
      (try simp only [Act.put, List.setIfInBounds_toArray, List.set_cons_zero, List.set_cons_succ])
      first | refine wpZ_skip 7 rfl (by kernel_rfl) (by kernel_rfl) (by kernel_rfl) (by rfl) (by decide) ?_ | (refine wpZ_text 7 (v := ?_) rfl (by kernel_rfl) (by kernel_rfl) (by kernel_rfl) (by rfl) (by decide) (fun X hX W k1 => ?_) ?_; rotate_left; (obtain ⟨hX0, x0, x1, x2, x3⟩ := FX.out X hX; obtain ⟨hc1, hf1⟩ := bcellN k1; go_simp; refine comes_v ?_; exact k1))
      (try simp only [Act.put, List.setIfInBounds_toArray, List.set_cons_zero, List.set_cons_succ])
      refine wpZ_done (by kernel_rfl) (by kernel_rfl) ?_ _
      intro W k1; obtain ⟨hc1, hf1⟩ := bcellN k1
      have B1 : Below w.heap.size w W := BW2.trans (k1.mono (by omega))
      go_wp2_with fail
      refine bodyPost_ret (v := .tuple #[.agg #[.int .i64 (p1.tdiv n), .int .i64 (p2.tdiv n)], .bool false]) (by simp [results, Try.results129, go_sem, hc1, zB, s0, s1]) rfl ⟨by simp [c1], ?_⟩
      repeat (first | with_reducible assumption | with_reducible exact Below.refl _ _ | with_reducible apply Below.drew | ((with_reducible refine Below.setCell ?_ ?_ _); rotate_left; (first | exact Nat.le_refl _ | omega | (simp <;> omega))) | ((with_reducible refine Below.alloc ?_ ?_ _); rotate_left; (first | omega | (simp <;> omega))))
end Go.Proofs.Ytheddoinnakneaa
/- A statement that leaves the order of its first operations open, one of which makes a new block, and one of which, which looks at no memory, may also come behind the store into it: one walk, in the order of the text. -/
namespace Go.Proofs.Ytheddoinnakneaa
open Go.ChangeShapes Go.WideShapes Go.ChangeAt Go.RowKit Go.Joins
set_option linter.unusedVariables false
set_option linter.unusedSimpArgs false
set_option maxRecDepth 4000
section
variable {P : Program} {ops : Array Oper} {W0 : World}
theorem binds_any_text {e : Edge} (h : Region.binds .any e = true) : Region.binds .text e = true := by
  unfold Region.binds at *
  split at h <;> simp_all
theorem ready_text_any {j : Nat} {listed : Array Bool} (h : j ∈ Region.ready .text ops listed) : j ∈ Region.ready .any ops listed := by
  rw [mem_ready] at *
  obtain ⟨h0, o, ho, hall⟩ := h
  exact ⟨h0, o, ho, fun e he hb => hall e he (binds_any_text hb)⟩
/-- the edges that the text alone draws: only from operation n to operation m -/
structure Late (ops : Array Oper) (n m : Nat) (om on : Oper) : Prop where
  hm : ops[m]? = some om
  hn : ops[n]? = some on
  mn : m < n
  other : ∀ j o, ops[j]? = some o → j ≠ n → ∀ e ∈ o.after, Region.binds .text e = true → Region.binds .any e = true
  self : ∀ e ∈ on.after, Region.binds .text e = true → Region.binds .any e = true ∨ e.on = m
  deps : ∀ e ∈ om.after, Region.binds .text e = true → ∃ e' ∈ on.after, Region.binds .any e' = true ∧ e'.on = e.on
  free : ∀ j o, ops[j]? = some o → n ≤ j → (∀ e ∈ o.after, Region.binds .any e = true → e.on ≠ m) → om.apart ops o = true
theorem late_other {n m : Nat} {om on : Oper} (h : Late ops n m om on) {j : Nat} {listed : Array Bool} (hj : j ∈ Region.ready .any ops listed) (hne : j ≠ n) : j ∈ Region.ready .text ops listed := by
  rw [mem_ready] at *
  obtain ⟨h0, o, ho, hall⟩ := hj
  exact ⟨h0, o, ho, fun e he hb => hall e he (h.other j o ho hne e he hb)⟩
theorem late_m {n m : Nat} {om on : Oper} (h : Late ops n m om on) {listed : Array Bool} (hsz : listed.size = ops.size) (hj : n ∈ Region.ready .any ops listed) (hne : n ∉ Region.ready .text ops listed) :
    m ∈ Region.ready .text ops listed ∧ n ∈ Region.ready .text ops (listed.setIfInBounds m true) := by
  have hj0 := hj
  rw [mem_ready] at hj
  obtain ⟨h0, o, ho, hall⟩ := hj
  obtain rfl : o = on := Option.some.inj (ho.symm.trans h.hn)
  have hms : m < listed.size := by rw [hsz]; exact (Array.getElem?_eq_some_iff.1 h.hm).1
  have hun : listed.getD m false = false := by
    cases hl : listed.getD m false with
    | false => rfl
    | true =>
      refine absurd (mem_ready.2 ⟨h0, o, ho, fun e he hb => ?_⟩) hne
      rcases h.self e he hb with h1 | h1
      · exact hall e he h1
      · rw [h1]; exact hl
  refine ⟨mem_ready.2 ⟨getD_in hms hun, om, h.hm, fun e he hb => ?_⟩, mem_ready.2 ⟨?_, o, ho, fun e he hb => ?_⟩⟩
  · obtain ⟨e', h1, h2, h3⟩ := h.deps e he hb
    rw [← h3]; exact hall e' h1 h2
  · rw [getD_set_ne true (Nat.ne_of_lt h.mn)]; exact h0
  · rcases h.self e he hb with h1 | h1
    · exact getD_set_true (hall e he h1)
    · rw [h1]; simp [hms]
theorem wpAny_late {n m g : Nat} {om on : Oper} {S : World → Prop} {L : Array Bool → Act → Prop} {Q : Exit → Act → World → Prop} (hL : Late ops n m om on) (hsel : ∀ (j : Nat) (o : Oper) cs b, ops[j]? = some o → o.op ≠ .select cs b)
    (hs : Region.sinkB .text ops n = true) (hc : Region.chainB .text ops n = true) (hn : n < ops.size)
    (hpure : ∀ (a : Act) v w w', S w → Comes P S v ((execOp a.eval om).run P w) → (execOp a.eval om).run P w' = .ok (.value v) w')
    (hQ : ∀ c (a : Act) v w, Q (.panic c) (a.put om.dst v) w → Q (.panic c) a w)
    (hT : ∀ listed a, L listed a → ∀ w, S w → wpAny P .any ops Q g listed a w) :
    ∀ (f : Nat) (listed : Array Bool) (a : Act), HeadInv .text ops n listed → wpAnyS P .text ops S n L f listed a → ∀ w, S w → wpAny P .any ops Q (f + g) listed a w
  | 0, listed, a, _, h, w, hS => by rw [Nat.zero_add]; exact hT _ _ h w hS
  | f + 1, listed, a, inv, h, w, hS => by
    by_cases hnr : n ∈ Region.ready .any ops listed ∧ n ∉ Region.ready .text ops listed
    · obtain ⟨hm, hn2⟩ := late_m hL inv.size hnr.1 hnr.2
      obtain ⟨_, om', v, hom, hst, H⟩ := h.2 m hm
      obtain rfl : om' = om := Option.some.inj (hom.symm.trans hL.hm)
      have inv2 := inv.set hm hL.mn
      cases f with
      | succ f => exact absurd (H.2 n hn2).1 (Nat.lt_irrefl n)
      | zero =>
        have hy : Yields P ops om' v a := by
          rcases hst with ⟨h1, h2⟩ | h2
          · exact Or.inl ⟨h1, fun w' => hpure a v w w' hS (h2 w hS)⟩
          · exact Or.inr h2
        have := wpAny_first (Q := Q) (md := .any) hom hsel (fun c a w => hQ c a v w) g listed a w (fun j oj hj hjm hun hno => by
          rcases Nat.lt_or_ge j n with hjn | hjn
          · exact absurd hn2 (tail_waits hs hc hn inv2 _ j rfl hjn (by rw [getD_set_ne true (Ne.symm hjm)]; exact hun) n (Nat.le_refl _))
          · exact hL.free j oj hj hjn hno) (ready_text_any hm) hy (hT _ _ H w hS)
        rw [show 0 + 1 + g = g + 1 by omega]
        exact this
    · have key : ∀ j, j ∈ Region.ready .any ops listed → j ∈ Region.ready .text ops listed := fun j hj => by
        by_cases hjn : j = n
        · subst hjn
          apply Classical.byContradiction
          intro h1
          exact hnr ⟨hj, h1⟩
        · exact late_other hL hj hjn
      rw [show f + 1 + g = (f + g) + 1 by omega]
      refine ⟨fun h0 => ?_, fun j hj => ?_⟩
      · exfalso
        apply h.1
        apply List.eq_nil_iff_forall_not_mem.2
        intro j hj
        have := ready_text_any hj
        rw [h0] at this
        cases this
      · obtain ⟨hjn, oj, v, ho, hy, hk⟩ := h.2 j (key j hj)
        exact steady_op ho hy hS fun w' hS' => wpAny_late hL hsel hs hc hn hpure hQ hT f _ _ (inv.set (key j hj) hjn) hk w' hS'
theorem wpAny_alloc2 {n z m g : Nat} {oz om on : Oper} {obj : Obj} {rest : List Oper} {T : Act → Prop} {Q : Exit → Act → World → Prop} (hL : Late ops n m om on) (hsel : ∀ (j : Nat) (o : Oper) cs b, ops[j]? = some o → o.op ≠ .select cs b)
    (hs : Region.sinkB .text ops n = true) (hc : Region.chainB .text ops n = true) (hn : n < ops.size) (hz : z < n) (hnz : Region.waitsFor .any ops n z = true) (hoz : ops[z]? = some oz)
    (hap : ∀ j oj, j < n → j ≠ z → ops[j]? = some oj → oz.apart ops oj = true) (hw : ∀ a : Act, Region.wanted oz (yielded ops a.tmps) = true)
    (hal : ∀ (a : Act) W, (execOp a.eval oz).run P W = .ok (.value (.pointer (some ⟨W.heap.size, 0, none⟩))) (W.alloc obj))
    (hpure : ∀ (S : World → Prop) (a : Act) v w w', Comes P S v ((execOp a.eval om).run P w) → (execOp a.eval om).run P w' = .ok (.value v) w')
    (hQ : ∀ c (a : Act) v w, Q (.panic c) (a.put om.dst v) w → Q (.panic c) a w)
    (hrest : ∀ j, rest[j]? = ops[n + j]?) (hg : rest.length = g)
    (hT : ∀ a', T a' → ∀ W1 W, Below W0.heap.size W0 W1 → Below (W1.alloc obj).heap.size (W1.alloc obj) W → wpList P ops Q rest (a'.put oz.dst (.pointer (some ⟨W1.heap.size, 0, none⟩))) W) :
    ∀ (f : Nat) (listed : Array Bool) (a : Act), HeadInv .text ops n listed → z ∈ Region.ready .text ops listed →
      wpAnyR P .text ops W0 n (fun l' a' => (Region.seqB .text ops g n l' = true ∧ Region.seqB .any ops g n l' = true) ∧ T a') f (listed.setIfInBounds z true) a →
      ∀ W, Below W0.heap.size W0 W → wpAny P .any ops Q (f + 1 + g) listed a W := by
  have doz : ∀ (f : Nat) (listed : Array Bool) (a : Act), HeadInv .text ops n listed → z ∈ Region.ready .text ops listed →
      wpAnyR P .text ops W0 n (fun l' a' => (Region.seqB .text ops g n l' = true ∧ Region.seqB .any ops g n l' = true) ∧ T a') f (listed.setIfInBounds z true) a →
      ∀ W, Below W0.heap.size W0 W → wpOp P ops Q z (fun a' w' => wpAny P .any ops Q (f + g) (listed.setIfInBounds z true) a' w') a W := by
    intro f listed a inv hr H W hW
    refine op_gives hoz (hw _) (hal _ _) ?_
    have hzl : (listed.setIfInBounds z true).getD z true = true := by
      rcases Nat.lt_or_ge z listed.size with h' | h'
      · simp [h']
      · simp [Array.getElem?_eq_none h']
    have hWA : Below W0.heap.size W0 (W.alloc obj) := Below.alloc hW hW.size obj
    have H2 := wpAnyR_put (vz := .pointer (some ⟨W.heap.size, 0, none⟩)) hsel hap f _ _ hzl H
    have H3 := wpAnyS_of_R (S := fun w => Below (W.alloc obj).heap.size (W.alloc obj) w) (fun w hb => hWA.trans (hb.mono hWA.size)) (fun w w' h1 h2 => h1.trans (h2.mono h1.size)) f _ _ H2
    refine wpAny_late (Q := Q) (g := g) hL hsel hs hc hn (fun a v w w' _ h => hpure _ a v w w' h) hQ (fun l' a' hLL W' hW' => ?_) f _ _ (inv.set hr hz) H3 (W.alloc obj) (Below.refl _ _)
    obtain ⟨b, ⟨hB, hTb⟩, rfl⟩ := hLL
    have := wpAny_of_seq (md := .any) (Q' := Q) rest n l' _ W' hrest (by rw [hg]; exact hB.2) (hT b hTb W W' hW hW')
    rwa [hg] at this
  have nope : ∀ (listed : Array Bool), z ∈ Region.ready .text ops listed → n ∉ Region.ready .any ops listed := fun listed hr hj => by
    obtain ⟨o', ho', e, he, hb, hon⟩ := Region.waitsFor_spec hnz
    obtain ⟨_, o, ho, hall⟩ := mem_ready.1 hj
    obtain rfl : o' = o := Option.some.inj (ho'.symm.trans ho)
    have := hall e he hb
    rw [hon, getD_both (mem_ready.1 hr).1] at this
    cases this
  intro f
  induction f with
  | zero =>
    intro listed a inv hr H W hW
    rw [show 0 + 1 + g = (0 + g) + 1 by omega]
    refine ⟨fun h => (by have := ready_text_any hr; rw [h] at this; cases this), fun j hj => ?_⟩
    by_cases hjz : j = z
    · subst hjz; exact doz 0 listed a inv hr H W hW
    · have hjt := late_other hL hj (fun e => nope listed hr (e ▸ hj))
      have h1 := seqB_ready H.1.1 j (ready_mono hjt hjz)
      exact absurd hjt (tail_waits hs hc hn inv _ z rfl hz (mem_ready.1 hr).1 j h1)
  | succ f ih =>
    intro listed a inv hr H W hW
    rw [show f + 1 + 1 + g = (f + 1 + g) + 1 by omega]
    refine ⟨fun h => (by have := ready_text_any hr; rw [h] at this; cases this), fun j hj => ?_⟩
    by_cases hjz : j = z
    · subst hjz; exact doz (f + 1) listed a inv hr H W hW
    · have hjt := late_other hL hj (fun e => nope listed hr (e ▸ hj))
      obtain ⟨hjn, oj, u, hoj, hsj, Hj⟩ := H.2 j (ready_mono hjt hjz)
      have hst : Steady P ops (fun w => Below W0.heap.size W0 w) oj u a := steady_of_R hsj (fun w h => h) (fun w w' h1 h2 => h1.trans (h2.mono h1.size))
      refine steady_op hoj hst hW fun w' hS' => ?_
      refine ih (listed.setIfInBounds j true) (a.put oj.dst u) (inv.set hjt hjn) (ready_mono hr (Ne.symm hjz)) ?_ w' hS'
      rw [Array.setIfInBounds_comm _ _ hjz]
      exact Hj
def lexT (ops : Array Oper) (g n : Nat) : Nat → Nat → Array Bool → Bool
  | 0, _, listed => Region.seqB .text ops g n listed && Region.seqB .any ops g n listed
  | m + 1, k, listed => (Region.ready .text ops listed).contains k && Region.free .text ops listed k && lexT ops g n m (k + 1) (listed.setIfInBounds k true)
theorem wpAnyR_lexT {n g : Nat} {T : Act → Prop} (hsel : Region.noSelect ops = true) (hs : Region.sinkB .text ops n = true) (hc : Region.chainB .text ops n = true) (hn : n < ops.size) :
    ∀ (l : List Oper) (k : Nat) (listed : Array Bool) (a : Act), (∀ j, j < l.length → l[j]? = ops[k + j]?) → k + l.length < n → HeadInv .text ops n listed →
    lexT ops g n l.length k listed = true → wpHR P ops W0 T l a →
    wpAnyR P .text ops W0 n (fun listed' a' => (Region.seqB .text ops g n listed' = true ∧ Region.seqB .any ops g n listed' = true) ∧ T a') l.length listed a
  | [], k, listed, a, _, _, _, hB, h => by simp only [List.length_nil, lexT, Bool.and_eq_true] at hB; exact ⟨hB, h⟩
  | o :: l, k, listed, a, hl, hk, inv, hB, h => by
    have h0 : ops[k]? = some o := by simpa using (hl 0 (by simp)).symm
    simp only [List.length_cons, lexT, Bool.and_eq_true] at hB
    obtain ⟨⟨hr, hf⟩, hB'⟩ := hB
    have hkn : k < n := by simp only [List.length_cons] at hk; omega
    have hr' : k ∈ Region.ready .text ops listed := by simpa using hr
    obtain ⟨v, hy, hK⟩ := h
    exact wpAnyR_first h0 (Region.noSelect_spec hsel) hs hc hn hkn (fun listed' a' hL => seqB_ready hL.1.1) l.length listed a inv (Region.free_spec h0 hf) hr' hy
      (wpAnyR_lexT hsel hs hc hn l (k + 1) _ _ (fun j hj => by have := hl (j + 1) (by simp; omega); simpa [Nat.add_assoc, Nat.add_comm 1 j] using this) (by simp only [List.length_cons] at hk; omega) (inv.set hr' hkn) hB' hK)
def lateB (ops : Array Oper) (n m : Nat) : Bool :=
  match ops[m]?, ops[n]? with
  | some om, some on =>
    decide (m < n) && ((List.range ops.size).all fun j => decide (j = n) || (match ops[j]? with | some o => o.after.all fun e => !Region.binds .text e || Region.binds .any e | none => true)) &&
      (on.after.all fun e => !Region.binds .text e || Region.binds .any e || decide (e.on = m)) &&
      (om.after.all fun e => !Region.binds .text e || on.after.any fun e' => Region.binds .any e' && decide (e'.on = e.on)) &&
      ((List.range ops.size).all fun j => decide (j < n) || (match ops[j]? with | some o => (o.after.any fun e => Region.binds .any e && decide (e.on = m)) || om.apart ops o | none => true))
  | _, _ => false
theorem late_of {n m : Nat} {om on : Oper} (hm : ops[m]? = some om) (hn : ops[n]? = some on) (h : lateB ops n m = true) : Late ops n m om on := by
  unfold lateB at h
  simp only [hm, hn, Bool.and_eq_true, decide_eq_true_eq] at h
  obtain ⟨⟨⟨⟨h1, h2⟩, h3⟩, h4⟩, h5⟩ := h
  refine ⟨hm, hn, h1, fun j o ho hj e he hb => ?_, fun e he hb => ?_, fun e he hb => ?_, fun j o ho hj hno => ?_⟩
  · have := List.all_eq_true.1 h2 j (List.mem_range.2 (Array.getElem?_eq_some_iff.1 ho).1)
    simp only [ho, hj, decide_false, Bool.false_or] at this
    have := Array.all_eq_true'.1 this e he
    simpa [hb] using this
  · have := Array.all_eq_true'.1 h3 e he
    simpa [hb] using this
  · have := Array.all_eq_true'.1 h4 e he
    simp only [hb, Bool.not_true, Bool.false_or] at this
    obtain ⟨e', he', h6⟩ := Array.any_eq_true'.1 this
    simp only [Bool.and_eq_true, decide_eq_true_eq] at h6
    exact ⟨e', he', h6⟩
  · have := List.all_eq_true.1 h5 j (List.mem_range.2 (Array.getElem?_eq_some_iff.1 ho).1)
    simp only [ho, show ¬ j < n by omega, decide_false, Bool.false_or, Bool.or_eq_true] at this
    rcases this with h6 | h6
    · obtain ⟨e', he', h7⟩ := Array.any_eq_true'.1 h6
      simp only [Bool.and_eq_true, decide_eq_true_eq] at h7
      exact absurd h7.2 (hno e' he' h7.1)
    · exact h6
def lexMB (ops : Array Oper) (z m : Nat) : Bool :=
  Region.noSelect ops && decide (z + 1 < ops.size) && Region.sinkB .text ops (z + 1) && Region.chainB .text ops (z + 1) && (Region.ready .text ops (Array.replicate ops.size false)).contains z &&
    ((List.range z).all fun j => match ops[z]?, ops[j]? with | some oz, some oj => oz.apart ops oj | _, _ => false) &&
    lexT ops (ops.size - (z + 1)) (z + 1) z 0 ((Array.replicate ops.size false).setIfInBounds z true) && Region.waitsFor .any ops (z + 1) z && lateB ops (z + 1) m
theorem wp_region_AM {id : Nat} {Q : Exit → Act → World → Prop} {a : Act} {w : World} {l : List Oper} (z m : Nat) {oz om on : Oper} {rest tl : List Oper} {obj : Obj} (W0 : World) (hm : P.follows .mixedOrders = true) (hB : lexMB l.toArray z m = true)
    (hS : Below W0.heap.size W0 w.drew) (hlz : l.drop z = oz :: on :: rest) (hlm : l.drop m = om :: tl) (hw : ∀ a, Region.wanted oz (yielded l.toArray a) = true)
    (hal : ∀ (a : Act) W, (execOp a.eval oz).run P W = .ok (.value (.pointer (some ⟨W.heap.size, 0, none⟩))) (W.alloc obj))
    (hpure : ∀ (S : World → Prop) (a : Act) v w w', Comes P S v ((execOp a.eval om).run P w) → (execOp a.eval om).run P w' = .ok (.value v) w')
    (hQ : ∀ c (a : Act) v w, Q (.panic c) (a.put om.dst v) w → Q (.panic c) a w)
    (h : wpHR P l.toArray W0 (fun a' => ∀ W1 W, Below W0.heap.size W0 W1 → Below (W1.alloc obj).heap.size (W1.alloc obj) W → wpList P l.toArray Q (on :: rest) (a'.put oz.dst (.pointer (some ⟨W1.heap.size, 0, none⟩))) W) (l.take z) a) :
    (Code.region id l.toArray true).wp P Q a w := by
  simp only [lexMB, Bool.and_eq_true, decide_eq_true_eq] at hB
  obtain ⟨⟨⟨⟨⟨⟨⟨⟨hsel, hn⟩, hs⟩, hc⟩, hr0⟩, hap⟩, hlex⟩, hnz⟩, hlate⟩ := hB
  have hn' : z + 1 < l.length := by simpa using hn
  have hoz : l.toArray[z]? = some oz := by
    have h0 : (l.drop z)[0]? = some oz := by rw [hlz]; rfl
    simpa [List.getElem?_drop] using h0
  have hom : l.toArray[m]? = some om := by
    have h0 : (l.drop m)[0]? = some om := by rw [hlm]; rfl
    simpa [List.getElem?_drop] using h0
  have hrest : ∀ j, (on :: rest)[j]? = l.toArray[z + 1 + j]? := fun j => by
    have h0 : (l.drop z)[j + 1]? = (on :: rest)[j]? := by rw [hlz]; rfl
    rw [← h0]
    simp [List.getElem?_drop]
    congr 1
    omega
  have hon : l.toArray[z + 1]? = some on := by have := hrest 0; simpa using this.symm
  have hrl : (on :: rest).length = l.toArray.size - (z + 1) := by
    have := congrArg List.length hlz
    simp at this ⊢
    omega
  have htl : (l.take z).length = z := by simp; omega
  have inv0 : HeadInv .text l.toArray (z + 1) (Array.replicate l.toArray.size false) :=
    ⟨by simp, fun j oj _ hl => (by rw [getD_replicate_false] at hl; cases hl), fun t _ ht => getD_in (by simpa using ht) (getD_replicate_false _ _)⟩
  have hr0' : z ∈ Region.ready .text l.toArray (Array.replicate l.toArray.size false) := by simpa using hr0
  have H := wpAnyR_lexT (g := l.toArray.size - (z + 1)) hsel hs hc hn (l.take z) 0 _ a (fun j hj => by
    have hj' : j < z := by rw [htl] at hj; exact hj
    simp [List.getElem?_take, hj']) (by rw [htl]; omega) (inv0.set hr0' (by omega)) (by rw [htl]; exact hlex) h
  refine wp_region_any hm ?_
  have hap' : ∀ j oj, j < z + 1 → j ≠ z → l.toArray[j]? = some oj → oz.apart l.toArray oj = true := fun j oj hj hjz hoj => by
    have h1 := List.all_eq_true.1 hap j (List.mem_range.2 (by omega))
    simpa only [hoz, hoj] using h1
  have := wpAny_alloc2 (Q := Q) (g := l.toArray.size - (z + 1)) (rest := on :: rest) (late_of hom hon hlate) (Region.noSelect_spec hsel) hs hc hn (by omega) hnz hoz hap' (fun a => hw a.tmps) hal hpure hQ hrest hrl (fun a' hT => hT) (l.take z).length _ a inv0 hr0' H w.drew hS
  rw [htl, show z + 1 + (l.toArray.size - (z + 1)) = l.toArray.size by omega] at this
  exact this
theorem wpAnyS_lexT {S : World → Prop} {n g : Nat} {T : Act → Prop} (hsel : Region.noSelect ops = true) (hs : Region.sinkB .text ops n = true) (hc : Region.chainB .text ops n = true) (hn : n < ops.size) :
    ∀ (l : List Oper) (k : Nat) (listed : Array Bool) (a : Act), (∀ j, j < l.length → l[j]? = ops[k + j]?) → k + l.length = n → HeadInv .text ops n listed →
    lexT ops g n l.length k listed = true → wpH P ops S T l a →
    wpAnyS P .text ops S n (fun listed' a' => (Region.seqB .text ops g n listed' = true ∧ Region.seqB .any ops g n listed' = true) ∧ T a') l.length listed a
  | [], k, listed, a, _, _, _, hB, h => by simp only [List.length_nil, lexT, Bool.and_eq_true] at hB; exact ⟨hB, h⟩
  | o :: l, k, listed, a, hl, hk, inv, hB, h => by
    have h0 : ops[k]? = some o := by simpa using (hl 0 (by simp)).symm
    simp only [List.length_cons, lexT, Bool.and_eq_true] at hB
    obtain ⟨⟨hr, hf⟩, hB'⟩ := hB
    have hkn : k < n := by simp only [List.length_cons] at hk; omega
    have hr' : k ∈ Region.ready .text ops listed := by simpa using hr
    obtain ⟨v, hy, hK⟩ := h
    exact wpAnyS_first h0 (Region.noSelect_spec hsel) hs hc hn hkn (fun listed' a' hL => seqB_ready hL.1.1) l.length listed a inv (Region.free_spec h0 hf) hr' hy
      (wpAnyS_lexT hsel hs hc hn l (k + 1) _ _ (fun j hj => by have := hl (j + 1) (by simp; omega); simpa [Nat.add_assoc, Nat.add_comm 1 j] using this) (by simp only [List.length_cons] at hk; omega) (inv.set hr' hkn) hB' hK)
def lexBMB (ops : Array Oper) (n m : Nat) : Bool :=
  Region.noSelect ops && decide (n < ops.size) && Region.sinkB .text ops n && Region.chainB .text ops n && lexT ops (ops.size - n) n n 0 (Array.replicate ops.size false) && lateB ops n m
theorem wp_region_BM {id : Nat} {Q : Exit → Act → World → Prop} {a : Act} {w : World} {l : List Oper} (n m : Nat) {om on : Oper} {rest tl : List Oper} (S : World → Prop) (hm : P.follows .mixedOrders = true) (hB : lexBMB l.toArray n m = true)
    (hS : S w.drew) (hln : l.drop n = on :: rest) (hlm : l.drop m = om :: tl)
    (hpure : ∀ (S : World → Prop) (a : Act) v w w', Comes P S v ((execOp a.eval om).run P w) → (execOp a.eval om).run P w' = .ok (.value v) w')
    (hQ : ∀ c (a : Act) v w, Q (.panic c) (a.put om.dst v) w → Q (.panic c) a w)
    (h : wpH P l.toArray S (fun a' => ∀ W, S W → wpList P l.toArray Q (l.drop n) a' W) (l.take n) a) : (Code.region id l.toArray true).wp P Q a w := by
  simp only [lexBMB, Bool.and_eq_true, decide_eq_true_eq] at hB
  obtain ⟨⟨⟨⟨⟨hsel, hn⟩, hs⟩, hc⟩, hlex⟩, hlate⟩ := hB
  have hn' : n < l.length := by simpa using hn
  have hom : l.toArray[m]? = some om := by
    have h0 : (l.drop m)[0]? = some om := by rw [hlm]; rfl
    simpa [List.getElem?_drop] using h0
  have hon : l.toArray[n]? = some on := by
    have h0 : (l.drop n)[0]? = some on := by rw [hln]; rfl
    simpa [List.getElem?_drop] using h0
  have htl : (l.take n).length = n := by simp; omega
  have hdl : (l.drop n).length = l.toArray.size - n := by simp
  have inv0 : HeadInv .text l.toArray n (Array.replicate l.toArray.size false) :=
    ⟨by simp, fun j oj _ hl => (by rw [getD_replicate_false] at hl; cases hl), fun t _ ht => getD_in (by simpa using ht) (getD_replicate_false _ _)⟩
  have H := wpAnyS_lexT (g := l.toArray.size - n) hsel hs hc hn (l.take n) 0 _ a (fun j hj => by
    have hj' : j < n := by rw [htl] at hj; exact hj
    simp [List.getElem?_take, hj']) (by rw [htl]; omega) inv0 (by rw [htl]; exact hlex) h
  refine wp_region_any hm ?_
  have := wpAny_late (Q := Q) (g := l.toArray.size - n) (late_of hom hon hlate) (Region.noSelect_spec hsel) hs hc hn (fun a v w w' _ h => hpure _ a v w w' h) hQ (fun l' a' hLL W' hW' => by
    have := wpAny_of_seq (md := .any) (Q' := Q) (l.drop n) n l' _ W' (fun j => by simp [List.getElem?_drop]) (by rw [hdl]; exact hLL.1.2) (hLL.2 W' hW')
    rwa [hdl] at this) (l.take n).length _ a inv0 H w.drew hS
  rw [htl, show n + (l.toArray.size - n) = l.toArray.size by omega] at this
  exact this
theorem extract_pure {P : Program} {S : World → Prop} {o : Oper} {x : Operand} {i : Nat} (ho : o.op = .extract x i) {a : Act} {v : Value} {w w' : World} (h : Comes P S v ((execOp a.eval o).run P w)) : (execOp a.eval o).run P w' = .ok (.value v) w' := by
  unfold execOp at *
  rw [ho] at *
  simp only [] at *
  generalize a.eval x = y at *
  cases y with
  | tuple vs =>
    simp [go_sem] at h ⊢
    cases hv : vs[i]? with
    | none => rw [hv] at h; simp [go_sem, stuck, Comes] at h
    | some u =>
      rw [hv] at h
      simp [go_sem, Comes] at h ⊢
      exact h.1
  | _ => simp [go_sem, stuck, Comes] at h
end
end Go.Proofs.Ytheddoinnakneaa
/- A statement that leaves the order of its first operations open, two of which make a new block each, and some of which, which look at no memory, may also come behind the stores into them: one walk, in the order of the text. -/
namespace Go.Proofs.Ytheddoinnakneaa
open Go.ChangeShapes Go.WideShapes Go.ChangeAt Go.RowKit Go.Joins
set_option linter.unusedVariables false
set_option linter.unusedSimpArgs false
set_option maxRecDepth 4000
section
variable {P : Program} {ops : Array Oper} {W0 : World}
/-- an operation that is waited for through others -/
def ThruT (ops : Array Oper) (x y : Nat) : Prop := ∃ ox, ops[x]? = some ox ∧ ∃ e ∈ ox.after, Region.binds .text e = true ∧ e.on = y
def Thru (ops : Array Oper) (o : Oper) (y : Nat) : Prop := ∃ e ∈ o.after, Region.binds .any e = true ∧ (e.on = y ∨ ThruT ops e.on y ∨ ∃ z, ThruT ops e.on z ∧ ThruT ops z y)
theorem thruT_listed {listed : Array Bool} {x y : Nat} (hc : ∀ (j : Nat) oj, ops[j]? = some oj → listed.getD j false = true → ∀ e ∈ oj.after, Region.binds .text e = true → listed.getD e.on false = true) (h : ThruT ops x y) (hx : listed.getD x false = true) : listed.getD y false = true := by
  obtain ⟨ox, h1, e, h2, h3, rfl⟩ := h
  exact hc x ox h1 hx e h2 h3
theorem thru_listed {listed : Array Bool} {o : Oper} {y : Nat} (hc : ∀ (j : Nat) oj, ops[j]? = some oj → listed.getD j false = true → ∀ e ∈ oj.after, Region.binds .text e = true → listed.getD e.on false = true) (h : Thru ops o y) (hx : ∀ e ∈ o.after, Region.binds .any e = true → listed.getD e.on false = true) : listed.getD y false = true := by
  obtain ⟨e, h1, h2, h3⟩ := h
  have h4 := hx e h1 h2
  rcases h3 with rfl | h3 | ⟨z, h3, h5⟩
  · exact h4
  · exact thruT_listed hc h3 h4
  · exact thruT_listed hc h5 (thruT_listed hc h3 h4)
def thruTB (ops : Array Oper) (x y : Nat) : Bool := match ops[x]? with | some ox => ox.after.any fun e => Region.binds .text e && decide (e.on = y) | none => false
def thruB (ops : Array Oper) (o : Oper) (y : Nat) : Bool := o.after.any fun e => Region.binds .any e && (decide (e.on = y) || thruTB ops e.on y || (List.range ops.size).any fun z => thruTB ops e.on z && thruTB ops z y)
theorem thruT_of {x y : Nat} (h : thruTB ops x y = true) : ThruT ops x y := by
  unfold thruTB at h
  split at h
  · rename_i ox hox
    obtain ⟨e, he, h1⟩ := Array.any_eq_true'.1 h
    simp only [Bool.and_eq_true, decide_eq_true_eq] at h1
    exact ⟨ox, hox, e, he, h1.1, h1.2⟩
  · cases h
theorem thru_of {o : Oper} {y : Nat} (h : thruB ops o y = true) : Thru ops o y := by
  unfold thruB at h
  obtain ⟨e, he, h1⟩ := Array.any_eq_true'.1 h
  simp only [Bool.and_eq_true, Bool.or_eq_true, decide_eq_true_eq] at h1
  refine ⟨e, he, h1.1, ?_⟩
  rcases h1.2 with (h2 | h2) | h2
  · exact Or.inl h2
  · exact Or.inr (Or.inl (thruT_of h2))
  · obtain ⟨z, _, h3⟩ := List.any_eq_true.1 h2
    simp only [Bool.and_eq_true] at h3
    exact Or.inr (Or.inr ⟨z, thruT_of h3.1, thruT_of h3.2⟩)
/-- the edges that the text alone draws come from operations that look at no memory, and that may be moved ahead -/
structure LateG (ops : Array Oper) (M : List Nat) : Prop where
  edge : ∀ (j : Nat) o, ops[j]? = some o → ∀ e ∈ o.after, Region.binds .text e = true → Region.binds .any e = true ∨ Thru ops o e.on ∨ (e.on ∈ M ∧ ∃ om, ops[e.on]? = some om ∧ ∀ e' ∈ om.after, Region.binds .text e' = true → ∃ e'' ∈ o.after, Region.binds .any e'' = true ∧ e''.on = e'.on)
  free : ∀ m ∈ M, ∀ om, ops[m]? = some om → ∀ (j : Nat) o, ops[j]? = some o → j ≠ m → (∀ e ∈ o.after, Region.binds .any e = true → e.on ≠ m) → om.apart ops o = true
theorem late_some {M : List Nat} (h : LateG ops M) {j : Nat} {listed : Array Bool} (hcl : ∀ (j : Nat) oj, ops[j]? = some oj → listed.getD j false = true → ∀ e ∈ oj.after, Region.binds .text e = true → listed.getD e.on false = true) (hsz : listed.size = ops.size) (hj : j ∈ Region.ready .any ops listed) (hne : j ∉ Region.ready .text ops listed) :
    ∃ m om, m ∈ M ∧ ops[m]? = some om ∧ m ∈ Region.ready .text ops listed := by
  apply Classical.byContradiction
  intro hno
  apply hne
  rw [mem_ready] at hj
  obtain ⟨h0, o, ho, hall⟩ := hj
  refine mem_ready.2 ⟨h0, o, ho, fun e he hb => ?_⟩
  rcases h.edge j o ho e he hb with h1 | h1 | ⟨hM, om, hom, hd⟩
  · exact hall e he h1
  · exact thru_listed hcl h1 hall
  · cases hl : listed.getD e.on false with
    | true => rfl
    | false =>
      exfalso
      refine hno ⟨e.on, om, hM, hom, mem_ready.2 ⟨getD_in (by rw [hsz]; exact (Array.getElem?_eq_some_iff.1 hom).1) hl, om, hom, fun e' he' hb' => ?_⟩⟩
      obtain ⟨e'', h1, h2, h3⟩ := hd e' he' hb'
      rw [← h3]
      exact hall e'' h1 h2
def PureM (P : Program) (ops : Array Oper) (M : List Nat) : Prop := ∀ m ∈ M, ∀ om, ops[m]? = some om → ∀ (S : World → Prop) (a : Act) v w w', Comes P S v ((execOp a.eval om).run P w) → (execOp a.eval om).run P w' = .ok (.value v) w'
theorem wpAny_lateG {n g : Nat} {M : List Nat} {S : World → Prop} {L : Array Bool → Act → Prop} {Q : Exit → Act → World → Prop} (hL : LateG ops M) (hMn : ∀ m ∈ M, m < n) (hsel : ∀ (j : Nat) (o : Oper) cs b, ops[j]? = some o → o.op ≠ .select cs b)
    (hpure : PureM P ops M) (hQ : ∀ (om : Oper) c (a : Act) v w, Q (.panic c) (a.put om.dst v) w → Q (.panic c) a w)
    (hT : ∀ listed a, L listed a → ∀ w, S w → wpAny P .any ops Q g listed a w) :
    ∀ (f : Nat) (listed : Array Bool) (a : Act), HeadInv .text ops n listed → wpAnyS P .text ops S n L f listed a → ∀ w, S w → wpAny P .any ops Q (f + g) listed a w
  | 0, listed, a, _, h, w, hS => by rw [Nat.zero_add]; exact hT _ _ h w hS
  | f + 1, listed, a, inv, h, w, hS => by
    by_cases hx : ∃ j, j ∈ Region.ready .any ops listed ∧ j ∉ Region.ready .text ops listed
    · obtain ⟨j, hj, hjt⟩ := hx
      obtain ⟨m, om, hM, hom, hm⟩ := late_some hL inv.closed inv.size hj hjt
      obtain ⟨_, om', v, hom', hst, H⟩ := h.2 m hm
      obtain rfl : om' = om := Option.some.inj (hom'.symm.trans hom)
      have hy : Yields P ops om' v a := by
        rcases hst with ⟨h1, h2⟩ | h2
        · exact Or.inl ⟨h1, fun w' => hpure m hM om' hom S a v w w' (h2 w hS)⟩
        · exact Or.inr h2
      have IH := wpAny_lateG hL hMn hsel hpure hQ hT f _ _ (inv.set hm (hMn m hM)) H w hS
      have := wpAny_first (Q := Q) (md := .any) hom hsel (fun c a w => hQ om' c a v w) (f + g) listed a w (fun j oj hj hjm hun hno => hL.free m hM om' hom j oj hj hjm hno) (ready_text_any hm) hy IH
      rw [show f + 1 + g = f + g + 1 by omega]
      exact this
    · have key : ∀ j, j ∈ Region.ready .any ops listed → j ∈ Region.ready .text ops listed := fun j hj => by
        apply Classical.byContradiction
        intro h1
        exact hx ⟨j, hj, h1⟩
      rw [show f + 1 + g = (f + g) + 1 by omega]
      refine ⟨fun h0 => ?_, fun j hj => ?_⟩
      · exfalso
        apply h.1
        apply List.eq_nil_iff_forall_not_mem.2
        intro j hj
        have := ready_text_any hj
        rw [h0] at this
        cases this
      · obtain ⟨hjn, oj, v, ho, hy, hk⟩ := h.2 j (key j hj)
        exact steady_op ho hy hS fun w' hS' => wpAny_lateG hL hMn hsel hpure hQ hT f _ _ (inv.set (key j hj) hjn) hk w' hS'
theorem wpAnyR_mono {md : Region.Mode} {n : Nat} {L L' : Array Bool → Act → Prop} (hl : ∀ l a, L l a → L' l a) : ∀ (f : Nat) (listed : Array Bool) (a : Act), wpAnyR P md ops W0 n L f listed a → wpAnyR P md ops W0 n L' f listed a
  | 0, _, _, h => hl _ _ h
  | f + 1, listed, a, h => ⟨h.1, fun i hi => by
      obtain ⟨h1, oi, v, ho, hy, hn⟩ := h.2 i hi
      exact ⟨h1, oi, v, ho, hy, wpAnyR_mono hl f _ _ hn⟩⟩
theorem steadyR_base {W1 : World} {o : Oper} {v : Value} {a : Act} (h : SteadyR P ops W0 o v a) (hb : Below W0.heap.size W0 W1) : SteadyR P ops W1 o v a := by
  rcases h with ⟨h1, h2⟩ | h
  · exact Or.inl ⟨h1, fun w hw => h2 w (hb.trans (hw.mono hb.size))⟩
  · exact Or.inr h
theorem wpAnyR_base {md : Region.Mode} {W1 : World} {n : Nat} {L : Array Bool → Act → Prop} (hb : Below W0.heap.size W0 W1) : ∀ (f : Nat) (listed : Array Bool) (a : Act), wpAnyR P md ops W0 n L f listed a → wpAnyR P md ops W1 n L f listed a
  | 0, _, _, h => h
  | f + 1, listed, a, h => ⟨h.1, fun i hi => by
      obtain ⟨h1, oi, v, ho, hy, hn⟩ := h.2 i hi
      exact ⟨h1, oi, v, ho, steadyR_base hy hb, wpAnyR_base hb f _ _ hn⟩⟩
/-- an operation that makes a block -/
structure MakesBlock (P : Program) (ops : Array Oper) (n z : Nat) (oz : Oper) (obj : Obj) : Prop where
  lt : z < n
  at_ : ops[z]? = some oz
  ap : ∀ j oj, j < n → j ≠ z → ops[j]? = some oj → oz.apart ops oj = true
  wanted : ∀ a : Act, Region.wanted oz (yielded ops a.tmps) = true
  gives : ∀ (a : Act) W, (execOp a.eval oz).run P W = .ok (.value (.pointer (some ⟨W.heap.size, 0, none⟩))) (W.alloc obj)
theorem set_get {listed : Array Bool} (z : Nat) : (listed.setIfInBounds z true).getD z true = true := by
  rcases Nat.lt_or_ge z listed.size with h' | h'
  · simp [h']
  · simp [Array.getElem?_eq_none h']
def EndT (ops : Array Oper) (g n : Nat) (T : Act → Prop) (l : Array Bool) (a : Act) : Prop := (Region.seqB .text ops g n l = true ∧ Region.seqB .any ops g n l = true) ∧ T a
theorem wpAny_one {n z g : Nat} {M : List Nat} {oz : Oper} {obj : Obj} {rest : List Oper} {T : Act → Prop} {Q : Exit → Act → World → Prop} (hL : LateG ops M) (hMn : ∀ m ∈ M, m < n) (hsel : ∀ (j : Nat) (o : Oper) cs b, ops[j]? = some o → o.op ≠ .select cs b)
    (hs : Region.sinkB .text ops n = true) (hc : Region.chainB .text ops n = true) (hn : n < ops.size) (hz : MakesBlock P ops n z oz obj) (hzM : z ∉ M)
    (hpure : PureM P ops M) (hQ : ∀ (om : Oper) c (a : Act) v w, Q (.panic c) (a.put om.dst v) w → Q (.panic c) a w)
    (hrest : ∀ j, rest[j]? = ops[n + j]?) (hg : rest.length = g) :
    ∀ (f : Nat) (W0 : World) (listed : Array Bool) (a : Act), HeadInv .text ops n listed → z ∈ Region.ready .text ops listed →
      (∀ a', T a' → ∀ W1 W, Below W0.heap.size W0 W1 → Below (W1.alloc obj).heap.size (W1.alloc obj) W → wpList P ops Q rest (a'.put oz.dst (.pointer (some ⟨W1.heap.size, 0, none⟩))) W) →
      wpAnyR P .text ops W0 n (EndT ops g n T) f (listed.setIfInBounds z true) a →
      ∀ W, Below W0.heap.size W0 W → wpAny P .any ops Q (f + 1 + g) listed a W := by
  have doz : ∀ (f : Nat) (W0 : World) (listed : Array Bool) (a : Act), HeadInv .text ops n listed → z ∈ Region.ready .text ops listed →
      (∀ a', T a' → ∀ W1 W, Below W0.heap.size W0 W1 → Below (W1.alloc obj).heap.size (W1.alloc obj) W → wpList P ops Q rest (a'.put oz.dst (.pointer (some ⟨W1.heap.size, 0, none⟩))) W) →
      wpAnyR P .text ops W0 n (EndT ops g n T) f (listed.setIfInBounds z true) a →
      ∀ W, Below W0.heap.size W0 W → wpOp P ops Q z (fun a' w' => wpAny P .any ops Q (f + g) (listed.setIfInBounds z true) a' w') a W := by
    intro f W0 listed a inv hr hT H W hW
    refine op_gives hz.at_ (hz.wanted _) (hz.gives _ _) ?_
    have hWA : Below W0.heap.size W0 (W.alloc obj) := Below.alloc hW hW.size obj
    have H2 := wpAnyR_put (vz := .pointer (some ⟨W.heap.size, 0, none⟩)) hsel hz.ap f _ _ (set_get z) H
    have H3 := wpAnyS_of_R (S := fun w => Below (W.alloc obj).heap.size (W.alloc obj) w) (fun w hb => hWA.trans (hb.mono hWA.size)) (fun w w' h1 h2 => h1.trans (h2.mono h1.size)) f _ _ H2
    refine wpAny_lateG (Q := Q) (g := g) hL hMn hsel hpure hQ (fun l' a' hLL W' hW' => ?_) f _ _ (inv.set hr hz.lt) H3 (W.alloc obj) (Below.refl _ _)
    obtain ⟨b, ⟨hB, hTb⟩, rfl⟩ := hLL
    have := wpAny_of_seq (md := .any) (Q' := Q) rest n l' _ W' hrest (by rw [hg]; exact hB.2) (hT b hTb W W' hW hW')
    rwa [hg] at this
  intro f
  induction f with
  | zero =>
    intro W0 listed a inv hr hT H W hW
    rw [show 0 + 1 + g = (0 + g) + 1 by omega]
    refine ⟨fun h => (by have := ready_text_any hr; rw [h] at this; cases this), fun j hj => ?_⟩
    by_cases hjz : j = z
    · subst hjz; exact doz 0 W0 listed a inv hr hT H W hW
    · exfalso
      have hjt : ∃ j, j ∈ Region.ready .text ops listed ∧ j ≠ z := by
        by_cases h : j ∈ Region.ready .text ops listed
        · exact ⟨j, h, hjz⟩
        · obtain ⟨m, om, hM, _, hm⟩ := late_some hL inv.closed inv.size hj h
          exact ⟨m, hm, fun e => hzM (e ▸ hM)⟩
      obtain ⟨j', hj', hne⟩ := hjt
      have h1 := seqB_ready H.1.1 j' (ready_mono hj' hne)
      exact absurd hj' (tail_waits hs hc hn inv _ z rfl hz.lt (mem_ready.1 hr).1 j' h1)
  | succ f ih =>
    intro W0 listed a inv hr hT H W hW
    rw [show f + 1 + 1 + g = (f + 1 + g) + 1 by omega]
    by_cases hx : ∃ j, j ∈ Region.ready .any ops listed ∧ j ∉ Region.ready .text ops listed
    · obtain ⟨j, hj, hjt⟩ := hx
      obtain ⟨m, om, hM, hom, hm⟩ := late_some hL inv.closed inv.size hj hjt
      have hmz : m ≠ z := fun e => hzM (e ▸ hM)
      obtain ⟨_, om', v, hom', hst, H'⟩ := H.2 m (ready_mono hm hmz)
      obtain rfl : om' = om := Option.some.inj (hom'.symm.trans hom)
      have hy : Yields P ops om' v a := by
        rcases hst with ⟨h1, h2⟩ | h2
        · exact Or.inl ⟨h1, fun w' => hpure m hM om' hom _ a v W w' (h2 W hW)⟩
        · exact Or.inr h2
      rw [Array.setIfInBounds_comm _ _ (Ne.symm hmz)] at H'
      have IH := ih W0 (listed.setIfInBounds m true) (a.put om'.dst v) (inv.set hm (hMn m hM)) (ready_mono hr (Ne.symm hmz)) hT H' W hW
      exact wpAny_first (Q := Q) (md := .any) hom hsel (fun c a w => hQ om' c a v w) (f + 1 + g) listed a W (fun j oj hj hjm hun hno => hL.free m hM om' hom j oj hj hjm hno) (ready_text_any hm) hy IH
    · refine ⟨fun h => (by have := ready_text_any hr; rw [h] at this; cases this), fun j hj => ?_⟩
      have hjt : j ∈ Region.ready .text ops listed := by
        apply Classical.byContradiction
        intro h1
        exact hx ⟨j, hj, h1⟩
      by_cases hjz : j = z
      · subst hjz; exact doz (f + 1) W0 listed a inv hr hT H W hW
      · obtain ⟨hjn, oj, u, hoj, hsj, Hj⟩ := H.2 j (ready_mono hjt hjz)
        have hst : Steady P ops (fun w => Below W0.heap.size W0 w) oj u a := steady_of_R hsj (fun w h => h) (fun w w' h1 h2 => h1.trans (h2.mono h1.size))
        refine steady_op hoj hst hW fun w' hS' => ?_
        refine ih W0 (listed.setIfInBounds j true) (a.put oj.dst u) (inv.set hjt hjn) (ready_mono hr (Ne.symm hjz)) hT ?_ w' hS'
        rw [Array.setIfInBounds_comm _ _ hjz]
        exact Hj
/-- the last operations, whatever the numbers of both new blocks -/
def TailTwo (P : Program) (ops : Array Oper) (Q : Exit → Act → World → Prop) (rest : List Oper) (W0 : World) (oz oy : Oper) (obj obj' : Obj) (b : Act) : Prop :=
  ∀ g g' W, Below W0.heap.size W0 W → W0.heap.size ≤ g → W0.heap.size ≤ g' → g ≠ g' → g < W.heap.size → g' < W.heap.size → W.heap[g]? = some obj → W.heap[g']? = some obj' →
    wpList P ops Q rest ((b.put oz.dst (.pointer (some ⟨g, 0, none⟩))).put oy.dst (.pointer (some ⟨g', 0, none⟩))) W
theorem alloc_at (W : World) (obj : Obj) : (W.alloc obj).heap[W.heap.size]? = some obj := by
  show (W.heap.push obj)[W.heap.size]? = some obj
  simp
theorem alloc_old (W : World) (obj : Obj) {k : Nat} (h : k ≠ W.heap.size) : (W.alloc obj).heap[k]? = W.heap[k]? := by
  show (W.heap.push obj)[k]? = W.heap[k]?
  rw [Array.getElem?_push, if_neg h]
theorem wpAny_two {n z y g : Nat} {M : List Nat} {oz oy : Oper} {obj obj' : Obj} {rest : List Oper} {T : Act → Prop} {Q : Exit → Act → World → Prop} (hL : LateG ops M) (hMn : ∀ m ∈ M, m < n) (hsel : ∀ (j : Nat) (o : Oper) cs b, ops[j]? = some o → o.op ≠ .select cs b)
    (hs : Region.sinkB .text ops n = true) (hc : Region.chainB .text ops n = true) (hn : n < ops.size) (hz : MakesBlock P ops n z oz obj) (hy : MakesBlock P ops n y oy obj') (hzy : z ≠ y) (hzM : z ∉ M) (hyM : y ∉ M)
    (hpure : PureM P ops M) (hQ : ∀ (om : Oper) c (a : Act) v w, Q (.panic c) (a.put om.dst v) w → Q (.panic c) a w)
    (hrest : ∀ j, rest[j]? = ops[n + j]?) (hg : rest.length = g) (hT : ∀ a', T a' → TailTwo P ops Q rest W0 oz oy obj obj' a') :
    ∀ (f : Nat) (listed : Array Bool) (a : Act), HeadInv .text ops n listed → z ∈ Region.ready .text ops listed → y ∈ Region.ready .text ops listed →
      wpAnyR P .text ops W0 n (EndT ops g n T) f ((listed.setIfInBounds z true).setIfInBounds y true) a →
      ∀ W, Below W0.heap.size W0 W → wpAny P .any ops Q (f + 1 + 1 + g) listed a W := by
  have ne2 : (oz.dst ≠ oy.dst ∨ oz.dst = none) → True := fun _ => trivial
  have comm : ∀ (b : Act) (u v : Value), (b.put oz.dst u).put oy.dst v = (b.put oy.dst v).put oz.dst u := fun b u v => by
    obtain ⟨h1, h2, h3⟩ := Oper.apart_spec (hz.ap y oy hy.lt (Ne.symm hzy) hy.at_)
    exact (Act.put_comm b u v h2)
  have doz : ∀ (f : Nat) (listed : Array Bool) (a : Act), HeadInv .text ops n listed → z ∈ Region.ready .text ops listed → y ∈ Region.ready .text ops listed →
      wpAnyR P .text ops W0 n (EndT ops g n T) f ((listed.setIfInBounds z true).setIfInBounds y true) a →
      ∀ W, Below W0.heap.size W0 W → wpOp P ops Q z (fun a' w' => wpAny P .any ops Q (f + 1 + g) (listed.setIfInBounds z true) a' w') a W := by
    intro f listed a inv hr hr' H W hW
    refine op_gives hz.at_ (hz.wanted _) (hz.gives _ _) ?_
    have hWA : Below W0.heap.size W0 (W.alloc obj) := Below.alloc hW hW.size obj
    have H2 := wpAnyR_put (vz := .pointer (some ⟨W.heap.size, 0, none⟩)) hsel hz.ap f _ _ (getD_set_keep (set_get z)) H
    have H3 := wpAnyR_mono (L' := EndT ops g n (fun a' => ∃ b, T b ∧ a' = b.put oz.dst (.pointer (some ⟨W.heap.size, 0, none⟩)))) (fun l a' hh => by
      obtain ⟨b, ⟨h1, h2⟩, h3⟩ := hh
      exact ⟨h1, b, h2, h3⟩) f _ _ H2
    refine wpAny_one hL hMn hsel hs hc hn hy hyM hpure hQ hrest hg f (W.alloc obj) _ _ (inv.set hr hz.lt) (ready_mono hr' (Ne.symm hzy)) ?_ (wpAnyR_base hWA f _ _ H3) (W.alloc obj) (Below.refl _ _)
    rintro a' ⟨b, hb, rfl⟩ W1 W2 hb1 hb2
    have k1 := hb1.size
    have k2 := hb2.size
    simp only [World.size_alloc] at k1 k2
    refine hT b hb _ _ W2 ((hWA.trans (hb1.mono hWA.size)).trans ((Below.alloc (Below.refl _ _) (Nat.le_refl _) obj').trans (hb2.mono (by simp)) |>.mono (by have := hW.size; omega))) hW.size (by have := hW.size; omega) (by omega) (by omega) (by omega) ?_ ?_
    · rw [hb2.block _ (by simp; omega)]
      rw [alloc_old W1 obj' (by omega), hb1.block _ (by simp)]
      exact alloc_at W obj
    · rw [hb2.block _ (by simp)]
      exact alloc_at W1 obj'
  have doy : ∀ (f : Nat) (listed : Array Bool) (a : Act), HeadInv .text ops n listed → z ∈ Region.ready .text ops listed → y ∈ Region.ready .text ops listed →
      wpAnyR P .text ops W0 n (EndT ops g n T) f ((listed.setIfInBounds z true).setIfInBounds y true) a →
      ∀ W, Below W0.heap.size W0 W → wpOp P ops Q y (fun a' w' => wpAny P .any ops Q (f + 1 + g) (listed.setIfInBounds y true) a' w') a W := by
    intro f listed a inv hr hr' H W hW
    refine op_gives hy.at_ (hy.wanted _) (hy.gives _ _) ?_
    have hWA : Below W0.heap.size W0 (W.alloc obj') := Below.alloc hW hW.size obj'
    rw [Array.setIfInBounds_comm _ _ hzy] at H
    have H2 := wpAnyR_put (vz := .pointer (some ⟨W.heap.size, 0, none⟩)) hsel hy.ap f _ _ (getD_set_keep (set_get y)) H
    have H3 := wpAnyR_mono (L' := EndT ops g n (fun a' => ∃ b, T b ∧ a' = b.put oy.dst (.pointer (some ⟨W.heap.size, 0, none⟩)))) (fun l a' hh => by
      obtain ⟨b, ⟨h1, h2⟩, h3⟩ := hh
      exact ⟨h1, b, h2, h3⟩) f _ _ H2
    refine wpAny_one hL hMn hsel hs hc hn hz hzM hpure hQ hrest hg f (W.alloc obj') _ _ (inv.set hr' hy.lt) (ready_mono hr hzy) ?_ (wpAnyR_base hWA f _ _ H3) (W.alloc obj') (Below.refl _ _)
    rintro a' ⟨b, hb, rfl⟩ W1 W2 hb1 hb2
    have k1 := hb1.size
    have k2 := hb2.size
    simp only [World.size_alloc] at k1 k2
    rw [← comm]
    refine hT b hb _ _ W2 ((hWA.trans (hb1.mono hWA.size)).trans ((Below.alloc (Below.refl _ _) (Nat.le_refl _) obj).trans (hb2.mono (by simp)) |>.mono (by have := hW.size; omega))) (by have := hW.size; omega) hW.size (by omega) (by omega) (by omega) ?_ ?_
    · rw [hb2.block _ (by simp)]
      exact alloc_at W1 obj
    · rw [hb2.block _ (by simp; omega)]
      rw [alloc_old W1 obj (by omega), hb1.block _ (by simp)]
      exact alloc_at W obj'
  intro f
  induction f with
  | zero =>
    intro listed a inv hr hr' H W hW
    rw [show 0 + 1 + 1 + g = (0 + 1 + g) + 1 by omega]
    refine ⟨fun h => (by have := ready_text_any hr; rw [h] at this; cases this), fun j hj => ?_⟩
    by_cases hjz : j = z
    · subst hjz; exact doz 0 listed a inv hr hr' H W hW
    · by_cases hjy : j = y
      · subst hjy; exact doy 0 listed a inv hr hr' H W hW
      · exfalso
        have hjt : ∃ j, j ∈ Region.ready .text ops listed ∧ j ≠ z ∧ j ≠ y := by
          by_cases h : j ∈ Region.ready .text ops listed
          · exact ⟨j, h, hjz, hjy⟩
          · obtain ⟨m, om, hM, _, hm⟩ := late_some hL inv.closed inv.size hj h
            exact ⟨m, hm, fun e => hzM (e ▸ hM), fun e => hyM (e ▸ hM)⟩
        obtain ⟨j', hj', hne, hne'⟩ := hjt
        have h1 := seqB_ready H.1.1 j' (ready_mono (ready_mono hj' hne) hne')
        exact absurd hj' (tail_waits hs hc hn inv _ z rfl hz.lt (mem_ready.1 hr).1 j' h1)
  | succ f ih =>
    intro listed a inv hr hr' H W hW
    rw [show f + 1 + 1 + 1 + g = (f + 1 + 1 + g) + 1 by omega]
    by_cases hx : ∃ j, j ∈ Region.ready .any ops listed ∧ j ∉ Region.ready .text ops listed
    · obtain ⟨j, hj, hjt⟩ := hx
      obtain ⟨m, om, hM, hom, hm⟩ := late_some hL inv.closed inv.size hj hjt
      have hmz : m ≠ z := fun e => hzM (e ▸ hM)
      have hmy : m ≠ y := fun e => hyM (e ▸ hM)
      obtain ⟨_, om', v, hom', hst, H'⟩ := H.2 m (ready_mono (ready_mono hm hmz) hmy)
      obtain rfl : om' = om := Option.some.inj (hom'.symm.trans hom)
      have hyl : Yields P ops om' v a := by
        rcases hst with ⟨h1, h2⟩ | h2
        · exact Or.inl ⟨h1, fun w' => hpure m hM om' hom _ a v W w' (h2 W hW)⟩
        · exact Or.inr h2
      rw [Array.setIfInBounds_comm _ _ (Ne.symm hmy), Array.setIfInBounds_comm _ _ (Ne.symm hmz)] at H'
      have IH := ih (listed.setIfInBounds m true) (a.put om'.dst v) (inv.set hm (hMn m hM)) (ready_mono hr (Ne.symm hmz)) (ready_mono hr' (Ne.symm hmy)) H' W hW
      exact wpAny_first (Q := Q) (md := .any) hom hsel (fun c a w => hQ om' c a v w) (f + 1 + 1 + g) listed a W (fun j oj hj hjm hun hno => hL.free m hM om' hom j oj hj hjm hno) (ready_text_any hm) hyl IH
    · refine ⟨fun h => (by have := ready_text_any hr; rw [h] at this; cases this), fun j hj => ?_⟩
      have hjt : j ∈ Region.ready .text ops listed := by
        apply Classical.byContradiction
        intro h1
        exact hx ⟨j, hj, h1⟩
      by_cases hjz : j = z
      · subst hjz; exact doz (f + 1) listed a inv hr hr' H W hW
      · by_cases hjy : j = y
        · subst hjy; exact doy (f + 1) listed a inv hr hr' H W hW
        · obtain ⟨hjn, oj, u, hoj, hsj, Hj⟩ := H.2 j (ready_mono (ready_mono hjt hjz) hjy)
          have hst : Steady P ops (fun w => Below W0.heap.size W0 w) oj u a := steady_of_R hsj (fun w h => h) (fun w w' h1 h2 => h1.trans (h2.mono h1.size))
          refine steady_op hoj hst hW fun w' hS' => ?_
          refine ih (listed.setIfInBounds j true) (a.put oj.dst u) (inv.set hjt hjn) (ready_mono hr (Ne.symm hjz)) (ready_mono hr' (Ne.symm hjy)) ?_ w' hS'
          rw [Array.setIfInBounds_comm _ _ hjz, Array.setIfInBounds_comm _ _ hjy]
          exact Hj
def lateGB (ops : Array Oper) (M : List Nat) : Bool :=
  ((List.range ops.size).all fun j => match ops[j]? with
    | some o => o.after.all fun e => !Region.binds .text e || Region.binds .any e || thruB ops o e.on || (M.contains e.on && (match ops[e.on]? with
      | some om => om.after.all fun e' => !Region.binds .text e' || o.after.any fun e'' => Region.binds .any e'' && decide (e''.on = e'.on)
      | none => false))
    | none => true) &&
  (M.all fun m => match ops[m]? with
    | some om => (List.range ops.size).all fun j => decide (j = m) || (match ops[j]? with | some o => (o.after.any fun e => Region.binds .any e && decide (e.on = m)) || om.apart ops o | none => true)
    | none => true)
theorem lateG_of {M : List Nat} (h : lateGB ops M = true) : LateG ops M := by
  unfold lateGB at h
  simp only [Bool.and_eq_true] at h
  obtain ⟨h1, h2⟩ := h
  refine ⟨fun j o ho e he hb => ?_, fun m hM om hom j o ho hj hno => ?_⟩
  · have := List.all_eq_true.1 h1 j (List.mem_range.2 (Array.getElem?_eq_some_iff.1 ho).1)
    simp only [ho] at this
    have := Array.all_eq_true'.1 this e he
    simp only [hb, Bool.not_true, Bool.false_or, Bool.or_eq_true, Bool.and_eq_true] at this
    rcases this with (h3 | h3) | ⟨h3, h4⟩
    · exact Or.inl h3
    · exact Or.inr (Or.inl (thru_of h3))
    · refine Or.inr (Or.inr ⟨by simpa using h3, ?_⟩)
      cases hom : ops[e.on]? with
      | none => rw [hom] at h4; cases h4
      | some om =>
        rw [hom] at h4
        refine ⟨om, rfl, fun e' he' hb' => ?_⟩
        have := Array.all_eq_true'.1 h4 e' he'
        simp only [hb', Bool.not_true, Bool.false_or] at this
        obtain ⟨e'', he'', h6⟩ := Array.any_eq_true'.1 this
        simp only [Bool.and_eq_true, decide_eq_true_eq] at h6
        exact ⟨e'', he'', h6⟩
  · have := List.all_eq_true.1 h2 m hM
    simp only [hom] at this
    have := List.all_eq_true.1 this j (List.mem_range.2 (Array.getElem?_eq_some_iff.1 ho).1)
    simp only [ho, hj, decide_false, Bool.false_or, Bool.or_eq_true] at this
    rcases this with h6 | h6
    · obtain ⟨e', he', h7⟩ := Array.any_eq_true'.1 h6
      simp only [Bool.and_eq_true, decide_eq_true_eq] at h7
      exact absurd h7.2 (hno e' he' h7.1)
    · exact h6
def isExtract : Op → Bool
  | .extract _ _ => true
  | _ => false
def extrB (ops : Array Oper) (M : List Nat) : Bool := M.all fun m => match ops[m]? with | some om => isExtract om.op | none => true
theorem pureM_of {M : List Nat} (h : extrB ops M = true) : PureM P ops M := by
  intro m hM om hom S a v w w' hh
  have := List.all_eq_true.1 h m hM
  simp only [hom] at this
  cases ho : om.op with
  | extract x i => exact extract_pure ho hh
  | _ => rw [ho] at this; simp [isExtract] at this
def apartB (ops : Array Oper) (z n : Nat) : Bool := (List.range n).all fun j => decide (j = z) || (match ops[z]?, ops[j]? with | some oz, some oj => oz.apart ops oj | _, _ => false)
theorem apartB_spec {z n : Nat} {oz : Oper} (hoz : ops[z]? = some oz) (h : apartB ops z n = true) : ∀ j oj, j < n → j ≠ z → ops[j]? = some oj → oz.apart ops oj = true := fun j oj hj hjz hoj => by
  have h1 := List.all_eq_true.1 h j (List.mem_range.2 hj)
  simpa [hoz, hoj, hjz] using h1
def lex2B (ops : Array Oper) (z : Nat) (M : List Nat) : Bool :=
  Region.noSelect ops && decide (z + 2 < ops.size) && Region.sinkB .text ops (z + 2) && Region.chainB .text ops (z + 2) &&
    (Region.ready .text ops (Array.replicate ops.size false)).contains z && (Region.ready .text ops (Array.replicate ops.size false)).contains (z + 1) &&
    apartB ops z (z + 2) && apartB ops (z + 1) (z + 2) && lexT ops (ops.size - (z + 2)) (z + 2) z 0 (((Array.replicate ops.size false).setIfInBounds z true).setIfInBounds (z + 1) true) &&
    lateGB ops M && extrB ops M && (M.all fun m => decide (m < z))
theorem wp_region_A2 {id : Nat} {Q : Exit → Act → World → Prop} {a : Act} {w : World} {l : List Oper} (z : Nat) (M : List Nat) {oz oy : Oper} {rest : List Oper} {obj obj' : Obj} (W0 : World) (hm : P.follows .mixedOrders = true) (hB : lex2B l.toArray z M = true)
    (hS : Below W0.heap.size W0 w.drew) (hlz : l.drop z = oz :: oy :: rest) (hwz : ∀ a, Region.wanted oz (yielded l.toArray a) = true) (hwy : ∀ a, Region.wanted oy (yielded l.toArray a) = true)
    (halz : ∀ (a : Act) W, (execOp a.eval oz).run P W = .ok (.value (.pointer (some ⟨W.heap.size, 0, none⟩))) (W.alloc obj))
    (haly : ∀ (a : Act) W, (execOp a.eval oy).run P W = .ok (.value (.pointer (some ⟨W.heap.size, 0, none⟩))) (W.alloc obj'))
    (hQ : ∀ (om : Oper) c (a : Act) v w, Q (.panic c) (a.put om.dst v) w → Q (.panic c) a w)
    (h : wpHR P l.toArray W0 (TailTwo P l.toArray Q rest W0 oz oy obj obj') (l.take z) a) :
    (Code.region id l.toArray true).wp P Q a w := by
  simp only [lex2B, Bool.and_eq_true, decide_eq_true_eq] at hB
  obtain ⟨⟨⟨⟨⟨⟨⟨⟨⟨⟨⟨hsel, hn⟩, hs⟩, hc⟩, hr0⟩, hr1⟩, hap⟩, hap'⟩, hlex⟩, hlate⟩, hex⟩, hMz⟩ := hB
  have hn' : z + 2 < l.length := by simpa using hn
  have hoz : l.toArray[z]? = some oz := by
    have h0 : (l.drop z)[0]? = some oz := by rw [hlz]; rfl
    simpa [List.getElem?_drop] using h0
  have hoy : l.toArray[z + 1]? = some oy := by
    have h0 : (l.drop z)[1]? = some oy := by rw [hlz]; rfl
    simpa [List.getElem?_drop] using h0
  have hrest : ∀ j, rest[j]? = l.toArray[z + 2 + j]? := fun j => by
    have h0 : (l.drop z)[j + 2]? = rest[j]? := by rw [hlz]; rfl
    rw [← h0]
    simp [List.getElem?_drop]
    congr 1
    omega
  have hrl : rest.length = l.toArray.size - (z + 2) := by
    have := congrArg List.length hlz
    simp at this ⊢
    omega
  have htl : (l.take z).length = z := by simp; omega
  have hMlt : ∀ m ∈ M, m < z := fun m hm => by simpa using List.all_eq_true.1 hMz m hm
  have inv0 : HeadInv .text l.toArray (z + 2) (Array.replicate l.toArray.size false) :=
    ⟨by simp, fun j oj _ hl => (by rw [getD_replicate_false] at hl; cases hl), fun t _ ht => getD_in (by simpa using ht) (getD_replicate_false _ _)⟩
  have hr0' : z ∈ Region.ready .text l.toArray (Array.replicate l.toArray.size false) := by simpa using hr0
  have hr1' : z + 1 ∈ Region.ready .text l.toArray (Array.replicate l.toArray.size false) := by simpa using hr1
  have H := wpAnyR_lexT (g := l.toArray.size - (z + 2)) hsel hs hc hn (l.take z) 0 _ a (fun j hj => by
    have hj' : j < z := by rw [htl] at hj; exact hj
    simp [List.getElem?_take, hj']) (by rw [htl]; omega) ((inv0.set hr0' (by omega)).set (ready_mono hr1' (by omega)) (by omega)) (by rw [htl]; exact hlex) h
  refine wp_region_any hm ?_
  have := wpAny_two (Q := Q) (g := l.toArray.size - (z + 2)) (rest := rest) (T := TailTwo P l.toArray Q rest W0 oz oy obj obj') (lateG_of hlate) (fun m hm => by have := hMlt m hm; omega) (Region.noSelect_spec hsel) hs hc hn ⟨by omega, hoz, apartB_spec hoz hap, fun a => hwz a.tmps, halz⟩ ⟨by omega, hoy, apartB_spec hoy hap', fun a => hwy a.tmps, haly⟩ (by omega) (fun hh => by have := hMlt _ hh; omega) (fun hh => by have := hMlt _ hh; omega) (pureM_of hex) hQ hrest hrl (fun a' hT => hT) (l.take z).length _ a inv0 hr0' hr1' H w.drew hS
  rw [htl, show z + 1 + 1 + (l.toArray.size - (z + 2)) = l.toArray.size by omega] at this
  exact this
end
end Go.Proofs.Ytheddoinnakneaa

