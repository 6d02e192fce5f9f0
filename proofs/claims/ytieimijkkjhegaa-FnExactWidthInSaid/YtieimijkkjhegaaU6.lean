/- contracts: WidthIn, the program -/
import Derived.Test.YtieimijkkjhegaaU5
import Derived.Test.YtieimijkkjhegaaX
import Derived.Test.YtieimijkkjhegaaM
namespace Go.Proofs.Ytieimijkkjhegaa
open Go.ChangeShapes Go.WideShapes Go.ChangeAt Go.RowKit Go.Joins
set_option linter.unusedVariables false
set_option linter.unusedSimpArgs false
set_option maxRecDepth 4000
theorem isReduced_any (u v : Int) (w : World) (h1 : -200 ≤ u) (h2 : u ≤ 200) (h3 : -200 ≤ v) (h4 : v ≤ 200) :
    Calls Try.prog 119 #[.agg #[.int .i64 u, .int .i64 v]] w fun e w' => e = .returned (.bool (decide (Nat.gcd u.natAbs v.natAbs = 1))) ∧ Below w.heap.size w w' := by
  have KG := Lib.hid (fun W => greatestDivisor_any u v W (by omega) (by omega) (by omega) (by omega))
  obtain ⟨g, hgd⟩ : ∃ g, g = Nat.gcd u.natAbs v.natAbs := ⟨_, rfl⟩
  have hq : Hid (decide (Nat.gcd u.natAbs v.natAbs = 1) = ((g : Int) == 1)) := Lib.hid (by
        have hc : ((g : Int) == 1) = decide (g = 1) := by by_cases h : g = 1 <;> simp [h] <;> omega
        rw [hc]; subst hgd; simp only [decide_eq_decide])
  rw [← hgd] at KG
  clear hgd
  go_enter Try.func119, Try.ntmps119
  go_wp2_with fail
  obtain ⟨W0, hW0⟩ : ∃ W0, W0 = (w.alloc (.cells #[.int .i64 u, .int .i64 v] 100)) := ⟨_, rfl⟩
  rw [← hW0]
  have yW00_0 : W0.cell? ⟨w.heap.size, 0, none⟩ = some (.int .i64 u) := by rw [hW0]; go_simp
  have yW00_1 : W0.cell? ⟨w.heap.size, 1, none⟩ = some (.int .i64 v) := by rw [hW0]; go_simp
  have fW00 : ∀ o, W0.frozen? ⟨w.heap.size, o, none⟩ = false := by intro o; rw [hW0]; (repeat rw [frozen?_alloc_cells]); simp [World.frozen?]
  have zW00 : w.heap.size < W0.heap.size := by rw [hW0]; simp <;> omega
  have BW0 : Below w.heap.size w W0 := by rw [hW0]; exact (Below.alloc (Below.refl _ _) (by simp <;> omega) _)
  have eW0 : Hid (W0.heap.size = w.heap.size + 1) := Lib.hid (by rw [hW0]; simp)
  clear hW0
  refine (KG.out _).mono ?_; rintro e w1 ⟨rfl, hb1⟩
  go_wp2_with fail
  go_ret
  exact ⟨ret_bool (by rw [hq.out]), BW0.trans (hb1.mono BW0.size)⟩
theorem width_any (u v a b : Int) (w : World) (h1 : -16000 ≤ a) (h2 : a ≤ 16000) (h3 : -16000 ≤ b) (h4 : b ≤ 16000) :
    Calls Try.prog 85 #[.agg #[.int .i64 u, .int .i64 v, .int .i64 a, .int .i64 b]] w fun e w' => e = .returned (.int .i64 (b - a)) ∧ Below w.heap.size w w' := by
  have i1 : IntKind.i64.wrap (b - a) = b - a := IntWalk.i64_in _ (by omega)
  go_enter Try.func85, Try.ntmps85
  go_wp2_with fail
  go_ret
  exact ⟨rfl, (by repeat (first | exact Below.refl _ _ | assumption | apply Below.drew | refine Below.alloc ?_ (by simp <;> omega) _))⟩
noncomputable def spV (l : List (Int × Int)) (u v : Int) : Value := if okW l u v = true then .agg #[.int .i64 u, .int .i64 v, .int .i64 (loW l u v l.length), .int .i64 (hiW l u v l.length)] else .agg #[.int .i64 0, .int .i64 0, .int .i64 0, .int .i64 0]
theorem spV_t {l : List (Int × Int)} {u v : Int} (h : okW l u v = true) : spV l u v = .agg #[.int .i64 u, .int .i64 v, .int .i64 (loW l u v l.length), .int .i64 (hiW l u v l.length)] := by unfold spV; rw [if_pos h]
theorem spV_f {l : List (Int × Int)} {u v : Int} (h : okW l u v = false) : spV l u v = .agg #[.int .i64 0, .int .i64 0, .int .i64 0, .int .i64 0] := by unfold spV; rw [h]; rfl
theorem isOfSize_200 (n : Int) (w : World) : Calls Try.prog 118 #[.int .i64 n, .int .i64 200] w fun e w' => e = .returned (.bool (decide (-200 ≤ n) && decide (n ≤ 200))) ∧ w = w' := isOfSize_any n 200 w (by omega) (by omega)
set_option maxHeartbeats 4000000 in
theorem spanIn_any (A : Option Addr) (c : Nat) (l : List (Int × Int)) (u v : Int) (w : World) (hn : l.length ≤ 1048576) (hR : Rd w w.heap.size A l) :
    Calls Try.prog 84 #[.slice A l.length c, .int .i64 u, .int .i64 v] w fun e w' => e = .returned (.tuple #[spV l u v, .bool (okW l u v)]) ∧ Below w.heap.size w w' := by
  have K := Lib.hid (fun (W : World) (hb : Below w.heap.size w W) => implIsPolygon_any A c l W hn (rd_more (rd_below hR hb (Nat.le_refl _)) hb.size))
  have KU := Lib.hid (fun W => isOfSize_200 u W)
  have KV := Lib.hid (fun W => isOfSize_200 v W)
  by_cases hg : goodB l = true
  rotate_left
  · have hgf : goodB l = false := by simpa using hg
    have ho : okW l u v = false := by unfold okW; rw [hgf]; rfl
    rw [spV_f ho, ho]
    rw [hgf] at K
    clear hg hgf ho hR
    go_enter Try.func84, Try.ntmps84
    go_wp2_with fail
    obtain ⟨W0, hW0⟩ : ∃ W0, W0 = ((w.alloc (.cells #[.int .i64 0, .int .i64 0, .int .i64 0, .int .i64 0] 102)).alloc (.cells #[.int .i64 u, .int .i64 v] 100)) := ⟨_, rfl⟩
    rw [← hW0]
    have yW00_0 : W0.cell? ⟨w.heap.size, 0, none⟩ = some (.int .i64 0) := by rw [hW0]; go_simp
    have yW00_1 : W0.cell? ⟨w.heap.size, 1, none⟩ = some (.int .i64 0) := by rw [hW0]; go_simp
    have yW00_2 : W0.cell? ⟨w.heap.size, 2, none⟩ = some (.int .i64 0) := by rw [hW0]; go_simp
    have yW00_3 : W0.cell? ⟨w.heap.size, 3, none⟩ = some (.int .i64 0) := by rw [hW0]; go_simp
    have fW00 : ∀ o, W0.frozen? ⟨w.heap.size, o, none⟩ = false := by intro o; rw [hW0]; (repeat rw [frozen?_alloc_cells]); simp [World.frozen?]
    have zW00 : w.heap.size < W0.heap.size := by rw [hW0]; simp <;> omega
    have yW01_0 : W0.cell? ⟨w.heap.size + 1, 0, none⟩ = some (.int .i64 u) := by rw [hW0]; go_simp
    have yW01_1 : W0.cell? ⟨w.heap.size + 1, 1, none⟩ = some (.int .i64 v) := by rw [hW0]; go_simp
    have fW01 : ∀ o, W0.frozen? ⟨w.heap.size + 1, o, none⟩ = false := by intro o; rw [hW0]; (repeat rw [frozen?_alloc_cells]); simp [World.frozen?]
    have zW01 : w.heap.size + 1 < W0.heap.size := by rw [hW0]; simp <;> omega
    have BW0 : Below w.heap.size w W0 := by rw [hW0]; exact (Below.alloc (Below.alloc (Below.refl _ _) (by simp <;> omega) _) (by simp <;> omega) _)
    have eW0 : Hid (W0.heap.size = w.heap.size + 2) := Lib.hid (by rw [hW0]; simp)
    clear hW0
    refine (K.out _ BW0).mono ?_; rintro e w1 ⟨rfl, hb1⟩
    have B1 := BW0.trans (hb1.mono BW0.size)
    have r0 := (hb1.cell (p := ⟨w.heap.size, 0, none⟩) zW00).trans yW00_0
    have r1 := (hb1.cell (p := ⟨w.heap.size, 1, none⟩) zW00).trans yW00_1
    have r2 := (hb1.cell (p := ⟨w.heap.size, 2, none⟩) zW00).trans yW00_2
    have r3 := (hb1.cell (p := ⟨w.heap.size, 3, none⟩) zW00).trans yW00_3
    have q0 := (hb1.frozen (p := ⟨w.heap.size, 0, none⟩) zW00).trans (fW00 0)
    have q1 := (hb1.frozen (p := ⟨w.heap.size, 1, none⟩) zW00).trans (fW00 1)
    have q2 := (hb1.frozen (p := ⟨w.heap.size, 2, none⟩) zW00).trans (fW00 2)
    have q3 := (hb1.frozen (p := ⟨w.heap.size, 3, none⟩) zW00).trans (fW00 3)
    have d0 := (hb1.cell (p := ⟨w.heap.size + 1, 0, none⟩) zW01).trans yW01_0
    have d1 := (hb1.cell (p := ⟨w.heap.size + 1, 1, none⟩) zW01).trans yW01_1
    have v0 : w.heap.size < w1.heap.size := by have := hb1.size; omega
    have v1 : w.heap.size + 1 < w1.heap.size := by have := hb1.size; omega
    have zz := B1.size
    clear yW00_0 yW00_1 yW00_2 yW00_3 yW01_0 yW01_1 fW00 fW01 zW00 zW01 BW0 hb1 K
    go_wp2_with fail
    refine bodyPost_ret (v := .tuple #[.agg #[.int .i64 0, .int .i64 0, .int .i64 0, .int .i64 0], .bool false]) (by simp [results, Try.results84, go_sem, r0, r1, r2, r3, v0]) rfl ⟨rfl, ?_⟩
    repeat (first | with_reducible assumption | with_reducible exact Below.refl _ _ | with_reducible apply Below.drew | ((with_reducible refine Below.setCell ?_ ?_ _); rotate_left; (first | exact Nat.le_refl _ | omega | (simp <;> omega))) | ((with_reducible refine Below.alloc ?_ ?_ _); rotate_left; (first | omega | (simp <;> omega))))
  have hgg : Good l := by unfold goodB at hg; simpa using hg
  by_cases hu : (decide (-200 ≤ u) && decide (u ≤ 200)) = true
  rotate_left
  · have huf : (decide (-200 ≤ u) && decide (u ≤ 200)) = false := by simpa using hu
    have ho : okW l u v = false := by unfold okW dirB; rw [huf]; simp
    rw [spV_f ho, ho]
    rw [hg] at K
    rw [huf] at KU
    clear hg hgg hu huf ho hR
    go_enter Try.func84, Try.ntmps84
    go_wp2_with fail
    obtain ⟨W0, hW0⟩ : ∃ W0, W0 = ((w.alloc (.cells #[.int .i64 0, .int .i64 0, .int .i64 0, .int .i64 0] 102)).alloc (.cells #[.int .i64 u, .int .i64 v] 100)) := ⟨_, rfl⟩
    rw [← hW0]
    have yW00_0 : W0.cell? ⟨w.heap.size, 0, none⟩ = some (.int .i64 0) := by rw [hW0]; go_simp
    have yW00_1 : W0.cell? ⟨w.heap.size, 1, none⟩ = some (.int .i64 0) := by rw [hW0]; go_simp
    have yW00_2 : W0.cell? ⟨w.heap.size, 2, none⟩ = some (.int .i64 0) := by rw [hW0]; go_simp
    have yW00_3 : W0.cell? ⟨w.heap.size, 3, none⟩ = some (.int .i64 0) := by rw [hW0]; go_simp
    have fW00 : ∀ o, W0.frozen? ⟨w.heap.size, o, none⟩ = false := by intro o; rw [hW0]; (repeat rw [frozen?_alloc_cells]); simp [World.frozen?]
    have zW00 : w.heap.size < W0.heap.size := by rw [hW0]; simp <;> omega
    have yW01_0 : W0.cell? ⟨w.heap.size + 1, 0, none⟩ = some (.int .i64 u) := by rw [hW0]; go_simp
    have yW01_1 : W0.cell? ⟨w.heap.size + 1, 1, none⟩ = some (.int .i64 v) := by rw [hW0]; go_simp
    have fW01 : ∀ o, W0.frozen? ⟨w.heap.size + 1, o, none⟩ = false := by intro o; rw [hW0]; (repeat rw [frozen?_alloc_cells]); simp [World.frozen?]
    have zW01 : w.heap.size + 1 < W0.heap.size := by rw [hW0]; simp <;> omega
    have BW0 : Below w.heap.size w W0 := by rw [hW0]; exact (Below.alloc (Below.alloc (Below.refl _ _) (by simp <;> omega) _) (by simp <;> omega) _)
    have eW0 : Hid (W0.heap.size = w.heap.size + 2) := Lib.hid (by rw [hW0]; simp)
    clear hW0
    refine (K.out _ BW0).mono ?_; rintro e w1 ⟨rfl, hb1⟩
    have B1 := BW0.trans (hb1.mono BW0.size)
    have r0 := (hb1.cell (p := ⟨w.heap.size, 0, none⟩) zW00).trans yW00_0
    have r1 := (hb1.cell (p := ⟨w.heap.size, 1, none⟩) zW00).trans yW00_1
    have r2 := (hb1.cell (p := ⟨w.heap.size, 2, none⟩) zW00).trans yW00_2
    have r3 := (hb1.cell (p := ⟨w.heap.size, 3, none⟩) zW00).trans yW00_3
    have q0 := (hb1.frozen (p := ⟨w.heap.size, 0, none⟩) zW00).trans (fW00 0)
    have q1 := (hb1.frozen (p := ⟨w.heap.size, 1, none⟩) zW00).trans (fW00 1)
    have q2 := (hb1.frozen (p := ⟨w.heap.size, 2, none⟩) zW00).trans (fW00 2)
    have q3 := (hb1.frozen (p := ⟨w.heap.size, 3, none⟩) zW00).trans (fW00 3)
    have d0 := (hb1.cell (p := ⟨w.heap.size + 1, 0, none⟩) zW01).trans yW01_0
    have d1 := (hb1.cell (p := ⟨w.heap.size + 1, 1, none⟩) zW01).trans yW01_1
    have v0 : w.heap.size < w1.heap.size := by have := hb1.size; omega
    have v1 : w.heap.size + 1 < w1.heap.size := by have := hb1.size; omega
    have zz := B1.size
    clear yW00_0 yW00_1 yW00_2 yW00_3 yW01_0 yW01_1 fW00 fW01 zW00 zW01 BW0 hb1 K
    go_wp2_with fail
    refine (KU.out _).mono ?_; rintro e _ ⟨rfl, rfl⟩
    go_wp2_with fail
    refine bodyPost_ret (v := .tuple #[.agg #[.int .i64 0, .int .i64 0, .int .i64 0, .int .i64 0], .bool false]) (by simp [results, Try.results84, go_sem, r0, r1, r2, r3, v0]) rfl ⟨rfl, ?_⟩
    repeat (first | with_reducible assumption | with_reducible exact Below.refl _ _ | with_reducible apply Below.drew | ((with_reducible refine Below.setCell ?_ ?_ _); rotate_left; (first | exact Nat.le_refl _ | omega | (simp <;> omega))) | ((with_reducible refine Below.alloc ?_ ?_ _); rotate_left; (first | omega | (simp <;> omega))))
  by_cases hv : (decide (-200 ≤ v) && decide (v ≤ 200)) = true
  rotate_left
  · have hvf : (decide (-200 ≤ v) && decide (v ≤ 200)) = false := by simpa using hv
    have ho : okW l u v = false := by unfold okW dirB; rw [hvf]; simp
    rw [spV_f ho, ho]
    rw [hg] at K
    rw [hu] at KU
    rw [hvf] at KV
    clear hg hgg hu hv hvf ho hR
    go_enter Try.func84, Try.ntmps84
    go_wp2_with fail
    obtain ⟨W0, hW0⟩ : ∃ W0, W0 = ((w.alloc (.cells #[.int .i64 0, .int .i64 0, .int .i64 0, .int .i64 0] 102)).alloc (.cells #[.int .i64 u, .int .i64 v] 100)) := ⟨_, rfl⟩
    rw [← hW0]
    have yW00_0 : W0.cell? ⟨w.heap.size, 0, none⟩ = some (.int .i64 0) := by rw [hW0]; go_simp
    have yW00_1 : W0.cell? ⟨w.heap.size, 1, none⟩ = some (.int .i64 0) := by rw [hW0]; go_simp
    have yW00_2 : W0.cell? ⟨w.heap.size, 2, none⟩ = some (.int .i64 0) := by rw [hW0]; go_simp
    have yW00_3 : W0.cell? ⟨w.heap.size, 3, none⟩ = some (.int .i64 0) := by rw [hW0]; go_simp
    have fW00 : ∀ o, W0.frozen? ⟨w.heap.size, o, none⟩ = false := by intro o; rw [hW0]; (repeat rw [frozen?_alloc_cells]); simp [World.frozen?]
    have zW00 : w.heap.size < W0.heap.size := by rw [hW0]; simp <;> omega
    have yW01_0 : W0.cell? ⟨w.heap.size + 1, 0, none⟩ = some (.int .i64 u) := by rw [hW0]; go_simp
    have yW01_1 : W0.cell? ⟨w.heap.size + 1, 1, none⟩ = some (.int .i64 v) := by rw [hW0]; go_simp
    have fW01 : ∀ o, W0.frozen? ⟨w.heap.size + 1, o, none⟩ = false := by intro o; rw [hW0]; (repeat rw [frozen?_alloc_cells]); simp [World.frozen?]
    have zW01 : w.heap.size + 1 < W0.heap.size := by rw [hW0]; simp <;> omega
    have BW0 : Below w.heap.size w W0 := by rw [hW0]; exact (Below.alloc (Below.alloc (Below.refl _ _) (by simp <;> omega) _) (by simp <;> omega) _)
    have eW0 : Hid (W0.heap.size = w.heap.size + 2) := Lib.hid (by rw [hW0]; simp)
    clear hW0
    refine (K.out _ BW0).mono ?_; rintro e w1 ⟨rfl, hb1⟩
    have B1 := BW0.trans (hb1.mono BW0.size)
    have r0 := (hb1.cell (p := ⟨w.heap.size, 0, none⟩) zW00).trans yW00_0
    have r1 := (hb1.cell (p := ⟨w.heap.size, 1, none⟩) zW00).trans yW00_1
    have r2 := (hb1.cell (p := ⟨w.heap.size, 2, none⟩) zW00).trans yW00_2
    have r3 := (hb1.cell (p := ⟨w.heap.size, 3, none⟩) zW00).trans yW00_3
    have q0 := (hb1.frozen (p := ⟨w.heap.size, 0, none⟩) zW00).trans (fW00 0)
    have q1 := (hb1.frozen (p := ⟨w.heap.size, 1, none⟩) zW00).trans (fW00 1)
    have q2 := (hb1.frozen (p := ⟨w.heap.size, 2, none⟩) zW00).trans (fW00 2)
    have q3 := (hb1.frozen (p := ⟨w.heap.size, 3, none⟩) zW00).trans (fW00 3)
    have d0 := (hb1.cell (p := ⟨w.heap.size + 1, 0, none⟩) zW01).trans yW01_0
    have d1 := (hb1.cell (p := ⟨w.heap.size + 1, 1, none⟩) zW01).trans yW01_1
    have v0 : w.heap.size < w1.heap.size := by have := hb1.size; omega
    have v1 : w.heap.size + 1 < w1.heap.size := by have := hb1.size; omega
    have zz := B1.size
    clear yW00_0 yW00_1 yW00_2 yW00_3 yW01_0 yW01_1 fW00 fW01 zW00 zW01 BW0 hb1 K
    go_wp2_with fail
    refine (KU.out _).mono ?_; rintro e _ ⟨rfl, rfl⟩
    go_wp2_with fail
    refine (KV.out _).mono ?_; rintro e _ ⟨rfl, rfl⟩
    go_wp2_with fail
    refine bodyPost_ret (v := .tuple #[.agg #[.int .i64 0, .int .i64 0, .int .i64 0, .int .i64 0], .bool false]) (by simp [results, Try.results84, go_sem, r0, r1, r2, r3, v0]) rfl ⟨rfl, ?_⟩
    repeat (first | with_reducible assumption | with_reducible exact Below.refl _ _ | with_reducible apply Below.drew | ((with_reducible refine Below.setCell ?_ ?_ _); rotate_left; (first | exact Nat.le_refl _ | omega | (simp <;> omega))) | ((with_reducible refine Below.alloc ?_ ?_ _); rotate_left; (first | omega | (simp <;> omega))))
  have hu2 := hu
  have hv2 := hv
  simp only [Bool.and_eq_true, decide_eq_true_eq] at hu2 hv2
  have KR := Lib.hid (fun W => isReduced_any u v W hu2.1 hu2.2 hv2.1 hv2.2)
  by_cases hc : Nat.gcd u.natAbs v.natAbs = 1
  · have ho : okW l u v = true := by unfold okW dirB; rw [hg, hu, hv]; simp [hc]
    have KS := Lib.hid (fun W (hb : Below w.heap.size w W) => spanOf_any A c l u v W hu2.1 hu2.2 hv2.1 hv2.2 hgg (rd_more (rd_below hR hb (Nat.le_refl _)) hb.size))
    rw [spV_t ho, ho]
    rw [hg] at K
    rw [hu] at KU
    rw [hv] at KV
    rw [show decide (Nat.gcd u.natAbs v.natAbs = 1) = true by simp [hc]] at KR
    generalize loW l u v l.length = lo at *
    generalize hiW l u v l.length = hi at *
    clear hg hgg hu hv hu2 hv2 ho hR hc
    go_enter Try.func84, Try.ntmps84
    go_wp2_with fail
    obtain ⟨W0, hW0⟩ : ∃ W0, W0 = ((w.alloc (.cells #[.int .i64 0, .int .i64 0, .int .i64 0, .int .i64 0] 102)).alloc (.cells #[.int .i64 u, .int .i64 v] 100)) := ⟨_, rfl⟩
    rw [← hW0]
    have yW00_0 : W0.cell? ⟨w.heap.size, 0, none⟩ = some (.int .i64 0) := by rw [hW0]; go_simp
    have yW00_1 : W0.cell? ⟨w.heap.size, 1, none⟩ = some (.int .i64 0) := by rw [hW0]; go_simp
    have yW00_2 : W0.cell? ⟨w.heap.size, 2, none⟩ = some (.int .i64 0) := by rw [hW0]; go_simp
    have yW00_3 : W0.cell? ⟨w.heap.size, 3, none⟩ = some (.int .i64 0) := by rw [hW0]; go_simp
    have fW00 : ∀ o, W0.frozen? ⟨w.heap.size, o, none⟩ = false := by intro o; rw [hW0]; (repeat rw [frozen?_alloc_cells]); simp [World.frozen?]
    have zW00 : w.heap.size < W0.heap.size := by rw [hW0]; simp <;> omega
    have yW01_0 : W0.cell? ⟨w.heap.size + 1, 0, none⟩ = some (.int .i64 u) := by rw [hW0]; go_simp
    have yW01_1 : W0.cell? ⟨w.heap.size + 1, 1, none⟩ = some (.int .i64 v) := by rw [hW0]; go_simp
    have fW01 : ∀ o, W0.frozen? ⟨w.heap.size + 1, o, none⟩ = false := by intro o; rw [hW0]; (repeat rw [frozen?_alloc_cells]); simp [World.frozen?]
    have zW01 : w.heap.size + 1 < W0.heap.size := by rw [hW0]; simp <;> omega
    have BW0 : Below w.heap.size w W0 := by rw [hW0]; exact (Below.alloc (Below.alloc (Below.refl _ _) (by simp <;> omega) _) (by simp <;> omega) _)
    have eW0 : Hid (W0.heap.size = w.heap.size + 2) := Lib.hid (by rw [hW0]; simp)
    clear hW0
    refine (K.out _ BW0).mono ?_; rintro e w1 ⟨rfl, hb1⟩
    have B1 := BW0.trans (hb1.mono BW0.size)
    have r0 := (hb1.cell (p := ⟨w.heap.size, 0, none⟩) zW00).trans yW00_0
    have r1 := (hb1.cell (p := ⟨w.heap.size, 1, none⟩) zW00).trans yW00_1
    have r2 := (hb1.cell (p := ⟨w.heap.size, 2, none⟩) zW00).trans yW00_2
    have r3 := (hb1.cell (p := ⟨w.heap.size, 3, none⟩) zW00).trans yW00_3
    have q0 := (hb1.frozen (p := ⟨w.heap.size, 0, none⟩) zW00).trans (fW00 0)
    have q1 := (hb1.frozen (p := ⟨w.heap.size, 1, none⟩) zW00).trans (fW00 1)
    have q2 := (hb1.frozen (p := ⟨w.heap.size, 2, none⟩) zW00).trans (fW00 2)
    have q3 := (hb1.frozen (p := ⟨w.heap.size, 3, none⟩) zW00).trans (fW00 3)
    have d0 := (hb1.cell (p := ⟨w.heap.size + 1, 0, none⟩) zW01).trans yW01_0
    have d1 := (hb1.cell (p := ⟨w.heap.size + 1, 1, none⟩) zW01).trans yW01_1
    have v0 : w.heap.size < w1.heap.size := by have := hb1.size; omega
    have v1 : w.heap.size + 1 < w1.heap.size := by have := hb1.size; omega
    have zz := B1.size
    clear yW00_0 yW00_1 yW00_2 yW00_3 yW01_0 yW01_1 fW00 fW01 zW00 zW01 BW0 hb1 K
    go_wp2_with fail
    refine (KU.out _).mono ?_; rintro e _ ⟨rfl, rfl⟩
    go_wp2_with fail
    refine (KV.out _).mono ?_; rintro e _ ⟨rfl, rfl⟩
    go_wp2_with fail
    refine (KR.out _).mono ?_; rintro e w2 ⟨rfl, hb2⟩
    have r0 := (hb2.cell (p := ⟨w.heap.size, 0, none⟩) v0).trans r0
    have r1 := (hb2.cell (p := ⟨w.heap.size, 1, none⟩) v0).trans r1
    have r2 := (hb2.cell (p := ⟨w.heap.size, 2, none⟩) v0).trans r2
    have r3 := (hb2.cell (p := ⟨w.heap.size, 3, none⟩) v0).trans r3
    have q0 := (hb2.frozen (p := ⟨w.heap.size, 0, none⟩) v0).trans q0
    have q1 := (hb2.frozen (p := ⟨w.heap.size, 1, none⟩) v0).trans q1
    have q2 := (hb2.frozen (p := ⟨w.heap.size, 2, none⟩) v0).trans q2
    have q3 := (hb2.frozen (p := ⟨w.heap.size, 3, none⟩) v0).trans q3
    have d0 := (hb2.cell (p := ⟨w.heap.size + 1, 0, none⟩) v1).trans d0
    have d1 := (hb2.cell (p := ⟨w.heap.size + 1, 1, none⟩) v1).trans d1
    have v1 : w.heap.size + 1 < w2.heap.size := by have := hb2.size; omega
    have v0 : w.heap.size < w2.heap.size := by have := hb2.size; omega
    have B2 := B1.trans (hb2.mono B1.size)
    have zz := B2.size
    clear hb2
    go_wp2_with fail
    refine (KS.out _ B2).mono ?_; rintro e w3 ⟨rfl, hb2⟩
    have r0 := (hb2.cell (p := ⟨w.heap.size, 0, none⟩) v0).trans r0
    have r1 := (hb2.cell (p := ⟨w.heap.size, 1, none⟩) v0).trans r1
    have r2 := (hb2.cell (p := ⟨w.heap.size, 2, none⟩) v0).trans r2
    have r3 := (hb2.cell (p := ⟨w.heap.size, 3, none⟩) v0).trans r3
    have q0 := (hb2.frozen (p := ⟨w.heap.size, 0, none⟩) v0).trans q0
    have q1 := (hb2.frozen (p := ⟨w.heap.size, 1, none⟩) v0).trans q1
    have q2 := (hb2.frozen (p := ⟨w.heap.size, 2, none⟩) v0).trans q2
    have q3 := (hb2.frozen (p := ⟨w.heap.size, 3, none⟩) v0).trans q3
    have d0 := (hb2.cell (p := ⟨w.heap.size + 1, 0, none⟩) v1).trans d0
    have d1 := (hb2.cell (p := ⟨w.heap.size + 1, 1, none⟩) v1).trans d1
    have v1 : w.heap.size + 1 < w3.heap.size := by have := hb2.size; omega
    have v0 : w.heap.size < w3.heap.size := by have := hb2.size; omega
    have B3 := B2.trans (hb2.mono B2.size)
    have zz := B3.size
    clear hb2
    go_wp2_with fail
    refine bodyPost_ret (v := .tuple #[.agg #[.int .i64 u, .int .i64 v, .int .i64 lo, .int .i64 hi], .bool true]) (by simp [results, Try.results84, go_sem, r0, r1, r2, r3, v0]) rfl ⟨rfl, ?_⟩
    repeat (first | with_reducible assumption | with_reducible exact Below.refl _ _ | with_reducible apply Below.drew | ((with_reducible refine Below.setCell ?_ ?_ _); rotate_left; (first | exact Nat.le_refl _ | omega | (simp <;> omega))) | ((with_reducible refine Below.alloc ?_ ?_ _); rotate_left; (first | omega | (simp <;> omega))))
  · have ho : okW l u v = false := by unfold okW dirB; simp [hc]
    rw [spV_f ho, ho]
    rw [hg] at K
    rw [hu] at KU
    rw [hv] at KV
    rw [show decide (Nat.gcd u.natAbs v.natAbs = 1) = false by simp [hc]] at KR
    clear hg hgg hu hv hu2 hv2 ho hR hc
    go_enter Try.func84, Try.ntmps84
    go_wp2_with fail
    obtain ⟨W0, hW0⟩ : ∃ W0, W0 = ((w.alloc (.cells #[.int .i64 0, .int .i64 0, .int .i64 0, .int .i64 0] 102)).alloc (.cells #[.int .i64 u, .int .i64 v] 100)) := ⟨_, rfl⟩
    rw [← hW0]
    have yW00_0 : W0.cell? ⟨w.heap.size, 0, none⟩ = some (.int .i64 0) := by rw [hW0]; go_simp
    have yW00_1 : W0.cell? ⟨w.heap.size, 1, none⟩ = some (.int .i64 0) := by rw [hW0]; go_simp
    have yW00_2 : W0.cell? ⟨w.heap.size, 2, none⟩ = some (.int .i64 0) := by rw [hW0]; go_simp
    have yW00_3 : W0.cell? ⟨w.heap.size, 3, none⟩ = some (.int .i64 0) := by rw [hW0]; go_simp
    have fW00 : ∀ o, W0.frozen? ⟨w.heap.size, o, none⟩ = false := by intro o; rw [hW0]; (repeat rw [frozen?_alloc_cells]); simp [World.frozen?]
    have zW00 : w.heap.size < W0.heap.size := by rw [hW0]; simp <;> omega
    have yW01_0 : W0.cell? ⟨w.heap.size + 1, 0, none⟩ = some (.int .i64 u) := by rw [hW0]; go_simp
    have yW01_1 : W0.cell? ⟨w.heap.size + 1, 1, none⟩ = some (.int .i64 v) := by rw [hW0]; go_simp
    have fW01 : ∀ o, W0.frozen? ⟨w.heap.size + 1, o, none⟩ = false := by intro o; rw [hW0]; (repeat rw [frozen?_alloc_cells]); simp [World.frozen?]
    have zW01 : w.heap.size + 1 < W0.heap.size := by rw [hW0]; simp <;> omega
    have BW0 : Below w.heap.size w W0 := by rw [hW0]; exact (Below.alloc (Below.alloc (Below.refl _ _) (by simp <;> omega) _) (by simp <;> omega) _)
    have eW0 : Hid (W0.heap.size = w.heap.size + 2) := Lib.hid (by rw [hW0]; simp)
    clear hW0
    refine (K.out _ BW0).mono ?_; rintro e w1 ⟨rfl, hb1⟩
    have B1 := BW0.trans (hb1.mono BW0.size)
    have r0 := (hb1.cell (p := ⟨w.heap.size, 0, none⟩) zW00).trans yW00_0
    have r1 := (hb1.cell (p := ⟨w.heap.size, 1, none⟩) zW00).trans yW00_1
    have r2 := (hb1.cell (p := ⟨w.heap.size, 2, none⟩) zW00).trans yW00_2
    have r3 := (hb1.cell (p := ⟨w.heap.size, 3, none⟩) zW00).trans yW00_3
    have q0 := (hb1.frozen (p := ⟨w.heap.size, 0, none⟩) zW00).trans (fW00 0)
    have q1 := (hb1.frozen (p := ⟨w.heap.size, 1, none⟩) zW00).trans (fW00 1)
    have q2 := (hb1.frozen (p := ⟨w.heap.size, 2, none⟩) zW00).trans (fW00 2)
    have q3 := (hb1.frozen (p := ⟨w.heap.size, 3, none⟩) zW00).trans (fW00 3)
    have d0 := (hb1.cell (p := ⟨w.heap.size + 1, 0, none⟩) zW01).trans yW01_0
    have d1 := (hb1.cell (p := ⟨w.heap.size + 1, 1, none⟩) zW01).trans yW01_1
    have v0 : w.heap.size < w1.heap.size := by have := hb1.size; omega
    have v1 : w.heap.size + 1 < w1.heap.size := by have := hb1.size; omega
    have zz := B1.size
    clear yW00_0 yW00_1 yW00_2 yW00_3 yW01_0 yW01_1 fW00 fW01 zW00 zW01 BW0 hb1 K
    go_wp2_with fail
    refine (KU.out _).mono ?_; rintro e _ ⟨rfl, rfl⟩
    go_wp2_with fail
    refine (KV.out _).mono ?_; rintro e _ ⟨rfl, rfl⟩
    go_wp2_with fail
    refine (KR.out _).mono ?_; rintro e w2 ⟨rfl, hb2⟩
    have r0 := (hb2.cell (p := ⟨w.heap.size, 0, none⟩) v0).trans r0
    have r1 := (hb2.cell (p := ⟨w.heap.size, 1, none⟩) v0).trans r1
    have r2 := (hb2.cell (p := ⟨w.heap.size, 2, none⟩) v0).trans r2
    have r3 := (hb2.cell (p := ⟨w.heap.size, 3, none⟩) v0).trans r3
    have q0 := (hb2.frozen (p := ⟨w.heap.size, 0, none⟩) v0).trans q0
    have q1 := (hb2.frozen (p := ⟨w.heap.size, 1, none⟩) v0).trans q1
    have q2 := (hb2.frozen (p := ⟨w.heap.size, 2, none⟩) v0).trans q2
    have q3 := (hb2.frozen (p := ⟨w.heap.size, 3, none⟩) v0).trans q3
    have d0 := (hb2.cell (p := ⟨w.heap.size + 1, 0, none⟩) v1).trans d0
    have d1 := (hb2.cell (p := ⟨w.heap.size + 1, 1, none⟩) v1).trans d1
    have v1 : w.heap.size + 1 < w2.heap.size := by have := hb2.size; omega
    have v0 : w.heap.size < w2.heap.size := by have := hb2.size; omega
    have B2 := B1.trans (hb2.mono B1.size)
    have zz := B2.size
    clear hb2
    go_wp2_with fail
    refine bodyPost_ret (v := .tuple #[.agg #[.int .i64 0, .int .i64 0, .int .i64 0, .int .i64 0], .bool false]) (by simp [results, Try.results84, go_sem, r0, r1, r2, r3, v0]) rfl ⟨rfl, ?_⟩
    repeat (first | with_reducible assumption | with_reducible exact Below.refl _ _ | with_reducible apply Below.drew | ((with_reducible refine Below.setCell ?_ ?_ _); rotate_left; (first | exact Nat.le_refl _ | omega | (simp <;> omega))) | ((with_reducible refine Below.alloc ?_ ?_ _); rotate_left; (first | omega | (simp <;> omega))))
theorem implWidthIn_any (A : Option Addr) (c : Nat) (l : List (Int × Int)) (u v : Int) (w : World) (hn : l.length ≤ 1048576) (hR : Rd w w.heap.size A l) :
    Calls Try.prog 35 #[.slice A l.length c, .int .i64 u, .int .i64 v] w fun e w' => e = .returned (.tuple #[.int .i64 (wdS l u v), .bool (okW l u v)]) ∧ Below w.heap.size w w' := by
  have K := Lib.hid (spanIn_any A c l u v w hn hR)
  have hx : ∃ a b x y : Int, spV l u v = .agg #[.int .i64 x, .int .i64 y, .int .i64 a, .int .i64 b] ∧ wdS l u v = b - a ∧ -16000 ≤ a ∧ a ≤ 16000 ∧ -16000 ≤ b ∧ b ≤ 16000 := by
    by_cases hk : okW l u v = true
    · have hk2 : goodB l = true ∧ dirB u v = true := by unfold okW at hk; simpa using hk
      obtain ⟨a1, a2, a3, a4, _⟩ := dirB_t hk2.2
      have hg : Good l := by unfold goodB at hk2; simpa using hk2.1
      have hb := lohi_bd a1 a2 a3 a4 hg.pegs (by have := hg.few; omega) l.length (Nat.le_refl _)
      exact ⟨_, _, _, _, spV_t hk, wdS_t hk, hb.1.1, hb.1.2, hb.2.1.1, hb.2.1.2⟩
    · have hkf : okW l u v = false := by simpa using hk
      exact ⟨0, 0, 0, 0, spV_f hkf, by rw [wdS_f hkf]; rfl, by omega, by omega, by omega, by omega⟩
  obtain ⟨a, b, x, y, e1, e2, a1, a2, b1, b2⟩ := hx
  rw [e1] at K
  rw [e2]
  have KW := Lib.hid (fun W => width_any x y a b W a1 a2 b1 b2)
  generalize okW l u v = ok at *
  clear e1 e2 a1 a2 b1 b2 hR
  go_enter Try.func35, Try.ntmps35
  go_wp2_with fail
  refine K.out.mono ?_; rintro e w1 ⟨rfl, hb1⟩
  go_wp2_with fail
  obtain ⟨W2, hW2⟩ : ∃ W2, W2 = (w1.alloc (.cells #[.int .i64 x, .int .i64 y, .int .i64 a, .int .i64 b] 102)) := ⟨_, rfl⟩
  rw [← hW2]
  have yW20_0 : W2.cell? ⟨w1.heap.size, 0, none⟩ = some (.int .i64 x) := by rw [hW2]; go_simp
  have yW20_1 : W2.cell? ⟨w1.heap.size, 1, none⟩ = some (.int .i64 y) := by rw [hW2]; go_simp
  have yW20_2 : W2.cell? ⟨w1.heap.size, 2, none⟩ = some (.int .i64 a) := by rw [hW2]; go_simp
  have yW20_3 : W2.cell? ⟨w1.heap.size, 3, none⟩ = some (.int .i64 b) := by rw [hW2]; go_simp
  have fW20 : ∀ o, W2.frozen? ⟨w1.heap.size, o, none⟩ = false := by intro o; rw [hW2]; (repeat rw [frozen?_alloc_cells]); simp [World.frozen?]
  have zW20 : w1.heap.size < W2.heap.size := by rw [hW2]; simp <;> omega
  have BW2 : Below w1.heap.size w1 W2 := by rw [hW2]; exact (Below.alloc (Below.refl _ _) (by simp <;> omega) _)
  have eW2 : Hid (W2.heap.size = w1.heap.size + 1) := Lib.hid (by rw [hW2]; simp)
  clear hW2
  have B2 := hb1.trans (BW2.mono hb1.size)
  refine (KW.out _).mono ?_; rintro e w3 ⟨rfl, hb3⟩
  go_wp2_with fail
  go_ret2
  exact ⟨rfl, B2.trans (hb3.mono B2.size)⟩
end Go.Proofs.Ytieimijkkjhegaa
