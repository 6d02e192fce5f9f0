/- joined: Cm Cn -/
import Derived.Test.YtgjegildeejghaaZPegOfParts4
import Derived.BigRegion
/- contract: PegOfParts, the program -/
namespace Go.Proofs.Ytgjegildeejghaa
open Go.ChangeShapes Go.WideShapes Go.ChangeAt Go.RowKit Go.Joins
set_option linter.unusedVariables false
set_option linter.unusedSimpArgs false
set_option maxRecDepth 4000
theorem isOfSizeM_any (n : Int) (w : World) :
    Calls Try.prog 79 #[.int .i64 n, .int .i64 1000000] w fun e w' => e = .returned (.bool (numB n)) ∧ w = w' := by
  unfold numB
  by_cases h1 : -1000000 ≤ n <;> by_cases h2 : n ≤ 1000000
  all_goals
    go_enter Try.func79, Try.ntmps79
    go_wp2
    go_ret
    exact ⟨by simp [h1, h2], rfl⟩
/-- the numbers together, and the corners weighed with them, behind k rounds -/
def smF (x y z : Int) : Nat → Int
  | 0 => 0
  | 1 => x
  | 2 => x + y
  | _ => x + y + z
def wxF (a b c x y z : Int) : Nat → Int
  | 0 => 0
  | 1 => a * x
  | 2 => a * x + b * y
  | _ => a * x + b * y + c * z
set_option maxHeartbeats 8000000 in
theorem implParts_walk (A : Option Addr) (c len b' off' c' : Nat) (a1 a2 b1 b2 c1 c2 x y z T X Y : Int) (w : World) (hbb : b' < w.heap.size)
    (U : Hid ((-40 ≤ a1 ∧ a1 ≤ 40) ∧ (-40 ≤ a2 ∧ a2 ≤ 40) ∧ (-40 ≤ b1 ∧ b1 ≤ 40) ∧ (-40 ≤ b2 ∧ b2 ≤ 40) ∧ (-40 ≤ c1 ∧ c1 ≤ 40) ∧ (-40 ≤ c2 ∧ c2 ≤ 40)))
    (hT0 : ¬ T = 0) (hT1 : Hid (-1000000 ≤ T ∧ T ≤ 1000000))
    (hX : Hid (x * a1 + y * b1 + z * c1 = X)) (hY : Hid (x * a2 + y * b2 + z * c2 = Y))
    (K : Hid (∀ W, Below w.heap.size w W → Calls Try.prog 56 #[.slice A len c] W fun e w' => e = .returned (.tuple #[.agg #[.int .i64 a1, .int .i64 a2, .int .i64 b1, .int .i64 b2, .int .i64 c1, .int .i64 c2], .bool true]) ∧ Below W.heap.size W w'))
    (KR : Hid (∀ W, Calls Try.prog 63 #[.agg #[.int .i64 a1, .int .i64 a2, .int .i64 b1, .int .i64 b2, .int .i64 c1, .int .i64 c2]] W fun e w' => e = .returned (.int .i64 T) ∧ Below W.heap.size W w'))
    (HN : Hid (∀ W, Below w.heap.size w W → Ri3 W b' off' x y z)) :
    Calls Try.prog 49 #[.slice A len c, .slice (some ⟨b', off', none⟩) 3 c'] w fun e w' => e = .returned (.tuple #[.agg #[.int .i64 (isel (pqB x y z T X Y) (X.tdiv T)), .int .i64 (isel (pqB x y z T X Y) (Y.tdiv T))], .bool (pqB x y z T X Y)]) ∧ Below w.heap.size w w' := by
  have KP := Lib.hid (fun W => implIsPeg_any (X.tdiv T) (Y.tdiv T) W)
  have KI := Lib.hid (fun n W => isOfSizeM_any n W)
  have EX : Hid (wxF a1 b1 c1 x y z 3 = X ∧ wxF a2 b2 c2 x y z 3 = Y) := Lib.hid ⟨by rw [← hX.out]; show a1 * x + b1 * y + c1 * z = _; grind, by rw [← hY.out]; show a2 * x + b2 * y + c2 * z = _; grind⟩
  have E0 : Hid (pqB x y z T X Y = ((numB x && (numB y && numB z)) && (decide (x + y + z = T) && (decide (X.tmod T = 0) && (decide (Y.tmod T = 0) && isPegB (X.tdiv T) (Y.tdiv T)))))) := Lib.hid rfl
  generalize pqB x y z T X Y = ok at *
  go_enter Try.func49, Try.ntmps49
  go_wp2_with fail
  obtain ⟨Wa, hWa⟩ : ∃ Wa, Wa = (w.alloc (.cells #[.int .i64 0, .int .i64 0] 46)) := ⟨_, rfl⟩
  rw [← hWa]
  have yWa0_0 : Wa.cell? ⟨w.heap.size, 0, none⟩ = some (.int .i64 0) := by rw [hWa]; go_simp
  have yWa0_1 : Wa.cell? ⟨w.heap.size, 1, none⟩ = some (.int .i64 0) := by rw [hWa]; go_simp
  have fWa0 : ∀ o, Wa.frozen? ⟨w.heap.size, o, none⟩ = false := by intro o; rw [hWa]; (repeat rw [frozen?_alloc_cells]); simp [World.frozen?]
  have zWa0 : w.heap.size < Wa.heap.size := by rw [hWa]; simp <;> omega
  have BWa : Below w.heap.size w Wa := by rw [hWa]; exact (Below.alloc (Below.refl _ _) (by simp <;> omega) _)
  have eWa : Hid (Wa.heap.size = w.heap.size + 1) := Lib.hid (by rw [hWa]; simp)
  clear hWa
  refine (K.out _ BWa).mono ?_; rintro e w1 ⟨rfl, hb1⟩
  have q0 := ((bcell hb1).1 _ _ zWa0).trans yWa0_0
  have q1 := ((bcell hb1).1 _ _ zWa0).trans yWa0_1
  have f0 := fun o => ((bcell hb1).2 _ o zWa0).trans (fWa0 o)
  have z1 : w.heap.size < w1.heap.size := Nat.lt_of_lt_of_le zWa0 hb1.size
  have B1 := BWa.trans (hb1.mono BWa.size)
  clear hb1 BWa yWa0_0 yWa0_1 fWa0 zWa0 eWa K
  go_wp2_with fail
  obtain ⟨W0, hW0⟩ : ∃ W0, W0 = ((w1.alloc (.cells #[.int .i64 a1, .int .i64 a2, .int .i64 b1, .int .i64 b2, .int .i64 c1, .int .i64 c2] 67)).alloc (.cells #[.int .i64 0, .int .i64 0] 46)) := ⟨_, rfl⟩
  rw [← hW0]
  have yW00_0 : W0.cell? ⟨w1.heap.size, 0, none⟩ = some (.int .i64 a1) := by rw [hW0]; go_simp
  have yW00_1 : W0.cell? ⟨w1.heap.size, 1, none⟩ = some (.int .i64 a2) := by rw [hW0]; go_simp
  have yW00_2 : W0.cell? ⟨w1.heap.size, 2, none⟩ = some (.int .i64 b1) := by rw [hW0]; go_simp
  have yW00_3 : W0.cell? ⟨w1.heap.size, 3, none⟩ = some (.int .i64 b2) := by rw [hW0]; go_simp
  have yW00_4 : W0.cell? ⟨w1.heap.size, 4, none⟩ = some (.int .i64 c1) := by rw [hW0]; go_simp
  have yW00_5 : W0.cell? ⟨w1.heap.size, 5, none⟩ = some (.int .i64 c2) := by rw [hW0]; go_simp
  have fW00 : ∀ o, W0.frozen? ⟨w1.heap.size, o, none⟩ = false := by intro o; rw [hW0]; (repeat rw [frozen?_alloc_cells]); simp [World.frozen?]
  have zW00 : w1.heap.size < W0.heap.size := by rw [hW0]; simp <;> omega
  have yW01_0 : W0.cell? ⟨w1.heap.size + 1, 0, none⟩ = some (.int .i64 0) := by rw [hW0]; go_simp
  have yW01_1 : W0.cell? ⟨w1.heap.size + 1, 1, none⟩ = some (.int .i64 0) := by rw [hW0]; go_simp
  have fW01 : ∀ o, W0.frozen? ⟨w1.heap.size + 1, o, none⟩ = false := by intro o; rw [hW0]; (repeat rw [frozen?_alloc_cells]); simp [World.frozen?]
  have zW01 : w1.heap.size + 1 < W0.heap.size := by rw [hW0]; simp <;> omega
  have BW0 : Below w1.heap.size w1 W0 := by rw [hW0]; exact (Below.alloc (Below.alloc (Below.refl _ _) (by simp <;> omega) _) (by simp <;> omega) _)
  have eW0 : Hid (W0.heap.size = w1.heap.size + 2) := Lib.hid (by rw [hW0]; simp)
  clear hW0
  have HS := Lib.hid (show MsR w W0 W0 (w1.heap.size + 1) (wxF a1 b1 c1 x y z 0, wxF a2 b2 c2 x y z 0) from ⟨B1.trans (BW0.mono B1.size), Nat.le_refl _, fun b o _ _ => ⟨rfl, rfl⟩, yW01_0, yW01_1, fW01⟩)
  have HX := Lib.hid (And.intro yW00_0 (And.intro yW00_1 (And.intro yW00_2 (And.intro yW00_3 (And.intro yW00_4 yW00_5)))))
  have HY := Lib.hid (And.intro (((bcell BW0).1 _ _ z1).trans q0) (And.intro (((bcell BW0).1 _ _ z1).trans q1) (fun o => ((bcell BW0).2 _ o z1).trans (f0 o))))
  have zz := BW0.size
  have zo : w.heap.size < W0.heap.size := by omega
  have no : w.heap.size ≠ w1.heap.size + 1 := by omega
  have nt : w1.heap.size ≠ w1.heap.size + 1 := by omega
  have wz : w.heap.size ≤ w1.heap.size + 1 := by omega
  clear q0 q1 f0 z1 B1 BW0 yW00_0 yW00_1 yW00_2 yW00_3 yW00_4 yW00_5 yW01_0 yW01_1 fW00 fW01 eW0 zz
  go_loopg [8, 29] 3 (fun gg s i wr => ∃ k : Nat, k ≤ 3 ∧ gg = 3 - k ∧ s = .int .i64 (smF x y z k) ∧ i = .int .i64 k ∧ Hid (MsR w W0 wr (w1.heap.size + 1) (wxF a1 b1 c1 x y z k, wxF a2 b2 c2 x y z k)) ∧ Hid ((0 < k → numB x = true) ∧ (1 < k → numB y = true) ∧ (2 < k → numB z = true)))
  case atStart => exact ⟨0, Nat.zero_le _, rfl, rfl, rfl, HS, Lib.hid ⟨fun h => absurd h (by omega), fun h => absurd h (by omega), fun h => absurd h (by omega)⟩⟩
  case round =>
    clear HS
    obtain ⟨k, hk, hgg, rfl, rfl, hS, hF⟩ := hrel
    rename World => wo
    have HGK := Lib.hid hgg
    clear hgg
    rcases (show k = 0 ∨ k = 1 ∨ k = 2 ∨ k = 3 by omega) with rfl | rfl | rfl | rfl
    · skip
      obtain ⟨i0, i1, i2⟩ := HN.out wo hS.out.below
      have zi : b' < wo.heap.size := by have := hS.out.size; have := hS.out.below.size; omega
      obtain ⟨h0, h1, h2, h3, h4, h5⟩ := HX.out
      have zt : w1.heap.size < wo.heap.size := by have := hS.out.size; omega
      have zg : w1.heap.size + 1 < wo.heap.size := by have := hS.out.size; omega
      have p0 := (hS.out.other _ 0 zW00 nt).1.trans h0
      have p1 := (hS.out.other _ 1 zW00 nt).1.trans h1
      clear h0 h1 h2 h3 h4 h5
      have r0 : wo.cell? ⟨w1.heap.size + 1, 0, none⟩ = some (.int .i64 (0)) := hS.out.c0
      have r1 : wo.cell? ⟨w1.heap.size + 1, 1, none⟩ = some (.int .i64 (0)) := hS.out.c1
      obtain ⟨u1, u2, u3, u4, u5, u6⟩ := U.out
      by_cases hn : numB x = true
      · have NB := Lib.hid hn
        have F2 := Lib.hid (show ((0 < 1 → numB x = true) ∧ (1 < 1 → numB y = true) ∧ (2 < 1 → numB z = true)) from ⟨fun _ => NB.out, fun h => absurd h (by omega), fun h => absurd h (by omega)⟩)
        have KIk := Lib.hid (fun W => KI.out x W)
        rw [hn] at KIk
        have nb0 : -1000000 ≤ x ∧ x ≤ 1000000 := by
          have := F2.out.1 (by omega)
          unfold numB at this
          simpa using this
        have m0 := mul_bd (x := a1) (y := x) (m := 40) (n := 1000000) (by omega) (by omega) (by omega) (by omega)
        have mm0 := mul_bd (x := a2) (y := x) (m := 40) (n := 1000000) (by omega) (by omega) (by omega) (by omega)
        have es : IntKind.i64.wrap (x) = x := IntWalk.i64_in _ (by omega)
        have KT := Lib.hid (fun W => times_any a1 a2 x W (by omega) (by omega))
        have KL : Hid (∀ W, Calls Try.prog 80 #[.agg #[.int .i64 (0), .int .i64 (0)], .agg #[.int .i64 (a1 * x), .int .i64 (a2 * x)]] W fun e w' => e = .returned (.agg #[.int .i64 (a1 * x), .int .i64 (a2 * x)]) ∧ Below W.heap.size W w') := Lib.hid (fun W => by have := plus_any 0 0 (a1 * x) (a2 * x) W (by unfold Mid; omega) (by unfold Mid; omega) (by unfold Mid; omega) (by unfold Mid; omega); rw [Int.zero_add, Int.zero_add] at this; exact this)
        clear hn nb0 m0 mm0 u1 u2 u3 u4 u5 u6
        unfold smF
        go_wp2_with fail
        refine (KIk.out _).mono ?_; rintro e _ ⟨rfl, rfl⟩
        go_wp2_with fail
        clear i0 i1 i2 zi
        refine wp_region_BT 7 (fun W => Below (wo).heap.size (wo) W) (by kernel_rfl) (by kernel_rfl) (by repeat (first | exact Below.refl _ _ | apply Below.drew)) ?_
        simp only [List.take_succ_cons, List.take_zero, List.drop_succ_cons, List.drop_zero]
        first | refine wpH_skip (by rfl) ?_ | (refine wpH_text (v := ?_) (by rfl) (fun W k1 => ?_) ?_; rotate_left; (obtain ⟨hc1, hf1⟩ := bcell k1;  go_simp; refine comes_v ?_; exact k1))
        (try simp only [Act.put, List.setIfInBounds_toArray, List.set_cons_zero, List.set_cons_succ])
        first | refine wpH_skip (by rfl) ?_ | (refine wpH_text (v := ?_) (by rfl) (fun W k1 => ?_) ?_; rotate_left; (obtain ⟨hc1, hf1⟩ := bcell k1;  go_simp; refine comes_v ?_; exact k1))
        (try simp only [Act.put, List.setIfInBounds_toArray, List.set_cons_zero, List.set_cons_succ])
        first | refine wpH_skip (by rfl) ?_ | (refine wpH_text (v := ?_) (by rfl) (fun W k1 => ?_) ?_; rotate_left; (obtain ⟨hc1, hf1⟩ := bcell k1;  go_simp; refine comes_v ?_; exact k1))
        (try simp only [Act.put, List.setIfInBounds_toArray, List.set_cons_zero, List.set_cons_succ])
        first | refine wpH_skip (by rfl) ?_ | (refine wpH_text (v := ?_) (by rfl) (fun W k1 => ?_) ?_; rotate_left; (obtain ⟨hc1, hf1⟩ := bcell k1;  go_simp; refine comes_v ?_; exact k1))
        (try simp only [Act.put, List.setIfInBounds_toArray, List.set_cons_zero, List.set_cons_succ])
        first | refine wpH_skip (by rfl) ?_ | (refine wpH_text (v := ?_) (by rfl) (fun W k1 => ?_) ?_; rotate_left; (obtain ⟨hc1, hf1⟩ := bcell k1;  go_simp; refine comes_v ?_; exact k1))
        (try simp only [Act.put, List.setIfInBounds_toArray, List.set_cons_zero, List.set_cons_succ])
        first | refine wpH_skip (by rfl) ?_ | (refine wpH_text (v := .agg #[.int .i64 (a1 * x), .int .i64 (a2 * x)]) (by rfl) (fun W k1 => ?_) ?_; (obtain ⟨hc1, hf1⟩ := bcell k1;  go_simp; exact comes_c ( KT.out _) (fun wn hbn => k1.trans (hbn.mono k1.size))))
        (try simp only [Act.put, List.setIfInBounds_toArray, List.set_cons_zero, List.set_cons_succ])
        first | refine wpH_skip (by rfl) ?_ | (refine wpH_text (v := .agg #[.int .i64 (a1 * x), .int .i64 (a2 * x)]) (by rfl) (fun W k1 => ?_) ?_; (obtain ⟨hc1, hf1⟩ := bcell k1;  go_simp; exact comes_c ( KL.out _) (fun wn hbn => k1.trans (hbn.mono k1.size))))
        (try simp only [Act.put, List.setIfInBounds_toArray, List.set_cons_zero, List.set_cons_succ])
        refine wpH_nil ?_
        intro W k1; obtain ⟨hc1, hf1⟩ := bcell k1
        have S4 := Lib.hid (msr_below hS.out zW01 k1)
        have q0 := S4.out.c0
        have q1 := S4.out.c1
        have q2 := S4.out.f 0
        have q3 := S4.out.f 1
        have S5 := Lib.hid (show MsR w W0 _ (w1.heap.size + 1) (wxF a1 b1 c1 x y z 1, wxF a2 b2 c2 x y z 1) from msr_store S4.out wz (a1 * x) (a2 * x))
        have zh : w1.heap.size + 1 < W.heap.size := by have := S4.out.size; omega
        clear hc1 hf1 r0 r1 p0 p1 hS S4 zt zg
        go_wp2_with fail
        go_roundg (3 - (0 + 1))
        case measure => have := HGK.out; omega
        case rel => exact ⟨0 + 1, by omega, rfl, (by simp [smF, es]), by go_num, S5, F2⟩
      · have hn2 : numB x = false := by simpa using hn
        have KIk := Lib.hid (fun W => KI.out x W)
        rw [hn2] at KIk
        have NB := Lib.hid hn2
        clear hn hn2 u1 u2 u3 u4 u5 u6
        go_wp2_with fail
        refine (KIk.out _).mono ?_; rintro e _ ⟨rfl, rfl⟩
        clear i0 i1 i2 zi r0 r1 p0 p1 zt zg
        have OKF : Hid (ok = false) := Lib.hid (by rw [E0.out, NB.out]; simp)
        have q0 := (hS.out.other _ 0 zo no).1.trans HY.out.1
        have q1 := (hS.out.other _ 1 zo no).1.trans HY.out.2.1
        have f0 := (hS.out.other _ 0 zo no).2.trans (HY.out.2.2 0)
        have f1 := (hS.out.other _ 1 zo no).2.trans (HY.out.2.2 1)
        have zs : w.heap.size < wo.heap.size := by have := hS.out.size; omega
        have BE := hS.out.below
        clear hS
        go_wp2_with fail
        refine bodyPost_ret (v := .tuple #[.agg #[.int .i64 0, .int .i64 0], .bool false]) (by simp [results, Try.results49, go_sem, q0, q1, zs]) rfl ⟨by rw [OKF.out, isel_f, isel_f], ?_⟩
        repeat (first | with_reducible assumption | with_reducible exact Below.refl _ _ | with_reducible apply Below.drew | ((with_reducible refine Below.setCell ?_ ?_ _); rotate_left; (first | exact Nat.le_refl _ | omega | (simp <;> omega))) | ((with_reducible refine Below.alloc ?_ ?_ _); rotate_left; (first | omega | (simp <;> omega))))
    · skip
      obtain ⟨i0, i1, i2⟩ := HN.out wo hS.out.below
      have zi : b' < wo.heap.size := by have := hS.out.size; have := hS.out.below.size; omega
      obtain ⟨h0, h1, h2, h3, h4, h5⟩ := HX.out
      have zt : w1.heap.size < wo.heap.size := by have := hS.out.size; omega
      have zg : w1.heap.size + 1 < wo.heap.size := by have := hS.out.size; omega
      have p0 := (hS.out.other _ 2 zW00 nt).1.trans h2
      have p1 := (hS.out.other _ 3 zW00 nt).1.trans h3
      clear h0 h1 h2 h3 h4 h5
      have r0 : wo.cell? ⟨w1.heap.size + 1, 0, none⟩ = some (.int .i64 (a1 * x)) := hS.out.c0
      have r1 : wo.cell? ⟨w1.heap.size + 1, 1, none⟩ = some (.int .i64 (a2 * x)) := hS.out.c1
      obtain ⟨u1, u2, u3, u4, u5, u6⟩ := U.out
      by_cases hn : numB y = true
      · have NB := Lib.hid hn
        have F2 := Lib.hid (show ((0 < 2 → numB x = true) ∧ (1 < 2 → numB y = true) ∧ (2 < 2 → numB z = true)) from ⟨fun _ => hF.out.1 (by omega), fun _ => NB.out, fun h => absurd h (by omega)⟩)
        have KIk := Lib.hid (fun W => KI.out y W)
        rw [hn] at KIk
        have nb0 : -1000000 ≤ x ∧ x ≤ 1000000 := by
          have := F2.out.1 (by omega)
          unfold numB at this
          simpa using this
        have nb1 : -1000000 ≤ y ∧ y ≤ 1000000 := by
          have := F2.out.2.1 (by omega)
          unfold numB at this
          simpa using this
        have m0 := mul_bd (x := a1) (y := x) (m := 40) (n := 1000000) (by omega) (by omega) (by omega) (by omega)
        have mm0 := mul_bd (x := a2) (y := x) (m := 40) (n := 1000000) (by omega) (by omega) (by omega) (by omega)
        have m1 := mul_bd (x := b1) (y := y) (m := 40) (n := 1000000) (by omega) (by omega) (by omega) (by omega)
        have mm1 := mul_bd (x := b2) (y := y) (m := 40) (n := 1000000) (by omega) (by omega) (by omega) (by omega)
        have es : IntKind.i64.wrap (x + y) = x + y := IntWalk.i64_in _ (by omega)
        have KT := Lib.hid (fun W => times_any b1 b2 y W (by omega) (by omega))
        have KL : Hid (∀ W, Calls Try.prog 80 #[.agg #[.int .i64 (a1 * x), .int .i64 (a2 * x)], .agg #[.int .i64 (b1 * y), .int .i64 (b2 * y)]] W fun e w' => e = .returned (.agg #[.int .i64 (a1 * x + b1 * y), .int .i64 (a2 * x + b2 * y)]) ∧ Below W.heap.size W w') := Lib.hid (fun W => by exact plus_any (a1 * x) (a2 * x) (b1 * y) (b2 * y) W (by unfold Mid; omega) (by unfold Mid; omega) (by unfold Mid; omega) (by unfold Mid; omega))
        clear hn nb0 m0 mm0 nb1 m1 mm1 u1 u2 u3 u4 u5 u6
        unfold smF
        go_wp2_with fail
        refine (KIk.out _).mono ?_; rintro e _ ⟨rfl, rfl⟩
        go_wp2_with fail
        clear i0 i1 i2 zi
        refine wp_region_BT 7 (fun W => Below (wo).heap.size (wo) W) (by kernel_rfl) (by kernel_rfl) (by repeat (first | exact Below.refl _ _ | apply Below.drew)) ?_
        simp only [List.take_succ_cons, List.take_zero, List.drop_succ_cons, List.drop_zero]
        first | refine wpH_skip (by rfl) ?_ | (refine wpH_text (v := ?_) (by rfl) (fun W k1 => ?_) ?_; rotate_left; (obtain ⟨hc1, hf1⟩ := bcell k1;  go_simp; refine comes_v ?_; exact k1))
        (try simp only [Act.put, List.setIfInBounds_toArray, List.set_cons_zero, List.set_cons_succ])
        first | refine wpH_skip (by rfl) ?_ | (refine wpH_text (v := ?_) (by rfl) (fun W k1 => ?_) ?_; rotate_left; (obtain ⟨hc1, hf1⟩ := bcell k1;  go_simp; refine comes_v ?_; exact k1))
        (try simp only [Act.put, List.setIfInBounds_toArray, List.set_cons_zero, List.set_cons_succ])
        first | refine wpH_skip (by rfl) ?_ | (refine wpH_text (v := ?_) (by rfl) (fun W k1 => ?_) ?_; rotate_left; (obtain ⟨hc1, hf1⟩ := bcell k1;  go_simp; refine comes_v ?_; exact k1))
        (try simp only [Act.put, List.setIfInBounds_toArray, List.set_cons_zero, List.set_cons_succ])
        first | refine wpH_skip (by rfl) ?_ | (refine wpH_text (v := ?_) (by rfl) (fun W k1 => ?_) ?_; rotate_left; (obtain ⟨hc1, hf1⟩ := bcell k1;  go_simp; refine comes_v ?_; exact k1))
        (try simp only [Act.put, List.setIfInBounds_toArray, List.set_cons_zero, List.set_cons_succ])
        first | refine wpH_skip (by rfl) ?_ | (refine wpH_text (v := ?_) (by rfl) (fun W k1 => ?_) ?_; rotate_left; (obtain ⟨hc1, hf1⟩ := bcell k1;  go_simp; refine comes_v ?_; exact k1))
        (try simp only [Act.put, List.setIfInBounds_toArray, List.set_cons_zero, List.set_cons_succ])
        first | refine wpH_skip (by rfl) ?_ | (refine wpH_text (v := .agg #[.int .i64 (b1 * y), .int .i64 (b2 * y)]) (by rfl) (fun W k1 => ?_) ?_; (obtain ⟨hc1, hf1⟩ := bcell k1;  go_simp; exact comes_c ( KT.out _) (fun wn hbn => k1.trans (hbn.mono k1.size))))
        (try simp only [Act.put, List.setIfInBounds_toArray, List.set_cons_zero, List.set_cons_succ])
        first | refine wpH_skip (by rfl) ?_ | (refine wpH_text (v := .agg #[.int .i64 (a1 * x + b1 * y), .int .i64 (a2 * x + b2 * y)]) (by rfl) (fun W k1 => ?_) ?_; (obtain ⟨hc1, hf1⟩ := bcell k1;  go_simp; exact comes_c ( KL.out _) (fun wn hbn => k1.trans (hbn.mono k1.size))))
        (try simp only [Act.put, List.setIfInBounds_toArray, List.set_cons_zero, List.set_cons_succ])
        refine wpH_nil ?_
        intro W k1; obtain ⟨hc1, hf1⟩ := bcell k1
        have S4 := Lib.hid (msr_below hS.out zW01 k1)
        have q0 := S4.out.c0
        have q1 := S4.out.c1
        have q2 := S4.out.f 0
        have q3 := S4.out.f 1
        have S5 := Lib.hid (show MsR w W0 _ (w1.heap.size + 1) (wxF a1 b1 c1 x y z 2, wxF a2 b2 c2 x y z 2) from msr_store S4.out wz (a1 * x + b1 * y) (a2 * x + b2 * y))
        have zh : w1.heap.size + 1 < W.heap.size := by have := S4.out.size; omega
        clear hc1 hf1 r0 r1 p0 p1 hS S4 zt zg
        go_wp2_with fail
        go_roundg (3 - (1 + 1))
        case measure => have := HGK.out; omega
        case rel => exact ⟨1 + 1, by omega, rfl, (by simp [smF, es]), by go_num, S5, F2⟩
      · have hn2 : numB y = false := by simpa using hn
        have KIk := Lib.hid (fun W => KI.out y W)
        rw [hn2] at KIk
        have NB := Lib.hid hn2
        clear hn hn2 u1 u2 u3 u4 u5 u6
        go_wp2_with fail
        refine (KIk.out _).mono ?_; rintro e _ ⟨rfl, rfl⟩
        clear i0 i1 i2 zi r0 r1 p0 p1 zt zg
        have OKF : Hid (ok = false) := Lib.hid (by rw [E0.out, NB.out]; simp)
        have q0 := (hS.out.other _ 0 zo no).1.trans HY.out.1
        have q1 := (hS.out.other _ 1 zo no).1.trans HY.out.2.1
        have f0 := (hS.out.other _ 0 zo no).2.trans (HY.out.2.2 0)
        have f1 := (hS.out.other _ 1 zo no).2.trans (HY.out.2.2 1)
        have zs : w.heap.size < wo.heap.size := by have := hS.out.size; omega
        have BE := hS.out.below
        clear hS
        go_wp2_with fail
        refine bodyPost_ret (v := .tuple #[.agg #[.int .i64 0, .int .i64 0], .bool false]) (by simp [results, Try.results49, go_sem, q0, q1, zs]) rfl ⟨by rw [OKF.out, isel_f, isel_f], ?_⟩
        repeat (first | with_reducible assumption | with_reducible exact Below.refl _ _ | with_reducible apply Below.drew | ((with_reducible refine Below.setCell ?_ ?_ _); rotate_left; (first | exact Nat.le_refl _ | omega | (simp <;> omega))) | ((with_reducible refine Below.alloc ?_ ?_ _); rotate_left; (first | omega | (simp <;> omega))))
    · skip
      obtain ⟨i0, i1, i2⟩ := HN.out wo hS.out.below
      have zi : b' < wo.heap.size := by have := hS.out.size; have := hS.out.below.size; omega
      obtain ⟨h0, h1, h2, h3, h4, h5⟩ := HX.out
      have zt : w1.heap.size < wo.heap.size := by have := hS.out.size; omega
      have zg : w1.heap.size + 1 < wo.heap.size := by have := hS.out.size; omega
      have p0 := (hS.out.other _ 4 zW00 nt).1.trans h4
      have p1 := (hS.out.other _ 5 zW00 nt).1.trans h5
      clear h0 h1 h2 h3 h4 h5
      have r0 : wo.cell? ⟨w1.heap.size + 1, 0, none⟩ = some (.int .i64 (a1 * x + b1 * y)) := hS.out.c0
      have r1 : wo.cell? ⟨w1.heap.size + 1, 1, none⟩ = some (.int .i64 (a2 * x + b2 * y)) := hS.out.c1
      obtain ⟨u1, u2, u3, u4, u5, u6⟩ := U.out
      by_cases hn : numB z = true
      · have NB := Lib.hid hn
        have F2 := Lib.hid (show ((0 < 3 → numB x = true) ∧ (1 < 3 → numB y = true) ∧ (2 < 3 → numB z = true)) from ⟨fun _ => hF.out.1 (by omega), fun _ => hF.out.2.1 (by omega), fun _ => NB.out⟩)
        have KIk := Lib.hid (fun W => KI.out z W)
        rw [hn] at KIk
        have nb0 : -1000000 ≤ x ∧ x ≤ 1000000 := by
          have := F2.out.1 (by omega)
          unfold numB at this
          simpa using this
        have nb1 : -1000000 ≤ y ∧ y ≤ 1000000 := by
          have := F2.out.2.1 (by omega)
          unfold numB at this
          simpa using this
        have nb2 : -1000000 ≤ z ∧ z ≤ 1000000 := by
          have := F2.out.2.2 (by omega)
          unfold numB at this
          simpa using this
        have m0 := mul_bd (x := a1) (y := x) (m := 40) (n := 1000000) (by omega) (by omega) (by omega) (by omega)
        have mm0 := mul_bd (x := a2) (y := x) (m := 40) (n := 1000000) (by omega) (by omega) (by omega) (by omega)
        have m1 := mul_bd (x := b1) (y := y) (m := 40) (n := 1000000) (by omega) (by omega) (by omega) (by omega)
        have mm1 := mul_bd (x := b2) (y := y) (m := 40) (n := 1000000) (by omega) (by omega) (by omega) (by omega)
        have m2 := mul_bd (x := c1) (y := z) (m := 40) (n := 1000000) (by omega) (by omega) (by omega) (by omega)
        have mm2 := mul_bd (x := c2) (y := z) (m := 40) (n := 1000000) (by omega) (by omega) (by omega) (by omega)
        have es : IntKind.i64.wrap (x + y + z) = x + y + z := IntWalk.i64_in _ (by omega)
        have KT := Lib.hid (fun W => times_any c1 c2 z W (by omega) (by omega))
        have KL : Hid (∀ W, Calls Try.prog 80 #[.agg #[.int .i64 (a1 * x + b1 * y), .int .i64 (a2 * x + b2 * y)], .agg #[.int .i64 (c1 * z), .int .i64 (c2 * z)]] W fun e w' => e = .returned (.agg #[.int .i64 (a1 * x + b1 * y + c1 * z), .int .i64 (a2 * x + b2 * y + c2 * z)]) ∧ Below W.heap.size W w') := Lib.hid (fun W => by exact plus_any (a1 * x + b1 * y) (a2 * x + b2 * y) (c1 * z) (c2 * z) W (by unfold Mid; omega) (by unfold Mid; omega) (by unfold Mid; omega) (by unfold Mid; omega))
        clear hn nb0 m0 mm0 nb1 m1 mm1 nb2 m2 mm2 u1 u2 u3 u4 u5 u6
        unfold smF
        go_wp2_with fail
        refine (KIk.out _).mono ?_; rintro e _ ⟨rfl, rfl⟩
        go_wp2_with fail
        clear i0 i1 i2 zi
        refine wp_region_BT 7 (fun W => Below (wo).heap.size (wo) W) (by kernel_rfl) (by kernel_rfl) (by repeat (first | exact Below.refl _ _ | apply Below.drew)) ?_
        simp only [List.take_succ_cons, List.take_zero, List.drop_succ_cons, List.drop_zero]
        first | refine wpH_skip (by rfl) ?_ | (refine wpH_text (v := ?_) (by rfl) (fun W k1 => ?_) ?_; rotate_left; (obtain ⟨hc1, hf1⟩ := bcell k1;  go_simp; refine comes_v ?_; exact k1))
        (try simp only [Act.put, List.setIfInBounds_toArray, List.set_cons_zero, List.set_cons_succ])
        first | refine wpH_skip (by rfl) ?_ | (refine wpH_text (v := ?_) (by rfl) (fun W k1 => ?_) ?_; rotate_left; (obtain ⟨hc1, hf1⟩ := bcell k1;  go_simp; refine comes_v ?_; exact k1))
        (try simp only [Act.put, List.setIfInBounds_toArray, List.set_cons_zero, List.set_cons_succ])
        first | refine wpH_skip (by rfl) ?_ | (refine wpH_text (v := ?_) (by rfl) (fun W k1 => ?_) ?_; rotate_left; (obtain ⟨hc1, hf1⟩ := bcell k1;  go_simp; refine comes_v ?_; exact k1))
        (try simp only [Act.put, List.setIfInBounds_toArray, List.set_cons_zero, List.set_cons_succ])
        first | refine wpH_skip (by rfl) ?_ | (refine wpH_text (v := ?_) (by rfl) (fun W k1 => ?_) ?_; rotate_left; (obtain ⟨hc1, hf1⟩ := bcell k1;  go_simp; refine comes_v ?_; exact k1))
        (try simp only [Act.put, List.setIfInBounds_toArray, List.set_cons_zero, List.set_cons_succ])
        first | refine wpH_skip (by rfl) ?_ | (refine wpH_text (v := ?_) (by rfl) (fun W k1 => ?_) ?_; rotate_left; (obtain ⟨hc1, hf1⟩ := bcell k1;  go_simp; refine comes_v ?_; exact k1))
        (try simp only [Act.put, List.setIfInBounds_toArray, List.set_cons_zero, List.set_cons_succ])
        first | refine wpH_skip (by rfl) ?_ | (refine wpH_text (v := .agg #[.int .i64 (c1 * z), .int .i64 (c2 * z)]) (by rfl) (fun W k1 => ?_) ?_; (obtain ⟨hc1, hf1⟩ := bcell k1;  go_simp; exact comes_c ( KT.out _) (fun wn hbn => k1.trans (hbn.mono k1.size))))
        (try simp only [Act.put, List.setIfInBounds_toArray, List.set_cons_zero, List.set_cons_succ])
        first | refine wpH_skip (by rfl) ?_ | (refine wpH_text (v := .agg #[.int .i64 (a1 * x + b1 * y + c1 * z), .int .i64 (a2 * x + b2 * y + c2 * z)]) (by rfl) (fun W k1 => ?_) ?_; (obtain ⟨hc1, hf1⟩ := bcell k1;  go_simp; exact comes_c ( KL.out _) (fun wn hbn => k1.trans (hbn.mono k1.size))))
        (try simp only [Act.put, List.setIfInBounds_toArray, List.set_cons_zero, List.set_cons_succ])
        refine wpH_nil ?_
        intro W k1; obtain ⟨hc1, hf1⟩ := bcell k1
        have S4 := Lib.hid (msr_below hS.out zW01 k1)
        have q0 := S4.out.c0
        have q1 := S4.out.c1
        have q2 := S4.out.f 0
        have q3 := S4.out.f 1
        have S5 := Lib.hid (show MsR w W0 _ (w1.heap.size + 1) (wxF a1 b1 c1 x y z 3, wxF a2 b2 c2 x y z 3) from msr_store S4.out wz (a1 * x + b1 * y + c1 * z) (a2 * x + b2 * y + c2 * z))
        have zh : w1.heap.size + 1 < W.heap.size := by have := S4.out.size; omega
        clear hc1 hf1 r0 r1 p0 p1 hS S4 zt zg
        go_wp2_with fail
        go_roundg (3 - (2 + 1))
        case measure => have := HGK.out; omega
        case rel => exact ⟨2 + 1, by omega, rfl, (by simp [smF, es]), by go_num, S5, F2⟩
      · have hn2 : numB z = false := by simpa using hn
        have KIk := Lib.hid (fun W => KI.out z W)
        rw [hn2] at KIk
        have NB := Lib.hid hn2
        clear hn hn2 u1 u2 u3 u4 u5 u6
        go_wp2_with fail
        refine (KIk.out _).mono ?_; rintro e _ ⟨rfl, rfl⟩
        clear i0 i1 i2 zi r0 r1 p0 p1 zt zg
        have OKF : Hid (ok = false) := Lib.hid (by rw [E0.out, NB.out]; simp)
        have q0 := (hS.out.other _ 0 zo no).1.trans HY.out.1
        have q1 := (hS.out.other _ 1 zo no).1.trans HY.out.2.1
        have f0 := (hS.out.other _ 0 zo no).2.trans (HY.out.2.2 0)
        have f1 := (hS.out.other _ 1 zo no).2.trans (HY.out.2.2 1)
        have zs : w.heap.size < wo.heap.size := by have := hS.out.size; omega
        have BE := hS.out.below
        clear hS
        go_wp2_with fail
        refine bodyPost_ret (v := .tuple #[.agg #[.int .i64 0, .int .i64 0], .bool false]) (by simp [results, Try.results49, go_sem, q0, q1, zs]) rfl ⟨by rw [OKF.out, isel_f, isel_f], ?_⟩
        repeat (first | with_reducible assumption | with_reducible exact Below.refl _ _ | with_reducible apply Below.drew | ((with_reducible refine Below.setCell ?_ ?_ _); rotate_left; (first | exact Nat.le_refl _ | omega | (simp <;> omega))) | ((with_reducible refine Below.alloc ?_ ?_ _); rotate_left; (first | omega | (simp <;> omega))))
    · skip
      have NX := Lib.hid (show numB x = true ∧ numB y = true ∧ numB z = true from ⟨hF.out.1 (by omega), hF.out.2.1 (by omega), hF.out.2.2 (by omega)⟩)
      have E1 : Hid (ok = (decide (x + y + z = T) && (decide (X.tmod T = 0) && (decide (Y.tmod T = 0) && isPegB (X.tdiv T) (Y.tdiv T))))) := Lib.hid (by rw [E0.out, NX.out.1, NX.out.2.1, NX.out.2.2]; simp)
      have SF := Lib.hid (show MsR w W0 wo (w1.heap.size + 1) (X, Y) from by rw [← EX.out.1, ← EX.out.2]; exact hS.out)
      obtain ⟨h0, h1, h2, h3, h4, h5⟩ := HX.out
      have p0 := (SF.out.other _ 0 zW00 nt).1.trans h0
      have p1 := (SF.out.other _ 1 zW00 nt).1.trans h1
      have p2 := (SF.out.other _ 2 zW00 nt).1.trans h2
      have p3 := (SF.out.other _ 3 zW00 nt).1.trans h3
      have p4 := (SF.out.other _ 4 zW00 nt).1.trans h4
      have p5 := (SF.out.other _ 5 zW00 nt).1.trans h5
      have zt : w1.heap.size < wo.heap.size := by have := SF.out.size; omega
      have KD : Hid ((x + y + z = T) → ∀ W, Calls Try.prog 69 #[.agg #[.int .i64 X, .int .i64 Y], .int .i64 T] W fun e w' => e = .returned (.tuple #[.agg #[.int .i64 (X.tdiv T), .int .i64 (Y.tdiv T)], .bool (decide (X.tmod T = 0) && decide (Y.tmod T = 0))]) ∧ Below W.heap.size W w') := Lib.hid (fun _ W => by
        obtain ⟨u1, u2, u3, u4, u5, u6⟩ := U.out
        obtain ⟨n1, n2, n3⟩ := NX.out
        have r := hT1.out
        unfold numB at n1 n2 n3
        simp only [Bool.and_eq_true, decide_eq_true_eq] at n1 n2 n3
        have m1 := mul_bd (x := x) (y := a1) (m := 1000000) (n := 40) (by omega) (by omega) (by omega) (by omega)
        have m2 := mul_bd (x := y) (y := b1) (m := 1000000) (n := 40) (by omega) (by omega) (by omega) (by omega)
        have m3 := mul_bd (x := z) (y := c1) (m := 1000000) (n := 40) (by omega) (by omega) (by omega) (by omega)
        have m4 := mul_bd (x := x) (y := a2) (m := 1000000) (n := 40) (by omega) (by omega) (by omega) (by omega)
        have m5 := mul_bd (x := y) (y := b2) (m := 1000000) (n := 40) (by omega) (by omega) (by omega) (by omega)
        have m6 := mul_bd (x := z) (y := c2) (m := 1000000) (n := 40) (by omega) (by omega) (by omega) (by omega)
        have eX := hX.out
        have eY := hY.out
        exact dividedByN_any X Y T W (by unfold Mid; omega) (by unfold Mid; omega) ⟨hT0, r.1, r.2⟩)
      have KRt := KR
      clear h0 h1 h2 h3 h4 h5 hS hF EX hX hY U HX
      unfold smF
      by_cases hs : x + y + z = T
      · have hsb : (x + y + z != T) = false := by simpa using hs
        go_wp2_with fail
        refine (KR.out _).mono ?_; rintro e w2 ⟨rfl, hb2⟩
        have S2 := Lib.hid (msr_below SF.out zW01 hb2)
        have q0 : w2.cell? ⟨w1.heap.size + 1, 0, none⟩ = some (.int .i64 X) := S2.out.c0
        have q1 : w2.cell? ⟨w1.heap.size + 1, 1, none⟩ = some (.int .i64 Y) := S2.out.c1
        have zu : w1.heap.size + 1 < w2.heap.size := by have := S2.out.size; omega
        clear hb2 SF p0 p1 p2 p3 p4 p5 zt
        go_wp2_with fail
        have KDD := Lib.hid (fun W => KD.out hs W)
        by_cases hd : (decide (X.tmod T = 0) && decide (Y.tmod T = 0)) = true
        · rw [hd] at KDD
          have hd2 : X.tmod T = 0 ∧ Y.tmod T = 0 := by simpa using hd
          have HD := Lib.hid hd2
          clear hd hd2
          by_cases hp : isPegB (X.tdiv T) (Y.tdiv T) = true
          · have OKT : Hid (ok = true) := Lib.hid (by rw [E1.out, hp]; simp [hs, HD.out.1, HD.out.2])
            rw [hp] at KP
            clear hp
            refine (KDD.out _).mono ?_; rintro e w3 ⟨rfl, hb3⟩
            have S3 := Lib.hid (msr_below S2.out zW01 hb3)
            clear hb3 S2 q0 q1 zu
            go_wp2_with fail
            obtain ⟨Wb, hWb⟩ : ∃ Wb, Wb = (w3.alloc (.cells #[.int .i64 (X.tdiv T), .int .i64 (Y.tdiv T)] 46)) := ⟨_, rfl⟩
            rw [← hWb]
            have yWb0_0 : Wb.cell? ⟨w3.heap.size, 0, none⟩ = some (.int .i64 (X.tdiv T)) := by rw [hWb]; go_simp
            have yWb0_1 : Wb.cell? ⟨w3.heap.size, 1, none⟩ = some (.int .i64 (Y.tdiv T)) := by rw [hWb]; go_simp
            have fWb0 : ∀ o, Wb.frozen? ⟨w3.heap.size, o, none⟩ = false := by intro o; rw [hWb]; (repeat rw [frozen?_alloc_cells]); simp [World.frozen?]
            have zWb0 : w3.heap.size < Wb.heap.size := by rw [hWb]; simp <;> omega
            have BWb : Below w3.heap.size w3 Wb := by rw [hWb]; exact (Below.alloc (Below.refl _ _) (by simp <;> omega) _)
            have eWb : Hid (Wb.heap.size = w3.heap.size + 1) := Lib.hid (by rw [hWb]; simp)
            clear hWb
            have S4 := Lib.hid (msr_below S3.out zW01 BWb)
            clear S3
            refine (KP.out _).mono ?_; rintro e w4 ⟨rfl, hb4⟩
            have S5 := Lib.hid (msr_below S4.out zW01 hb4)
            have v0 := ((bcell hb4).1 _ _ zWb0).trans yWb0_0
            have v1 := ((bcell hb4).1 _ _ zWb0).trans yWb0_1
            have zv : w3.heap.size < w4.heap.size := Nat.lt_of_lt_of_le zWb0 hb4.size
            clear hb4 S4 yWb0_0 yWb0_1 zWb0 fWb0 eWb BWb
            have q0 := (S5.out.other _ 0 zo no).1.trans HY.out.1
            have q1 := (S5.out.other _ 1 zo no).1.trans HY.out.2.1
            have f0 := (S5.out.other _ 0 zo no).2.trans (HY.out.2.2 0)
            have f1 := (S5.out.other _ 1 zo no).2.trans (HY.out.2.2 1)
            have zs : w.heap.size < w4.heap.size := by have := S5.out.size; omega
            have BE := S5.out.below
            clear S5
            go_wp2_with fail
            refine bodyPost_ret (v := .tuple #[.agg #[.int .i64 (X.tdiv T), .int .i64 (Y.tdiv T)], .bool true]) (by simp [results, Try.results49, go_sem, q0, q1, zs]) rfl ⟨by rw [OKT.out, isel_t, isel_t], ?_⟩
            repeat (first | with_reducible assumption | with_reducible exact Below.refl _ _ | with_reducible apply Below.drew | ((with_reducible refine Below.setCell ?_ ?_ _); rotate_left; (first | exact Nat.le_refl _ | omega | (simp <;> omega))) | ((with_reducible refine Below.alloc ?_ ?_ _); rotate_left; (first | omega | (simp <;> omega))))
          · have hpf : isPegB (X.tdiv T) (Y.tdiv T) = false := by simpa using hp
            have E2 : Hid (ok = false) := Lib.hid (by rw [E1.out, hpf]; simp)
            rw [hpf] at KP
            clear hp hpf
            refine (KDD.out _).mono ?_; rintro e w3 ⟨rfl, hb3⟩
            have S3 := Lib.hid (msr_below S2.out zW01 hb3)
            clear hb3 S2 q0 q1 zu
            go_wp2_with fail
            obtain ⟨Wb, hWb⟩ : ∃ Wb, Wb = (w3.alloc (.cells #[.int .i64 (X.tdiv T), .int .i64 (Y.tdiv T)] 46)) := ⟨_, rfl⟩
            rw [← hWb]
            have yWb0_0 : Wb.cell? ⟨w3.heap.size, 0, none⟩ = some (.int .i64 (X.tdiv T)) := by rw [hWb]; go_simp
            have yWb0_1 : Wb.cell? ⟨w3.heap.size, 1, none⟩ = some (.int .i64 (Y.tdiv T)) := by rw [hWb]; go_simp
            have fWb0 : ∀ o, Wb.frozen? ⟨w3.heap.size, o, none⟩ = false := by intro o; rw [hWb]; (repeat rw [frozen?_alloc_cells]); simp [World.frozen?]
            have zWb0 : w3.heap.size < Wb.heap.size := by rw [hWb]; simp <;> omega
            have BWb : Below w3.heap.size w3 Wb := by rw [hWb]; exact (Below.alloc (Below.refl _ _) (by simp <;> omega) _)
            have eWb : Hid (Wb.heap.size = w3.heap.size + 1) := Lib.hid (by rw [hWb]; simp)
            clear hWb
            have S4 := Lib.hid (msr_below S3.out zW01 BWb)
            clear S3
            refine (KP.out _).mono ?_; rintro e w4 ⟨rfl, hb4⟩
            have S5 := Lib.hid (msr_below S4.out zW01 hb4)
            have v0 := ((bcell hb4).1 _ _ zWb0).trans yWb0_0
            have v1 := ((bcell hb4).1 _ _ zWb0).trans yWb0_1
            have zv : w3.heap.size < w4.heap.size := Nat.lt_of_lt_of_le zWb0 hb4.size
            clear hb4 S4 yWb0_0 yWb0_1 zWb0 fWb0 eWb BWb
            have OKF : Hid (ok = false) := Lib.hid (by rw [E2.out])
            have q0 := (S5.out.other _ 0 zo no).1.trans HY.out.1
            have q1 := (S5.out.other _ 1 zo no).1.trans HY.out.2.1
            have f0 := (S5.out.other _ 0 zo no).2.trans (HY.out.2.2 0)
            have f1 := (S5.out.other _ 1 zo no).2.trans (HY.out.2.2 1)
            have zs : w.heap.size < w4.heap.size := by have := S5.out.size; omega
            have BE := S5.out.below
            clear S5
            go_wp2_with fail
            refine bodyPost_ret (v := .tuple #[.agg #[.int .i64 0, .int .i64 0], .bool false]) (by simp [results, Try.results49, go_sem, q0, q1, zs]) rfl ⟨by rw [OKF.out, isel_f, isel_f], ?_⟩
            repeat (first | with_reducible assumption | with_reducible exact Below.refl _ _ | with_reducible apply Below.drew | ((with_reducible refine Below.setCell ?_ ?_ _); rotate_left; (first | exact Nat.le_refl _ | omega | (simp <;> omega))) | ((with_reducible refine Below.alloc ?_ ?_ _); rotate_left; (first | omega | (simp <;> omega))))
        · have hdf : (decide (X.tmod T = 0) && decide (Y.tmod T = 0)) = false := by simpa using hd
          rw [hdf] at KDD
          have E2 : Hid (ok = false) := Lib.hid (by rw [E1.out, ← Bool.and_assoc (decide (X.tmod T = 0)), hdf]; simp)
          clear hd hdf
          refine (KDD.out _).mono ?_; rintro e w3 ⟨rfl, hb3⟩
          have S3 := Lib.hid (msr_below S2.out zW01 hb3)
          clear hb3 S2 q0 q1 zu
          have OKF : Hid (ok = false) := Lib.hid (by rw [E2.out])
          have q0 := (S3.out.other _ 0 zo no).1.trans HY.out.1
          have q1 := (S3.out.other _ 1 zo no).1.trans HY.out.2.1
          have f0 := (S3.out.other _ 0 zo no).2.trans (HY.out.2.2 0)
          have f1 := (S3.out.other _ 1 zo no).2.trans (HY.out.2.2 1)
          have zs : w.heap.size < w3.heap.size := by have := S3.out.size; omega
          have BE := S3.out.below
          clear S3
          go_wp2_with fail
          refine bodyPost_ret (v := .tuple #[.agg #[.int .i64 0, .int .i64 0], .bool false]) (by simp [results, Try.results49, go_sem, q0, q1, zs]) rfl ⟨by rw [OKF.out, isel_f, isel_f], ?_⟩
          repeat (first | with_reducible assumption | with_reducible exact Below.refl _ _ | with_reducible apply Below.drew | ((with_reducible refine Below.setCell ?_ ?_ _); rotate_left; (first | exact Nat.le_refl _ | omega | (simp <;> omega))) | ((with_reducible refine Below.alloc ?_ ?_ _); rotate_left; (first | omega | (simp <;> omega))))
      · have hsb : (x + y + z != T) = true := by simpa using hs
        go_wp2_with fail
        refine (KR.out _).mono ?_; rintro e w2 ⟨rfl, hb2⟩
        have S2 := Lib.hid (msr_below SF.out zW01 hb2)
        clear hb2 SF p0 p1 p2 p3 p4 p5 zt
        have OKF : Hid (ok = false) := Lib.hid (by rw [E1.out]; simp [hs])
        have q0 := (S2.out.other _ 0 zo no).1.trans HY.out.1
        have q1 := (S2.out.other _ 1 zo no).1.trans HY.out.2.1
        have f0 := (S2.out.other _ 0 zo no).2.trans (HY.out.2.2 0)
        have f1 := (S2.out.other _ 1 zo no).2.trans (HY.out.2.2 1)
        have zs : w.heap.size < w2.heap.size := by have := S2.out.size; omega
        have BE := S2.out.below
        clear S2
        go_wp2_with fail
        refine bodyPost_ret (v := .tuple #[.agg #[.int .i64 0, .int .i64 0], .bool false]) (by simp [results, Try.results49, go_sem, q0, q1, zs]) rfl ⟨by rw [OKF.out, isel_f, isel_f], ?_⟩
        repeat (first | with_reducible assumption | with_reducible exact Below.refl _ _ | with_reducible apply Below.drew | ((with_reducible refine Below.setCell ?_ ?_ _); rotate_left; (first | exact Nat.le_refl _ | omega | (simp <;> omega))) | ((with_reducible refine Below.alloc ?_ ?_ _); rotate_left; (first | omega | (simp <;> omega))))
end Go.Proofs.Ytgjegildeejghaa
/- contract: PegOfParts, the program -/
namespace Go.Proofs.Ytgjegildeejghaa
open Go.ChangeShapes Go.WideShapes Go.ChangeAt Go.RowKit Go.Joins
set_option linter.unusedVariables false
set_option linter.unusedSimpArgs false
set_option maxRecDepth 4000
theorem twI_small {l : List (Int × Int)} {a1 a2 b1 b2 c1 c2 : Int} (h : Tri l a1 a2 b1 b2 c1 c2) : -1000000 ≤ twI a1 a2 b1 b2 c1 c2 ∧ twI a1 a2 b1 b2 c1 c2 ≤ 1000000 := by
  obtain ⟨u1, u2, u3, u4, u5, u6⟩ := tri_bd h
  have m1 := mul_bd (x := b1 - a1) (y := c2 - a2) (m := 80) (n := 80) (by omega) (by omega) (by omega) (by omega)
  have m2 := mul_bd (x := b2 - a2) (y := c1 - a1) (m := 80) (n := 80) (by omega) (by omega) (by omega) (by omega)
  unfold twI
  omega
set_option maxHeartbeats 1000000 in
theorem implPegOfParts_any (A : Option Addr) (c : Nat) (l : List (Int × Int)) (A' : Option Addr) (c' n : Nat) (f : Nat → Int) (w : World) (hn : l.length ≤ 1048576) (hn' : n ≤ 1048576) (hR : Rd w w.heap.size A l) (hR' : RdI w w.heap.size A' n f) :
    Calls Try.prog 49 #[.slice A l.length c, .slice A' n c'] w fun e w' => e = .returned (.tuple #[.agg #[.int .i64 (isel (ptB l n f) ((ptX l f).tdiv (areaN l))), .int .i64 (isel (ptB l n f) ((ptY l f).tdiv (areaN l)))], .bool (ptB l n f)]) ∧ Below w.heap.size w w' := by
  by_cases ht : tB l = true
  · obtain ⟨a1, a2, b1, b2, c1, c2, htr⟩ := tB_true ht
    have K := Lib.hid (fun W (hb : Below w.heap.size w W) => threeOf_t A c l a1 a2 b1 b2 c1 c2 W (rd_more (rd_below hR hb (Nat.le_refl _)) hb.size) htr)
    by_cases h3 : n = 3
    · subst h3
      have E : ptB l 3 f = pqB (f 0) (f 1) (f 2) (areaN l) (ptX l f) (ptY l f) := by unfold ptB; rw [ht]; simp
      rw [E]
      have htn := tri_turn htr
      have hbd := Lib.hid (tri_bd htr)
      have hT := Lib.hid (twI_small htr)
      have KR := Lib.hid (fun W => twice_any a1 a2 b1 b2 c1 c2 W (tri_sz htr).1 (tri_sz htr).2.1 (tri_sz htr).2.2)
      have eX : Hid (f 0 * a1 + f 1 * b1 + f 2 * c1 = ptX l f) := Lib.hid (by rw [htr.1]; rfl)
      have eY : Hid (f 0 * a2 + f 1 * b2 + f 2 * c2 = ptY l f) := Lib.hid (by rw [htr.1]; rfl)
      rw [← tri_area htr] at htn hT KR
      obtain ⟨b', off', rfl, hb', HN⟩ := ri3_of hR'
      exact implParts_walk A c l.length b' off' c' a1 a2 b1 b2 c1 c2 (f 0) (f 1) (f 2) (areaN l) (ptX l f) (ptY l f) w hb' hbd htn hT eX eY K KR HN
    · have E : Hid (ptB l n f = false) := Lib.hid (by unfold ptB; simp [h3])
      generalize ptB l n f = ok at *
      have hni : ¬ (n : Int) = 3 := by omega
      have hnb : ((n : Int) != 3) = true := by simpa using hni
      clear ht hR hR' h3 htr
      go_enter Try.func49, Try.ntmps49
      go_wp2_with fail
      obtain ⟨Wa, hWa⟩ : ∃ Wa, Wa = (w.alloc (.cells #[.int .i64 0, .int .i64 0] 46)) := ⟨_, rfl⟩
      rw [← hWa]
      have yWa0_0 : Wa.cell? ⟨w.heap.size, 0, none⟩ = some (.int .i64 0) := by rw [hWa]; go_simp
      have yWa0_1 : Wa.cell? ⟨w.heap.size, 1, none⟩ = some (.int .i64 0) := by rw [hWa]; go_simp
      have fWa0 : ∀ o, Wa.frozen? ⟨w.heap.size, o, none⟩ = false := by intro o; rw [hWa]; (repeat rw [frozen?_alloc_cells]); simp [World.frozen?]
      have zWa0 : w.heap.size < Wa.heap.size := by rw [hWa]; simp <;> omega
      have BWa : Below w.heap.size w Wa := by rw [hWa]; exact (Below.alloc (Below.refl _ _) (by simp <;> omega) _)
      have eWa : Hid (Wa.heap.size = w.heap.size + 1) := Lib.hid (by rw [hWa]; simp)
      clear hWa
      refine (K.out _ BWa).mono ?_; rintro e w1 ⟨rfl, hb1⟩
      have q0 := ((bcell hb1).1 _ _ zWa0).trans yWa0_0
      have q1 := ((bcell hb1).1 _ _ zWa0).trans yWa0_1
      have f0 := ((bcell hb1).2 _ 0 zWa0).trans (fWa0 0)
      have f1 := ((bcell hb1).2 _ 1 zWa0).trans (fWa0 1)
      have zs : w.heap.size < w1.heap.size := Nat.lt_of_lt_of_le zWa0 hb1.size
      have BE := BWa.trans (hb1.mono BWa.size)
      clear hb1 BWa yWa0_0 yWa0_1 fWa0 zWa0 eWa K
      go_wp2_with fail
      refine bodyPost_ret (v := .tuple #[.agg #[.int .i64 0, .int .i64 0], .bool false]) (by simp [results, Try.results49, go_sem, q0, q1, zs]) rfl ⟨by rw [E.out, isel_f, isel_f], ?_⟩
      repeat (first | with_reducible assumption | with_reducible exact Below.refl _ _ | with_reducible apply Below.drew | ((with_reducible refine Below.setCell ?_ ?_ _); rotate_left; (first | exact Nat.le_refl _ | omega | (simp <;> omega))) | ((with_reducible refine Below.alloc ?_ ?_ _); rotate_left; (first | omega | (simp <;> omega))))
  · have K := Lib.hid (fun W (hb : Below w.heap.size w W) => threeOf_f A c l W hn (rd_more (rd_below hR hb (Nat.le_refl _)) hb.size) ht)
    have htf : tB l = false := by simpa using ht
    have E : Hid (ptB l n f = false) := Lib.hid (by unfold ptB; rw [htf]; rfl)
    generalize ptB l n f = ok at *
    clear ht htf hR hR'
    go_enter Try.func49, Try.ntmps49
    go_wp2_with fail
    obtain ⟨Wa, hWa⟩ : ∃ Wa, Wa = (w.alloc (.cells #[.int .i64 0, .int .i64 0] 46)) := ⟨_, rfl⟩
    rw [← hWa]
    have yWa0_0 : Wa.cell? ⟨w.heap.size, 0, none⟩ = some (.int .i64 0) := by rw [hWa]; go_simp
    have yWa0_1 : Wa.cell? ⟨w.heap.size, 1, none⟩ = some (.int .i64 0) := by rw [hWa]; go_simp
    have fWa0 : ∀ o, Wa.frozen? ⟨w.heap.size, o, none⟩ = false := by intro o; rw [hWa]; (repeat rw [frozen?_alloc_cells]); simp [World.frozen?]
    have zWa0 : w.heap.size < Wa.heap.size := by rw [hWa]; simp <;> omega
    have BWa : Below w.heap.size w Wa := by rw [hWa]; exact (Below.alloc (Below.refl _ _) (by simp <;> omega) _)
    have eWa : Hid (Wa.heap.size = w.heap.size + 1) := Lib.hid (by rw [hWa]; simp)
    clear hWa
    refine (K.out _ BWa).mono ?_; rintro e w1 ⟨rfl, hb1⟩
    have q0 := ((bcell hb1).1 _ _ zWa0).trans yWa0_0
    have q1 := ((bcell hb1).1 _ _ zWa0).trans yWa0_1
    have f0 := ((bcell hb1).2 _ 0 zWa0).trans (fWa0 0)
    have f1 := ((bcell hb1).2 _ 1 zWa0).trans (fWa0 1)
    have zs : w.heap.size < w1.heap.size := Nat.lt_of_lt_of_le zWa0 hb1.size
    have BE := BWa.trans (hb1.mono BWa.size)
    clear hb1 BWa yWa0_0 yWa0_1 fWa0 zWa0 eWa K
    go_wp2_with fail
    refine bodyPost_ret (v := .tuple #[.agg #[.int .i64 0, .int .i64 0], .bool false]) (by simp [results, Try.results49, go_sem, q0, q1, zs]) rfl ⟨by rw [E.out, isel_f, isel_f], ?_⟩
    repeat (first | with_reducible assumption | with_reducible exact Below.refl _ _ | with_reducible apply Below.drew | ((with_reducible refine Below.setCell ?_ ?_ _); rotate_left; (first | exact Nat.le_refl _ | omega | (simp <;> omega))) | ((with_reducible refine Below.alloc ?_ ?_ _); rotate_left; (first | omega | (simp <;> omega))))
end Go.Proofs.Ytgjegildeejghaa

