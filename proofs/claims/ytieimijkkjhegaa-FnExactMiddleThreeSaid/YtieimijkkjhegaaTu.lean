/- contracts: MiddleThree, the model -/
import Derived.Test.YtieimijkkjhegaaTe
import Derived.Test.YtieimijkkjhegaaLc
import Derived.BigRegion
namespace Go.Proofs.Ytieimijkkjhegaa
open Go.ChangeShapes Go.WideShapes Go.ChangeAt Go.RowKit Go.Joins
set_option linter.unusedVariables false
set_option linter.unusedSimpArgs false
set_option maxRecDepth 4000
/-- has the middle of side number i whole numbers? -/
def mevB (l : List (Int × Int)) (i : Nat) : Bool := decide (((vx l (i + 1)).1 + (vx l (i + 2)).1).tmod 2 = 0) && decide (((vx l (i + 1)).2 + (vx l (i + 2)).2).tmod 2 = 0)
def midB (l : List (Int × Int)) : Bool := mevB l 0 && mevB l 1 && mevB l 2
def midF (l : List (Int × Int)) (i : Nat) : Int × Int := (((vx l (i + 1)).1 + (vx l (i + 2)).1).tdiv 2, ((vx l (i + 1)).2 + (vx l (i + 2)).2).tdiv 2)
theorem midB_no {l : List (Int × Int)} {i : Nat} (hi : i < 3) (h : mevB l i = false) : midB l = false := by
  unfold midB
  match i, hi with
  | 0, _ => rw [h]; rfl
  | 1, _ => rw [h]; simp
  | 2, _ => rw [h]; simp
theorem midB_yes {l : List (Int × Int)} (h : ∀ i, i < 3 → mevB l i = true) : midB l = true := by
  unfold midB
  rw [h 0 (by omega), h 1 (by omega), h 2 (by omega)]; rfl
theorem tri_vx {l : List (Int × Int)} {a1 a2 b1 b2 c1 c2 : Int} (h : Tri l a1 a2 b1 b2 c1 c2) : vx l 0 = (a1, a2) ∧ vx l 1 = (b1, b2) ∧ vx l 2 = (c1, c2) ∧ vx l 3 = (a1, a2) ∧ vx l 4 = (b1, b2) := by
  rw [h.1]
  exact ⟨rfl, rfl, rfl, vx_add [(a1, a2), (b1, b2), (c1, c2)] 0, vx_add [(a1, a2), (b1, b2), (c1, c2)] 1⟩
set_option maxRecDepth 100000 in
set_option maxHeartbeats 4000000 in
theorem specMiddleThree_any (A : Option Addr) (c : Nat) (l : List (Int × Int)) (w : World) (hn : l.length ≤ 1048576) (hcap : l.length ≤ c) (hc2 : c ≤ 9223372036854775807) (hR : Rd w w.heap.size A l) :
    Calls Try.prog 20 #[.slice A l.length c] w (RetL w (sel (tB l && midB l) (firsts (midF l) 3)) (tB l && midB l)) := by
  have K := Lib.hid (trThree_any A c l w hn hcap hc2 hR)
  by_cases ht : tB l = true
  · obtain ⟨a1, a2, b1, b2, c1, c2, htr⟩ := tB_true ht
    obtain ⟨v0, v1, v2, v3, v4⟩ := tri_vx htr
    have UB := Lib.hid (tri_bd htr)
    have EV0 : Hid (mevB l 0 = (decide ((b1 + c1).tmod 2 = 0) && decide ((b2 + c2).tmod 2 = 0))) := Lib.hid (by unfold mevB; rw [v1, v2])
    have EV1 : Hid (mevB l 1 = (decide ((c1 + a1).tmod 2 = 0) && decide ((c2 + a2).tmod 2 = 0))) := Lib.hid (by unfold mevB; rw [v2, v3])
    have EV2 : Hid (mevB l 2 = (decide ((a1 + b1).tmod 2 = 0) && decide ((a2 + b2).tmod 2 = 0))) := Lib.hid (by unfold mevB; rw [v3, v4])
    have MF0 : Hid (midF l 0 = ((b1 + c1).tdiv 2, (b2 + c2).tdiv 2)) := Lib.hid (by unfold midF; rw [v1, v2])
    have MF1 : Hid (midF l 1 = ((c1 + a1).tdiv 2, (c2 + a2).tdiv 2)) := Lib.hid (by unfold midF; rw [v2, v3])
    have MF2 : Hid (midF l 2 = ((a1 + b1).tdiv 2, (a2 + b2).tdiv 2)) := Lib.hid (by unfold midF; rw [v3, v4])
    have MN := Lib.hid (fun i hi h => midB_no (l := l) (i := i) hi h)
    have MY := Lib.hid (fun h => midB_yes (l := l) h)
    rw [ht] at K ⊢
    rw [Bool.true_and]
    obtain ⟨i0, hi0, hz0, hz1, hz2⟩ := info_parts peg_info
    have HI := Lib.hid (And.intro hi0 (And.intro hz0 (And.intro hz1 hz2)))
    clear v0 v1 v2 v3 v4 hi0 hz0 hz1 hz2
    generalize midB l = ok at *
    generalize midF l = f at *
    generalize mevB l = ev at *
    obtain ⟨rfl, hg⟩ := htr
    obtain ⟨b, off, rfl, hb, H3⟩ := rd3_of hR
    change Hid (Calls Try.prog 55 #[.slice (some ⟨b, off, none⟩) 3 c] w fun e w' => e = .returned (.bool true) ∧ Below w.heap.size w w') at K
    change Calls Try.prog 20 #[.slice (some ⟨b, off, none⟩) 3 c] w _
    clear ht hg hR hn hcap
    go_enter Try.func20, Try.ntmps20
    go_wp2_with fail
    refine K.out.mono ?_; rintro e w1 ⟨rfl, hb1⟩
    go_wp2_with fail
    go_loopg [4, 13] 3 (fun g s i wr => ∃ (j : Nat) (v : Value), s = v ∧ j ≤ 3 ∧ g = 3 - j ∧ i = .int .i64 j ∧ Below w.heap.size w wr ∧ Hid (Row wr w.heap.size v f j) ∧ Hid (∀ i, i < j → ev i = true))
    case atStart => exact ⟨0, _, rfl, by omega, rfl, rfl, hb1, Lib.hid (row_nil w1 w.heap.size f), Lib.hid (fun i h => absurd h (Nat.not_lt_zero _))⟩
    case round =>
        clear hb1
        obtain ⟨j, v, rfl, hj, hg, rfl, hBl, hr, hF⟩ := hrel
        rename World => wo
        rcases (show j = 0 ∨ j = 1 ∨ j = 2 ∨ j = 3 by omega) with rfl | rfl | rfl | rfl
        · skip
          obtain ⟨x0, x1, x2, x3, x4, x5⟩ := H3.out wo hBl
          have hbz : b < wo.heap.size := by have := hBl.size; omega
          obtain ⟨⟨u1, u2⟩, ⟨u3, u4⟩, ⟨u5, u6⟩, ⟨u7, u8⟩, ⟨u9, u10⟩, ⟨u11, u12⟩⟩ := UB.out
          by_cases h1 : (b1 + c1).tmod 2 = 0
          · by_cases h2 : (b2 + c2).tmod 2 = 0
            · have OK2 : Hid (∀ i, i < 1 → ev i = true) := Lib.hid (fun ii hii => by
                by_cases hij : ii = 0
                · rw [hij, EV0.out, h1, h2]; rfl
                · exact hF.out ii (by omega))
              clear hF
              go_wp2_with fail
              go_region
              · skip
                obtain ⟨W1, hW1⟩ : ∃ W1, W1 = ((wo.alloc (.cells #[.int .i64 b1, .int .i64 b2] 42)).alloc (.cells #[.int .i64 c1, .int .i64 c2] 42)) := ⟨_, rfl⟩
                rw [← hW1]
                have yW10_0 : W1.cell? ⟨wo.heap.size, 0, none⟩ = some (.int .i64 b1) := by rw [hW1]; go_simp
                have yW10_1 : W1.cell? ⟨wo.heap.size, 1, none⟩ = some (.int .i64 b2) := by rw [hW1]; go_simp
                have fW10 : ∀ o, W1.frozen? ⟨wo.heap.size, o, none⟩ = false := by intro o; rw [hW1]; (repeat rw [frozen?_alloc_cells]); simp [World.frozen?]
                have zW10 : wo.heap.size < W1.heap.size := by rw [hW1]; simp <;> omega
                have yW11_0 : W1.cell? ⟨wo.heap.size + 1, 0, none⟩ = some (.int .i64 c1) := by rw [hW1]; go_simp
                have yW11_1 : W1.cell? ⟨wo.heap.size + 1, 1, none⟩ = some (.int .i64 c2) := by rw [hW1]; go_simp
                have fW11 : ∀ o, W1.frozen? ⟨wo.heap.size + 1, o, none⟩ = false := by intro o; rw [hW1]; (repeat rw [frozen?_alloc_cells]); simp [World.frozen?]
                have zW11 : wo.heap.size + 1 < W1.heap.size := by rw [hW1]; simp <;> omega
                have BW1 : Below wo.heap.size wo W1 := by rw [hW1]; exact (Below.alloc (Below.alloc (Below.refl _ _) (by simp <;> omega) _) (by simp <;> omega) _)
                have eW1 : Hid (W1.heap.size = wo.heap.size + 2) := Lib.hid (by rw [hW1]; simp)
                clear hW1
                have BX := hBl.trans (BW1.mono hBl.size)
                have R1 := row_below hr.out BW1 (Nat.le_refl _)
                have RA := Lib.hid (row_alloc R1 (.cells #[.int .i64 ((b1 + c1).tdiv 2), .int .i64 ((b2 + c2).tdiv 2)] 42))
                have BA := Lib.hid (Below.alloc BX BX.size (.cells #[.int .i64 ((b1 + c1).tdiv 2), .int .i64 ((b2 + c2).tdiv 2)] 42))
                have hzX := BX.size
                clear R1 hr BX
                go_wp2_with (at_builtin; refine wpList_append_own _ rfl (.tmp 44) (.tmp 58) 26 rfl w.heap.size 42 i0 (.agg #[.int .i64 0, .int .i64 0]) 2 16 Try.underlying26 HI.out.1 HI.out.2.1 HI.out.2.2.1 HI.out.2.2.2 rfl (by decide) _ 0 (flat (firsts f 0)) rfl RA.out ⟨W1.heap.size, 0, none⟩ 1 1 [.int .i64 ((b1 + c1).tdiv 2), .int .i64 ((b2 + c2).tdiv 2)] rfl rfl (two_cells (by go_simp) (by go_simp)) (two_one _ _) (by unfold maxLen; omega) (by omega) (by simp; omega) ?_)
                intro v' w4 hown hgr _
                have RB := row_push (f := f) (k := 0) (Below.drew BA.out) (World.ownsRow.drew RA.out) (by rw [MF0.out]; exact hown) hgr
                have R3 := Lib.hid RB.1
                have B3 := RB.2
                clear RB hown hgr BA RA
                go_wp2_with fail
                go_roundg (3 - (0 + 1))
                case measure => omega
                case rel => exact ⟨0 + 1, _, rfl, by omega, rfl, by go_num, B3, R3, OK2⟩
              · skip
                obtain ⟨W1, hW1⟩ : ∃ W1, W1 = ((wo.alloc (.cells #[.int .i64 c1, .int .i64 c2] 42)).alloc (.cells #[.int .i64 b1, .int .i64 b2] 42)) := ⟨_, rfl⟩
                rw [← hW1]
                have yW10_0 : W1.cell? ⟨wo.heap.size, 0, none⟩ = some (.int .i64 c1) := by rw [hW1]; go_simp
                have yW10_1 : W1.cell? ⟨wo.heap.size, 1, none⟩ = some (.int .i64 c2) := by rw [hW1]; go_simp
                have fW10 : ∀ o, W1.frozen? ⟨wo.heap.size, o, none⟩ = false := by intro o; rw [hW1]; (repeat rw [frozen?_alloc_cells]); simp [World.frozen?]
                have zW10 : wo.heap.size < W1.heap.size := by rw [hW1]; simp <;> omega
                have yW11_0 : W1.cell? ⟨wo.heap.size + 1, 0, none⟩ = some (.int .i64 b1) := by rw [hW1]; go_simp
                have yW11_1 : W1.cell? ⟨wo.heap.size + 1, 1, none⟩ = some (.int .i64 b2) := by rw [hW1]; go_simp
                have fW11 : ∀ o, W1.frozen? ⟨wo.heap.size + 1, o, none⟩ = false := by intro o; rw [hW1]; (repeat rw [frozen?_alloc_cells]); simp [World.frozen?]
                have zW11 : wo.heap.size + 1 < W1.heap.size := by rw [hW1]; simp <;> omega
                have BW1 : Below wo.heap.size wo W1 := by rw [hW1]; exact (Below.alloc (Below.alloc (Below.refl _ _) (by simp <;> omega) _) (by simp <;> omega) _)
                have eW1 : Hid (W1.heap.size = wo.heap.size + 2) := Lib.hid (by rw [hW1]; simp)
                clear hW1
                have BX := hBl.trans (BW1.mono hBl.size)
                have R1 := row_below hr.out BW1 (Nat.le_refl _)
                have RA := Lib.hid (row_alloc R1 (.cells #[.int .i64 ((b1 + c1).tdiv 2), .int .i64 ((b2 + c2).tdiv 2)] 42))
                have BA := Lib.hid (Below.alloc BX BX.size (.cells #[.int .i64 ((b1 + c1).tdiv 2), .int .i64 ((b2 + c2).tdiv 2)] 42))
                have hzX := BX.size
                clear R1 hr BX
                go_wp2_with (at_builtin; refine wpList_append_own _ rfl (.tmp 44) (.tmp 58) 26 rfl w.heap.size 42 i0 (.agg #[.int .i64 0, .int .i64 0]) 2 16 Try.underlying26 HI.out.1 HI.out.2.1 HI.out.2.2.1 HI.out.2.2.2 rfl (by decide) _ 0 (flat (firsts f 0)) rfl RA.out ⟨W1.heap.size, 0, none⟩ 1 1 [.int .i64 ((b1 + c1).tdiv 2), .int .i64 ((b2 + c2).tdiv 2)] rfl rfl (two_cells (by go_simp) (by go_simp)) (two_one _ _) (by unfold maxLen; omega) (by omega) (by simp; omega) ?_)
                intro v' w4 hown hgr _
                have RB := row_push (f := f) (k := 0) (Below.drew BA.out) (World.ownsRow.drew RA.out) (by rw [MF0.out]; exact hown) hgr
                have R3 := Lib.hid RB.1
                have B3 := RB.2
                clear RB hown hgr BA RA
                go_wp2_with fail
                go_roundg (3 - (0 + 1))
                case measure => omega
                case rel => exact ⟨0 + 1, _, rfl, by omega, rfl, by go_num, B3, R3, OK2⟩
            · have NG : Hid (ok = false) := Lib.hid (MN.out 0 (by omega) (by rw [EV0.out]; simp [h2]))
              have h2b : ((b2 + c2).tmod 2 != 0) = true := by simpa using h2
              go_wp2_with fail
              go_region
              · skip
                obtain ⟨W1, hW1⟩ : ∃ W1, W1 = ((wo.alloc (.cells #[.int .i64 b1, .int .i64 b2] 42)).alloc (.cells #[.int .i64 c1, .int .i64 c2] 42)) := ⟨_, rfl⟩
                rw [← hW1]
                have yW10_0 : W1.cell? ⟨wo.heap.size, 0, none⟩ = some (.int .i64 b1) := by rw [hW1]; go_simp
                have yW10_1 : W1.cell? ⟨wo.heap.size, 1, none⟩ = some (.int .i64 b2) := by rw [hW1]; go_simp
                have fW10 : ∀ o, W1.frozen? ⟨wo.heap.size, o, none⟩ = false := by intro o; rw [hW1]; (repeat rw [frozen?_alloc_cells]); simp [World.frozen?]
                have zW10 : wo.heap.size < W1.heap.size := by rw [hW1]; simp <;> omega
                have yW11_0 : W1.cell? ⟨wo.heap.size + 1, 0, none⟩ = some (.int .i64 c1) := by rw [hW1]; go_simp
                have yW11_1 : W1.cell? ⟨wo.heap.size + 1, 1, none⟩ = some (.int .i64 c2) := by rw [hW1]; go_simp
                have fW11 : ∀ o, W1.frozen? ⟨wo.heap.size + 1, o, none⟩ = false := by intro o; rw [hW1]; (repeat rw [frozen?_alloc_cells]); simp [World.frozen?]
                have zW11 : wo.heap.size + 1 < W1.heap.size := by rw [hW1]; simp <;> omega
                have BW1 : Below wo.heap.size wo W1 := by rw [hW1]; exact (Below.alloc (Below.alloc (Below.refl _ _) (by simp <;> omega) _) (by simp <;> omega) _)
                have eW1 : Hid (W1.heap.size = wo.heap.size + 2) := Lib.hid (by rw [hW1]; simp)
                clear hW1
                have BX := hBl.trans (BW1.mono hBl.size)
                go_wp2_with fail
                go_ret2
                rw [NG.out]
                exact retL_nil (by first | exact BX | exact BX.drew)
              · skip
                obtain ⟨W1, hW1⟩ : ∃ W1, W1 = ((wo.alloc (.cells #[.int .i64 c1, .int .i64 c2] 42)).alloc (.cells #[.int .i64 b1, .int .i64 b2] 42)) := ⟨_, rfl⟩
                rw [← hW1]
                have yW10_0 : W1.cell? ⟨wo.heap.size, 0, none⟩ = some (.int .i64 c1) := by rw [hW1]; go_simp
                have yW10_1 : W1.cell? ⟨wo.heap.size, 1, none⟩ = some (.int .i64 c2) := by rw [hW1]; go_simp
                have fW10 : ∀ o, W1.frozen? ⟨wo.heap.size, o, none⟩ = false := by intro o; rw [hW1]; (repeat rw [frozen?_alloc_cells]); simp [World.frozen?]
                have zW10 : wo.heap.size < W1.heap.size := by rw [hW1]; simp <;> omega
                have yW11_0 : W1.cell? ⟨wo.heap.size + 1, 0, none⟩ = some (.int .i64 b1) := by rw [hW1]; go_simp
                have yW11_1 : W1.cell? ⟨wo.heap.size + 1, 1, none⟩ = some (.int .i64 b2) := by rw [hW1]; go_simp
                have fW11 : ∀ o, W1.frozen? ⟨wo.heap.size + 1, o, none⟩ = false := by intro o; rw [hW1]; (repeat rw [frozen?_alloc_cells]); simp [World.frozen?]
                have zW11 : wo.heap.size + 1 < W1.heap.size := by rw [hW1]; simp <;> omega
                have BW1 : Below wo.heap.size wo W1 := by rw [hW1]; exact (Below.alloc (Below.alloc (Below.refl _ _) (by simp <;> omega) _) (by simp <;> omega) _)
                have eW1 : Hid (W1.heap.size = wo.heap.size + 2) := Lib.hid (by rw [hW1]; simp)
                clear hW1
                have BX := hBl.trans (BW1.mono hBl.size)
                go_wp2_with fail
                go_ret2
                rw [NG.out]
                exact retL_nil (by first | exact BX | exact BX.drew)
          · have NG : Hid (ok = false) := Lib.hid (MN.out 0 (by omega) (by rw [EV0.out]; simp [h1]))
            have h1b : ((b1 + c1).tmod 2 != 0) = true := by simpa using h1
            go_wp2_with fail
            go_region
            · skip
              obtain ⟨W1, hW1⟩ : ∃ W1, W1 = ((wo.alloc (.cells #[.int .i64 b1, .int .i64 b2] 42)).alloc (.cells #[.int .i64 c1, .int .i64 c2] 42)) := ⟨_, rfl⟩
              rw [← hW1]
              have yW10_0 : W1.cell? ⟨wo.heap.size, 0, none⟩ = some (.int .i64 b1) := by rw [hW1]; go_simp
              have yW10_1 : W1.cell? ⟨wo.heap.size, 1, none⟩ = some (.int .i64 b2) := by rw [hW1]; go_simp
              have fW10 : ∀ o, W1.frozen? ⟨wo.heap.size, o, none⟩ = false := by intro o; rw [hW1]; (repeat rw [frozen?_alloc_cells]); simp [World.frozen?]
              have zW10 : wo.heap.size < W1.heap.size := by rw [hW1]; simp <;> omega
              have yW11_0 : W1.cell? ⟨wo.heap.size + 1, 0, none⟩ = some (.int .i64 c1) := by rw [hW1]; go_simp
              have yW11_1 : W1.cell? ⟨wo.heap.size + 1, 1, none⟩ = some (.int .i64 c2) := by rw [hW1]; go_simp
              have fW11 : ∀ o, W1.frozen? ⟨wo.heap.size + 1, o, none⟩ = false := by intro o; rw [hW1]; (repeat rw [frozen?_alloc_cells]); simp [World.frozen?]
              have zW11 : wo.heap.size + 1 < W1.heap.size := by rw [hW1]; simp <;> omega
              have BW1 : Below wo.heap.size wo W1 := by rw [hW1]; exact (Below.alloc (Below.alloc (Below.refl _ _) (by simp <;> omega) _) (by simp <;> omega) _)
              have eW1 : Hid (W1.heap.size = wo.heap.size + 2) := Lib.hid (by rw [hW1]; simp)
              clear hW1
              have BX := hBl.trans (BW1.mono hBl.size)
              go_wp2_with fail
              go_ret2
              rw [NG.out]
              exact retL_nil (by first | exact BX | exact BX.drew)
            · skip
              obtain ⟨W1, hW1⟩ : ∃ W1, W1 = ((wo.alloc (.cells #[.int .i64 c1, .int .i64 c2] 42)).alloc (.cells #[.int .i64 b1, .int .i64 b2] 42)) := ⟨_, rfl⟩
              rw [← hW1]
              have yW10_0 : W1.cell? ⟨wo.heap.size, 0, none⟩ = some (.int .i64 c1) := by rw [hW1]; go_simp
              have yW10_1 : W1.cell? ⟨wo.heap.size, 1, none⟩ = some (.int .i64 c2) := by rw [hW1]; go_simp
              have fW10 : ∀ o, W1.frozen? ⟨wo.heap.size, o, none⟩ = false := by intro o; rw [hW1]; (repeat rw [frozen?_alloc_cells]); simp [World.frozen?]
              have zW10 : wo.heap.size < W1.heap.size := by rw [hW1]; simp <;> omega
              have yW11_0 : W1.cell? ⟨wo.heap.size + 1, 0, none⟩ = some (.int .i64 b1) := by rw [hW1]; go_simp
              have yW11_1 : W1.cell? ⟨wo.heap.size + 1, 1, none⟩ = some (.int .i64 b2) := by rw [hW1]; go_simp
              have fW11 : ∀ o, W1.frozen? ⟨wo.heap.size + 1, o, none⟩ = false := by intro o; rw [hW1]; (repeat rw [frozen?_alloc_cells]); simp [World.frozen?]
              have zW11 : wo.heap.size + 1 < W1.heap.size := by rw [hW1]; simp <;> omega
              have BW1 : Below wo.heap.size wo W1 := by rw [hW1]; exact (Below.alloc (Below.alloc (Below.refl _ _) (by simp <;> omega) _) (by simp <;> omega) _)
              have eW1 : Hid (W1.heap.size = wo.heap.size + 2) := Lib.hid (by rw [hW1]; simp)
              clear hW1
              have BX := hBl.trans (BW1.mono hBl.size)
              go_wp2_with fail
              go_ret2
              rw [NG.out]
              exact retL_nil (by first | exact BX | exact BX.drew)
        · skip
          obtain ⟨x0, x1, x2, x3, x4, x5⟩ := H3.out wo hBl
          have hbz : b < wo.heap.size := by have := hBl.size; omega
          obtain ⟨⟨u1, u2⟩, ⟨u3, u4⟩, ⟨u5, u6⟩, ⟨u7, u8⟩, ⟨u9, u10⟩, ⟨u11, u12⟩⟩ := UB.out
          by_cases h1 : (c1 + a1).tmod 2 = 0
          · by_cases h2 : (c2 + a2).tmod 2 = 0
            · have OK2 : Hid (∀ i, i < 2 → ev i = true) := Lib.hid (fun ii hii => by
                by_cases hij : ii = 1
                · rw [hij, EV1.out, h1, h2]; rfl
                · exact hF.out ii (by omega))
              clear hF
              go_wp2_with fail
              go_region
              · skip
                obtain ⟨W1, hW1⟩ : ∃ W1, W1 = ((wo.alloc (.cells #[.int .i64 c1, .int .i64 c2] 42)).alloc (.cells #[.int .i64 a1, .int .i64 a2] 42)) := ⟨_, rfl⟩
                rw [← hW1]
                have yW10_0 : W1.cell? ⟨wo.heap.size, 0, none⟩ = some (.int .i64 c1) := by rw [hW1]; go_simp
                have yW10_1 : W1.cell? ⟨wo.heap.size, 1, none⟩ = some (.int .i64 c2) := by rw [hW1]; go_simp
                have fW10 : ∀ o, W1.frozen? ⟨wo.heap.size, o, none⟩ = false := by intro o; rw [hW1]; (repeat rw [frozen?_alloc_cells]); simp [World.frozen?]
                have zW10 : wo.heap.size < W1.heap.size := by rw [hW1]; simp <;> omega
                have yW11_0 : W1.cell? ⟨wo.heap.size + 1, 0, none⟩ = some (.int .i64 a1) := by rw [hW1]; go_simp
                have yW11_1 : W1.cell? ⟨wo.heap.size + 1, 1, none⟩ = some (.int .i64 a2) := by rw [hW1]; go_simp
                have fW11 : ∀ o, W1.frozen? ⟨wo.heap.size + 1, o, none⟩ = false := by intro o; rw [hW1]; (repeat rw [frozen?_alloc_cells]); simp [World.frozen?]
                have zW11 : wo.heap.size + 1 < W1.heap.size := by rw [hW1]; simp <;> omega
                have BW1 : Below wo.heap.size wo W1 := by rw [hW1]; exact (Below.alloc (Below.alloc (Below.refl _ _) (by simp <;> omega) _) (by simp <;> omega) _)
                have eW1 : Hid (W1.heap.size = wo.heap.size + 2) := Lib.hid (by rw [hW1]; simp)
                clear hW1
                have BX := hBl.trans (BW1.mono hBl.size)
                have R1 := row_below hr.out BW1 (Nat.le_refl _)
                have RA := Lib.hid (row_alloc R1 (.cells #[.int .i64 ((c1 + a1).tdiv 2), .int .i64 ((c2 + a2).tdiv 2)] 42))
                have BA := Lib.hid (Below.alloc BX BX.size (.cells #[.int .i64 ((c1 + a1).tdiv 2), .int .i64 ((c2 + a2).tdiv 2)] 42))
                have hzX := BX.size
                clear R1 hr BX
                go_wp2_with (at_builtin; refine wpList_append_own _ rfl (.tmp 44) (.tmp 58) 26 rfl w.heap.size 42 i0 (.agg #[.int .i64 0, .int .i64 0]) 2 16 Try.underlying26 HI.out.1 HI.out.2.1 HI.out.2.2.1 HI.out.2.2.2 rfl (by decide) _ 1 (flat (firsts f 1)) rfl RA.out ⟨W1.heap.size, 0, none⟩ 1 1 [.int .i64 ((c1 + a1).tdiv 2), .int .i64 ((c2 + a2).tdiv 2)] rfl rfl (two_cells (by go_simp) (by go_simp)) (two_one _ _) (by unfold maxLen; omega) (by omega) (by simp; omega) ?_)
                intro v' w4 hown hgr _
                have RB := row_push (f := f) (k := 1) (Below.drew BA.out) (World.ownsRow.drew RA.out) (by rw [MF1.out]; exact hown) hgr
                have R3 := Lib.hid RB.1
                have B3 := RB.2
                clear RB hown hgr BA RA
                go_wp2_with fail
                go_roundg (3 - (1 + 1))
                case measure => omega
                case rel => exact ⟨1 + 1, _, rfl, by omega, rfl, by go_num, B3, R3, OK2⟩
              · skip
                obtain ⟨W1, hW1⟩ : ∃ W1, W1 = ((wo.alloc (.cells #[.int .i64 a1, .int .i64 a2] 42)).alloc (.cells #[.int .i64 c1, .int .i64 c2] 42)) := ⟨_, rfl⟩
                rw [← hW1]
                have yW10_0 : W1.cell? ⟨wo.heap.size, 0, none⟩ = some (.int .i64 a1) := by rw [hW1]; go_simp
                have yW10_1 : W1.cell? ⟨wo.heap.size, 1, none⟩ = some (.int .i64 a2) := by rw [hW1]; go_simp
                have fW10 : ∀ o, W1.frozen? ⟨wo.heap.size, o, none⟩ = false := by intro o; rw [hW1]; (repeat rw [frozen?_alloc_cells]); simp [World.frozen?]
                have zW10 : wo.heap.size < W1.heap.size := by rw [hW1]; simp <;> omega
                have yW11_0 : W1.cell? ⟨wo.heap.size + 1, 0, none⟩ = some (.int .i64 c1) := by rw [hW1]; go_simp
                have yW11_1 : W1.cell? ⟨wo.heap.size + 1, 1, none⟩ = some (.int .i64 c2) := by rw [hW1]; go_simp
                have fW11 : ∀ o, W1.frozen? ⟨wo.heap.size + 1, o, none⟩ = false := by intro o; rw [hW1]; (repeat rw [frozen?_alloc_cells]); simp [World.frozen?]
                have zW11 : wo.heap.size + 1 < W1.heap.size := by rw [hW1]; simp <;> omega
                have BW1 : Below wo.heap.size wo W1 := by rw [hW1]; exact (Below.alloc (Below.alloc (Below.refl _ _) (by simp <;> omega) _) (by simp <;> omega) _)
                have eW1 : Hid (W1.heap.size = wo.heap.size + 2) := Lib.hid (by rw [hW1]; simp)
                clear hW1
                have BX := hBl.trans (BW1.mono hBl.size)
                have R1 := row_below hr.out BW1 (Nat.le_refl _)
                have RA := Lib.hid (row_alloc R1 (.cells #[.int .i64 ((c1 + a1).tdiv 2), .int .i64 ((c2 + a2).tdiv 2)] 42))
                have BA := Lib.hid (Below.alloc BX BX.size (.cells #[.int .i64 ((c1 + a1).tdiv 2), .int .i64 ((c2 + a2).tdiv 2)] 42))
                have hzX := BX.size
                clear R1 hr BX
                go_wp2_with (at_builtin; refine wpList_append_own _ rfl (.tmp 44) (.tmp 58) 26 rfl w.heap.size 42 i0 (.agg #[.int .i64 0, .int .i64 0]) 2 16 Try.underlying26 HI.out.1 HI.out.2.1 HI.out.2.2.1 HI.out.2.2.2 rfl (by decide) _ 1 (flat (firsts f 1)) rfl RA.out ⟨W1.heap.size, 0, none⟩ 1 1 [.int .i64 ((c1 + a1).tdiv 2), .int .i64 ((c2 + a2).tdiv 2)] rfl rfl (two_cells (by go_simp) (by go_simp)) (two_one _ _) (by unfold maxLen; omega) (by omega) (by simp; omega) ?_)
                intro v' w4 hown hgr _
                have RB := row_push (f := f) (k := 1) (Below.drew BA.out) (World.ownsRow.drew RA.out) (by rw [MF1.out]; exact hown) hgr
                have R3 := Lib.hid RB.1
                have B3 := RB.2
                clear RB hown hgr BA RA
                go_wp2_with fail
                go_roundg (3 - (1 + 1))
                case measure => omega
                case rel => exact ⟨1 + 1, _, rfl, by omega, rfl, by go_num, B3, R3, OK2⟩
            · have NG : Hid (ok = false) := Lib.hid (MN.out 1 (by omega) (by rw [EV1.out]; simp [h2]))
              have h2b : ((c2 + a2).tmod 2 != 0) = true := by simpa using h2
              go_wp2_with fail
              go_region
              · skip
                obtain ⟨W1, hW1⟩ : ∃ W1, W1 = ((wo.alloc (.cells #[.int .i64 c1, .int .i64 c2] 42)).alloc (.cells #[.int .i64 a1, .int .i64 a2] 42)) := ⟨_, rfl⟩
                rw [← hW1]
                have yW10_0 : W1.cell? ⟨wo.heap.size, 0, none⟩ = some (.int .i64 c1) := by rw [hW1]; go_simp
                have yW10_1 : W1.cell? ⟨wo.heap.size, 1, none⟩ = some (.int .i64 c2) := by rw [hW1]; go_simp
                have fW10 : ∀ o, W1.frozen? ⟨wo.heap.size, o, none⟩ = false := by intro o; rw [hW1]; (repeat rw [frozen?_alloc_cells]); simp [World.frozen?]
                have zW10 : wo.heap.size < W1.heap.size := by rw [hW1]; simp <;> omega
                have yW11_0 : W1.cell? ⟨wo.heap.size + 1, 0, none⟩ = some (.int .i64 a1) := by rw [hW1]; go_simp
                have yW11_1 : W1.cell? ⟨wo.heap.size + 1, 1, none⟩ = some (.int .i64 a2) := by rw [hW1]; go_simp
                have fW11 : ∀ o, W1.frozen? ⟨wo.heap.size + 1, o, none⟩ = false := by intro o; rw [hW1]; (repeat rw [frozen?_alloc_cells]); simp [World.frozen?]
                have zW11 : wo.heap.size + 1 < W1.heap.size := by rw [hW1]; simp <;> omega
                have BW1 : Below wo.heap.size wo W1 := by rw [hW1]; exact (Below.alloc (Below.alloc (Below.refl _ _) (by simp <;> omega) _) (by simp <;> omega) _)
                have eW1 : Hid (W1.heap.size = wo.heap.size + 2) := Lib.hid (by rw [hW1]; simp)
                clear hW1
                have BX := hBl.trans (BW1.mono hBl.size)
                go_wp2_with fail
                go_ret2
                rw [NG.out]
                exact retL_nil (by first | exact BX | exact BX.drew)
              · skip
                obtain ⟨W1, hW1⟩ : ∃ W1, W1 = ((wo.alloc (.cells #[.int .i64 a1, .int .i64 a2] 42)).alloc (.cells #[.int .i64 c1, .int .i64 c2] 42)) := ⟨_, rfl⟩
                rw [← hW1]
                have yW10_0 : W1.cell? ⟨wo.heap.size, 0, none⟩ = some (.int .i64 a1) := by rw [hW1]; go_simp
                have yW10_1 : W1.cell? ⟨wo.heap.size, 1, none⟩ = some (.int .i64 a2) := by rw [hW1]; go_simp
                have fW10 : ∀ o, W1.frozen? ⟨wo.heap.size, o, none⟩ = false := by intro o; rw [hW1]; (repeat rw [frozen?_alloc_cells]); simp [World.frozen?]
                have zW10 : wo.heap.size < W1.heap.size := by rw [hW1]; simp <;> omega
                have yW11_0 : W1.cell? ⟨wo.heap.size + 1, 0, none⟩ = some (.int .i64 c1) := by rw [hW1]; go_simp
                have yW11_1 : W1.cell? ⟨wo.heap.size + 1, 1, none⟩ = some (.int .i64 c2) := by rw [hW1]; go_simp
                have fW11 : ∀ o, W1.frozen? ⟨wo.heap.size + 1, o, none⟩ = false := by intro o; rw [hW1]; (repeat rw [frozen?_alloc_cells]); simp [World.frozen?]
                have zW11 : wo.heap.size + 1 < W1.heap.size := by rw [hW1]; simp <;> omega
                have BW1 : Below wo.heap.size wo W1 := by rw [hW1]; exact (Below.alloc (Below.alloc (Below.refl _ _) (by simp <;> omega) _) (by simp <;> omega) _)
                have eW1 : Hid (W1.heap.size = wo.heap.size + 2) := Lib.hid (by rw [hW1]; simp)
                clear hW1
                have BX := hBl.trans (BW1.mono hBl.size)
                go_wp2_with fail
                go_ret2
                rw [NG.out]
                exact retL_nil (by first | exact BX | exact BX.drew)
          · have NG : Hid (ok = false) := Lib.hid (MN.out 1 (by omega) (by rw [EV1.out]; simp [h1]))
            have h1b : ((c1 + a1).tmod 2 != 0) = true := by simpa using h1
            go_wp2_with fail
            go_region
            · skip
              obtain ⟨W1, hW1⟩ : ∃ W1, W1 = ((wo.alloc (.cells #[.int .i64 c1, .int .i64 c2] 42)).alloc (.cells #[.int .i64 a1, .int .i64 a2] 42)) := ⟨_, rfl⟩
              rw [← hW1]
              have yW10_0 : W1.cell? ⟨wo.heap.size, 0, none⟩ = some (.int .i64 c1) := by rw [hW1]; go_simp
              have yW10_1 : W1.cell? ⟨wo.heap.size, 1, none⟩ = some (.int .i64 c2) := by rw [hW1]; go_simp
              have fW10 : ∀ o, W1.frozen? ⟨wo.heap.size, o, none⟩ = false := by intro o; rw [hW1]; (repeat rw [frozen?_alloc_cells]); simp [World.frozen?]
              have zW10 : wo.heap.size < W1.heap.size := by rw [hW1]; simp <;> omega
              have yW11_0 : W1.cell? ⟨wo.heap.size + 1, 0, none⟩ = some (.int .i64 a1) := by rw [hW1]; go_simp
              have yW11_1 : W1.cell? ⟨wo.heap.size + 1, 1, none⟩ = some (.int .i64 a2) := by rw [hW1]; go_simp
              have fW11 : ∀ o, W1.frozen? ⟨wo.heap.size + 1, o, none⟩ = false := by intro o; rw [hW1]; (repeat rw [frozen?_alloc_cells]); simp [World.frozen?]
              have zW11 : wo.heap.size + 1 < W1.heap.size := by rw [hW1]; simp <;> omega
              have BW1 : Below wo.heap.size wo W1 := by rw [hW1]; exact (Below.alloc (Below.alloc (Below.refl _ _) (by simp <;> omega) _) (by simp <;> omega) _)
              have eW1 : Hid (W1.heap.size = wo.heap.size + 2) := Lib.hid (by rw [hW1]; simp)
              clear hW1
              have BX := hBl.trans (BW1.mono hBl.size)
              go_wp2_with fail
              go_ret2
              rw [NG.out]
              exact retL_nil (by first | exact BX | exact BX.drew)
            · skip
              obtain ⟨W1, hW1⟩ : ∃ W1, W1 = ((wo.alloc (.cells #[.int .i64 a1, .int .i64 a2] 42)).alloc (.cells #[.int .i64 c1, .int .i64 c2] 42)) := ⟨_, rfl⟩
              rw [← hW1]
              have yW10_0 : W1.cell? ⟨wo.heap.size, 0, none⟩ = some (.int .i64 a1) := by rw [hW1]; go_simp
              have yW10_1 : W1.cell? ⟨wo.heap.size, 1, none⟩ = some (.int .i64 a2) := by rw [hW1]; go_simp
              have fW10 : ∀ o, W1.frozen? ⟨wo.heap.size, o, none⟩ = false := by intro o; rw [hW1]; (repeat rw [frozen?_alloc_cells]); simp [World.frozen?]
              have zW10 : wo.heap.size < W1.heap.size := by rw [hW1]; simp <;> omega
              have yW11_0 : W1.cell? ⟨wo.heap.size + 1, 0, none⟩ = some (.int .i64 c1) := by rw [hW1]; go_simp
              have yW11_1 : W1.cell? ⟨wo.heap.size + 1, 1, none⟩ = some (.int .i64 c2) := by rw [hW1]; go_simp
              have fW11 : ∀ o, W1.frozen? ⟨wo.heap.size + 1, o, none⟩ = false := by intro o; rw [hW1]; (repeat rw [frozen?_alloc_cells]); simp [World.frozen?]
              have zW11 : wo.heap.size + 1 < W1.heap.size := by rw [hW1]; simp <;> omega
              have BW1 : Below wo.heap.size wo W1 := by rw [hW1]; exact (Below.alloc (Below.alloc (Below.refl _ _) (by simp <;> omega) _) (by simp <;> omega) _)
              have eW1 : Hid (W1.heap.size = wo.heap.size + 2) := Lib.hid (by rw [hW1]; simp)
              clear hW1
              have BX := hBl.trans (BW1.mono hBl.size)
              go_wp2_with fail
              go_ret2
              rw [NG.out]
              exact retL_nil (by first | exact BX | exact BX.drew)
        · skip
          obtain ⟨x0, x1, x2, x3, x4, x5⟩ := H3.out wo hBl
          have hbz : b < wo.heap.size := by have := hBl.size; omega
          obtain ⟨⟨u1, u2⟩, ⟨u3, u4⟩, ⟨u5, u6⟩, ⟨u7, u8⟩, ⟨u9, u10⟩, ⟨u11, u12⟩⟩ := UB.out
          by_cases h1 : (a1 + b1).tmod 2 = 0
          · by_cases h2 : (a2 + b2).tmod 2 = 0
            · have OK2 : Hid (∀ i, i < 3 → ev i = true) := Lib.hid (fun ii hii => by
                by_cases hij : ii = 2
                · rw [hij, EV2.out, h1, h2]; rfl
                · exact hF.out ii (by omega))
              clear hF
              go_wp2_with fail
              go_region
              · skip
                obtain ⟨W1, hW1⟩ : ∃ W1, W1 = ((wo.alloc (.cells #[.int .i64 a1, .int .i64 a2] 42)).alloc (.cells #[.int .i64 b1, .int .i64 b2] 42)) := ⟨_, rfl⟩
                rw [← hW1]
                have yW10_0 : W1.cell? ⟨wo.heap.size, 0, none⟩ = some (.int .i64 a1) := by rw [hW1]; go_simp
                have yW10_1 : W1.cell? ⟨wo.heap.size, 1, none⟩ = some (.int .i64 a2) := by rw [hW1]; go_simp
                have fW10 : ∀ o, W1.frozen? ⟨wo.heap.size, o, none⟩ = false := by intro o; rw [hW1]; (repeat rw [frozen?_alloc_cells]); simp [World.frozen?]
                have zW10 : wo.heap.size < W1.heap.size := by rw [hW1]; simp <;> omega
                have yW11_0 : W1.cell? ⟨wo.heap.size + 1, 0, none⟩ = some (.int .i64 b1) := by rw [hW1]; go_simp
                have yW11_1 : W1.cell? ⟨wo.heap.size + 1, 1, none⟩ = some (.int .i64 b2) := by rw [hW1]; go_simp
                have fW11 : ∀ o, W1.frozen? ⟨wo.heap.size + 1, o, none⟩ = false := by intro o; rw [hW1]; (repeat rw [frozen?_alloc_cells]); simp [World.frozen?]
                have zW11 : wo.heap.size + 1 < W1.heap.size := by rw [hW1]; simp <;> omega
                have BW1 : Below wo.heap.size wo W1 := by rw [hW1]; exact (Below.alloc (Below.alloc (Below.refl _ _) (by simp <;> omega) _) (by simp <;> omega) _)
                have eW1 : Hid (W1.heap.size = wo.heap.size + 2) := Lib.hid (by rw [hW1]; simp)
                clear hW1
                have BX := hBl.trans (BW1.mono hBl.size)
                have R1 := row_below hr.out BW1 (Nat.le_refl _)
                have RA := Lib.hid (row_alloc R1 (.cells #[.int .i64 ((a1 + b1).tdiv 2), .int .i64 ((a2 + b2).tdiv 2)] 42))
                have BA := Lib.hid (Below.alloc BX BX.size (.cells #[.int .i64 ((a1 + b1).tdiv 2), .int .i64 ((a2 + b2).tdiv 2)] 42))
                have hzX := BX.size
                clear R1 hr BX
                go_wp2_with (at_builtin; refine wpList_append_own _ rfl (.tmp 44) (.tmp 58) 26 rfl w.heap.size 42 i0 (.agg #[.int .i64 0, .int .i64 0]) 2 16 Try.underlying26 HI.out.1 HI.out.2.1 HI.out.2.2.1 HI.out.2.2.2 rfl (by decide) _ 2 (flat (firsts f 2)) rfl RA.out ⟨W1.heap.size, 0, none⟩ 1 1 [.int .i64 ((a1 + b1).tdiv 2), .int .i64 ((a2 + b2).tdiv 2)] rfl rfl (two_cells (by go_simp) (by go_simp)) (two_one _ _) (by unfold maxLen; omega) (by omega) (by simp; omega) ?_)
                intro v' w4 hown hgr _
                have RB := row_push (f := f) (k := 2) (Below.drew BA.out) (World.ownsRow.drew RA.out) (by rw [MF2.out]; exact hown) hgr
                have R3 := Lib.hid RB.1
                have B3 := RB.2
                clear RB hown hgr BA RA
                go_wp2_with fail
                go_roundg (3 - (2 + 1))
                case measure => omega
                case rel => exact ⟨2 + 1, _, rfl, by omega, rfl, by go_num, B3, R3, OK2⟩
              · skip
                obtain ⟨W1, hW1⟩ : ∃ W1, W1 = ((wo.alloc (.cells #[.int .i64 b1, .int .i64 b2] 42)).alloc (.cells #[.int .i64 a1, .int .i64 a2] 42)) := ⟨_, rfl⟩
                rw [← hW1]
                have yW10_0 : W1.cell? ⟨wo.heap.size, 0, none⟩ = some (.int .i64 b1) := by rw [hW1]; go_simp
                have yW10_1 : W1.cell? ⟨wo.heap.size, 1, none⟩ = some (.int .i64 b2) := by rw [hW1]; go_simp
                have fW10 : ∀ o, W1.frozen? ⟨wo.heap.size, o, none⟩ = false := by intro o; rw [hW1]; (repeat rw [frozen?_alloc_cells]); simp [World.frozen?]
                have zW10 : wo.heap.size < W1.heap.size := by rw [hW1]; simp <;> omega
                have yW11_0 : W1.cell? ⟨wo.heap.size + 1, 0, none⟩ = some (.int .i64 a1) := by rw [hW1]; go_simp
                have yW11_1 : W1.cell? ⟨wo.heap.size + 1, 1, none⟩ = some (.int .i64 a2) := by rw [hW1]; go_simp
                have fW11 : ∀ o, W1.frozen? ⟨wo.heap.size + 1, o, none⟩ = false := by intro o; rw [hW1]; (repeat rw [frozen?_alloc_cells]); simp [World.frozen?]
                have zW11 : wo.heap.size + 1 < W1.heap.size := by rw [hW1]; simp <;> omega
                have BW1 : Below wo.heap.size wo W1 := by rw [hW1]; exact (Below.alloc (Below.alloc (Below.refl _ _) (by simp <;> omega) _) (by simp <;> omega) _)
                have eW1 : Hid (W1.heap.size = wo.heap.size + 2) := Lib.hid (by rw [hW1]; simp)
                clear hW1
                have BX := hBl.trans (BW1.mono hBl.size)
                have R1 := row_below hr.out BW1 (Nat.le_refl _)
                have RA := Lib.hid (row_alloc R1 (.cells #[.int .i64 ((a1 + b1).tdiv 2), .int .i64 ((a2 + b2).tdiv 2)] 42))
                have BA := Lib.hid (Below.alloc BX BX.size (.cells #[.int .i64 ((a1 + b1).tdiv 2), .int .i64 ((a2 + b2).tdiv 2)] 42))
                have hzX := BX.size
                clear R1 hr BX
                go_wp2_with (at_builtin; refine wpList_append_own _ rfl (.tmp 44) (.tmp 58) 26 rfl w.heap.size 42 i0 (.agg #[.int .i64 0, .int .i64 0]) 2 16 Try.underlying26 HI.out.1 HI.out.2.1 HI.out.2.2.1 HI.out.2.2.2 rfl (by decide) _ 2 (flat (firsts f 2)) rfl RA.out ⟨W1.heap.size, 0, none⟩ 1 1 [.int .i64 ((a1 + b1).tdiv 2), .int .i64 ((a2 + b2).tdiv 2)] rfl rfl (two_cells (by go_simp) (by go_simp)) (two_one _ _) (by unfold maxLen; omega) (by omega) (by simp; omega) ?_)
                intro v' w4 hown hgr _
                have RB := row_push (f := f) (k := 2) (Below.drew BA.out) (World.ownsRow.drew RA.out) (by rw [MF2.out]; exact hown) hgr
                have R3 := Lib.hid RB.1
                have B3 := RB.2
                clear RB hown hgr BA RA
                go_wp2_with fail
                go_roundg (3 - (2 + 1))
                case measure => omega
                case rel => exact ⟨2 + 1, _, rfl, by omega, rfl, by go_num, B3, R3, OK2⟩
            · have NG : Hid (ok = false) := Lib.hid (MN.out 2 (by omega) (by rw [EV2.out]; simp [h2]))
              have h2b : ((a2 + b2).tmod 2 != 0) = true := by simpa using h2
              go_wp2_with fail
              go_region
              · skip
                obtain ⟨W1, hW1⟩ : ∃ W1, W1 = ((wo.alloc (.cells #[.int .i64 a1, .int .i64 a2] 42)).alloc (.cells #[.int .i64 b1, .int .i64 b2] 42)) := ⟨_, rfl⟩
                rw [← hW1]
                have yW10_0 : W1.cell? ⟨wo.heap.size, 0, none⟩ = some (.int .i64 a1) := by rw [hW1]; go_simp
                have yW10_1 : W1.cell? ⟨wo.heap.size, 1, none⟩ = some (.int .i64 a2) := by rw [hW1]; go_simp
                have fW10 : ∀ o, W1.frozen? ⟨wo.heap.size, o, none⟩ = false := by intro o; rw [hW1]; (repeat rw [frozen?_alloc_cells]); simp [World.frozen?]
                have zW10 : wo.heap.size < W1.heap.size := by rw [hW1]; simp <;> omega
                have yW11_0 : W1.cell? ⟨wo.heap.size + 1, 0, none⟩ = some (.int .i64 b1) := by rw [hW1]; go_simp
                have yW11_1 : W1.cell? ⟨wo.heap.size + 1, 1, none⟩ = some (.int .i64 b2) := by rw [hW1]; go_simp
                have fW11 : ∀ o, W1.frozen? ⟨wo.heap.size + 1, o, none⟩ = false := by intro o; rw [hW1]; (repeat rw [frozen?_alloc_cells]); simp [World.frozen?]
                have zW11 : wo.heap.size + 1 < W1.heap.size := by rw [hW1]; simp <;> omega
                have BW1 : Below wo.heap.size wo W1 := by rw [hW1]; exact (Below.alloc (Below.alloc (Below.refl _ _) (by simp <;> omega) _) (by simp <;> omega) _)
                have eW1 : Hid (W1.heap.size = wo.heap.size + 2) := Lib.hid (by rw [hW1]; simp)
                clear hW1
                have BX := hBl.trans (BW1.mono hBl.size)
                go_wp2_with fail
                go_ret2
                rw [NG.out]
                exact retL_nil (by first | exact BX | exact BX.drew)
              · skip
                obtain ⟨W1, hW1⟩ : ∃ W1, W1 = ((wo.alloc (.cells #[.int .i64 b1, .int .i64 b2] 42)).alloc (.cells #[.int .i64 a1, .int .i64 a2] 42)) := ⟨_, rfl⟩
                rw [← hW1]
                have yW10_0 : W1.cell? ⟨wo.heap.size, 0, none⟩ = some (.int .i64 b1) := by rw [hW1]; go_simp
                have yW10_1 : W1.cell? ⟨wo.heap.size, 1, none⟩ = some (.int .i64 b2) := by rw [hW1]; go_simp
                have fW10 : ∀ o, W1.frozen? ⟨wo.heap.size, o, none⟩ = false := by intro o; rw [hW1]; (repeat rw [frozen?_alloc_cells]); simp [World.frozen?]
                have zW10 : wo.heap.size < W1.heap.size := by rw [hW1]; simp <;> omega
                have yW11_0 : W1.cell? ⟨wo.heap.size + 1, 0, none⟩ = some (.int .i64 a1) := by rw [hW1]; go_simp
                have yW11_1 : W1.cell? ⟨wo.heap.size + 1, 1, none⟩ = some (.int .i64 a2) := by rw [hW1]; go_simp
                have fW11 : ∀ o, W1.frozen? ⟨wo.heap.size + 1, o, none⟩ = false := by intro o; rw [hW1]; (repeat rw [frozen?_alloc_cells]); simp [World.frozen?]
                have zW11 : wo.heap.size + 1 < W1.heap.size := by rw [hW1]; simp <;> omega
                have BW1 : Below wo.heap.size wo W1 := by rw [hW1]; exact (Below.alloc (Below.alloc (Below.refl _ _) (by simp <;> omega) _) (by simp <;> omega) _)
                have eW1 : Hid (W1.heap.size = wo.heap.size + 2) := Lib.hid (by rw [hW1]; simp)
                clear hW1
                have BX := hBl.trans (BW1.mono hBl.size)
                go_wp2_with fail
                go_ret2
                rw [NG.out]
                exact retL_nil (by first | exact BX | exact BX.drew)
          · have NG : Hid (ok = false) := Lib.hid (MN.out 2 (by omega) (by rw [EV2.out]; simp [h1]))
            have h1b : ((a1 + b1).tmod 2 != 0) = true := by simpa using h1
            go_wp2_with fail
            go_region
            · skip
              obtain ⟨W1, hW1⟩ : ∃ W1, W1 = ((wo.alloc (.cells #[.int .i64 a1, .int .i64 a2] 42)).alloc (.cells #[.int .i64 b1, .int .i64 b2] 42)) := ⟨_, rfl⟩
              rw [← hW1]
              have yW10_0 : W1.cell? ⟨wo.heap.size, 0, none⟩ = some (.int .i64 a1) := by rw [hW1]; go_simp
              have yW10_1 : W1.cell? ⟨wo.heap.size, 1, none⟩ = some (.int .i64 a2) := by rw [hW1]; go_simp
              have fW10 : ∀ o, W1.frozen? ⟨wo.heap.size, o, none⟩ = false := by intro o; rw [hW1]; (repeat rw [frozen?_alloc_cells]); simp [World.frozen?]
              have zW10 : wo.heap.size < W1.heap.size := by rw [hW1]; simp <;> omega
              have yW11_0 : W1.cell? ⟨wo.heap.size + 1, 0, none⟩ = some (.int .i64 b1) := by rw [hW1]; go_simp
              have yW11_1 : W1.cell? ⟨wo.heap.size + 1, 1, none⟩ = some (.int .i64 b2) := by rw [hW1]; go_simp
              have fW11 : ∀ o, W1.frozen? ⟨wo.heap.size + 1, o, none⟩ = false := by intro o; rw [hW1]; (repeat rw [frozen?_alloc_cells]); simp [World.frozen?]
              have zW11 : wo.heap.size + 1 < W1.heap.size := by rw [hW1]; simp <;> omega
              have BW1 : Below wo.heap.size wo W1 := by rw [hW1]; exact (Below.alloc (Below.alloc (Below.refl _ _) (by simp <;> omega) _) (by simp <;> omega) _)
              have eW1 : Hid (W1.heap.size = wo.heap.size + 2) := Lib.hid (by rw [hW1]; simp)
              clear hW1
              have BX := hBl.trans (BW1.mono hBl.size)
              go_wp2_with fail
              go_ret2
              rw [NG.out]
              exact retL_nil (by first | exact BX | exact BX.drew)
            · skip
              obtain ⟨W1, hW1⟩ : ∃ W1, W1 = ((wo.alloc (.cells #[.int .i64 b1, .int .i64 b2] 42)).alloc (.cells #[.int .i64 a1, .int .i64 a2] 42)) := ⟨_, rfl⟩
              rw [← hW1]
              have yW10_0 : W1.cell? ⟨wo.heap.size, 0, none⟩ = some (.int .i64 b1) := by rw [hW1]; go_simp
              have yW10_1 : W1.cell? ⟨wo.heap.size, 1, none⟩ = some (.int .i64 b2) := by rw [hW1]; go_simp
              have fW10 : ∀ o, W1.frozen? ⟨wo.heap.size, o, none⟩ = false := by intro o; rw [hW1]; (repeat rw [frozen?_alloc_cells]); simp [World.frozen?]
              have zW10 : wo.heap.size < W1.heap.size := by rw [hW1]; simp <;> omega
              have yW11_0 : W1.cell? ⟨wo.heap.size + 1, 0, none⟩ = some (.int .i64 a1) := by rw [hW1]; go_simp
              have yW11_1 : W1.cell? ⟨wo.heap.size + 1, 1, none⟩ = some (.int .i64 a2) := by rw [hW1]; go_simp
              have fW11 : ∀ o, W1.frozen? ⟨wo.heap.size + 1, o, none⟩ = false := by intro o; rw [hW1]; (repeat rw [frozen?_alloc_cells]); simp [World.frozen?]
              have zW11 : wo.heap.size + 1 < W1.heap.size := by rw [hW1]; simp <;> omega
              have BW1 : Below wo.heap.size wo W1 := by rw [hW1]; exact (Below.alloc (Below.alloc (Below.refl _ _) (by simp <;> omega) _) (by simp <;> omega) _)
              have eW1 : Hid (W1.heap.size = wo.heap.size + 2) := Lib.hid (by rw [hW1]; simp)
              clear hW1
              have BX := hBl.trans (BW1.mono hBl.size)
              go_wp2_with fail
              go_ret2
              rw [NG.out]
              exact retL_nil (by first | exact BX | exact BX.drew)
        · skip
          have OK3 : Hid (ok = true) := Lib.hid (MY.out hF.out)
          go_wp2_with fail
          go_ret2
          rw [OK3.out]
          exact retL_of_row hr.out hBl
  · have htf : tB l = false := by simpa using ht
    rw [htf] at K ⊢
    rw [Bool.false_and]
    clear ht htf hR
    go_enter Try.func20, Try.ntmps20
    go_wp2_with fail
    refine K.out.mono ?_; rintro e w1 ⟨rfl, hb1⟩
    go_wp2_with fail
    go_ret2
    exact retL_nil hb1
end Go.Proofs.Ytieimijkkjhegaa
