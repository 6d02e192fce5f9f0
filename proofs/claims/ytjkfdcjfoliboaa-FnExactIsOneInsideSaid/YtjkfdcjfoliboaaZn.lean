/- contract: where a point is, the program -/
import Derived.Test.YtjkfdcjfoliboaaZl
import Derived.Test.YtjkfdcjfoliboaaX
namespace Go.Proofs.Ytjkfdcjfoliboaa
open Go.ChangeShapes Go.WideShapes Go.ChangeAt Go.RowKit Go.Joins
set_option linter.unusedVariables false
set_option linter.unusedSimpArgs false
set_option maxRecDepth 4000
theorem cr_one {a b p : Int × Int} (h : a.2 ≤ p.2 ∧ p.2 < b.2 ∧ 0 < twP a b p) : MJ.cr a b p = 1 := by
  unfold MJ.cr; rw [tw_is, if_pos h]
theorem cr_neg {a b p : Int × Int} (h : b.2 ≤ p.2 ∧ p.2 < a.2 ∧ twP a b p < 0) : MJ.cr a b p = -1 := by
  unfold MJ.cr; rw [tw_is, if_neg (by omega), if_pos h]
theorem cr_nil {a b p : Int × Int} (h : ¬ (a.2 ≤ p.2 ∧ p.2 < b.2 ∧ 0 < twP a b p)) (h' : ¬ (b.2 ≤ p.2 ∧ p.2 < a.2 ∧ twP a b p < 0)) : MJ.cr a b p = 0 := by
  unfold MJ.cr; rw [tw_is, if_neg h, if_neg h']
theorem wn_bd (l : List (Int × Int)) (p : Int × Int) (k : Nat) : -(k : Int) ≤ wnN l p k ∧ wnN l p k ≤ k := by
  induction k with
  | zero => exact ⟨by simp [wnN, MJ.sm], by simp [wnN, MJ.sm]⟩
  | succ k ih =>
    have e : wnN l p (k + 1) = wnN l p k + crN l p k := rfl
    have : crN l p k = 0 ∨ crN l p k = 1 ∨ crN l p k = -1 := by
      unfold crN MJ.cr; (repeat' split) <;> simp
    omega
set_option maxHeartbeats 4000000 in
theorem placeIn_any (A : Option Addr) (c : Nat) (l : List (Int × Int)) (p1 p2 : Int) (w : World) (hg : Good l) (hp : Sz p1 p2) (hR : Rd w w.heap.size A l) :
    Calls Try.prog 45 #[.slice A l.length c, .agg #[.int .i64 p1, .int .i64 p2]] w fun e w' => e = .returned (.int .i64 (whN l (p1, p2))) ∧ Below w.heap.size w w' := by
  have h3 := hg.few.1
  have h10 := hg.few.2
  have KC := Lib.hid (fun W (hb : Below w.heap.size w W) => cornersAround_any A c l W (by omega) (by omega) (rd_more (rd_below hR hb (Nat.le_refl _)) hb.size))
  have ZP := Lib.hid (fun i => pgs_sz hg.pegs i (by omega))
  have HON : Hid (∀ k, onE l (p1, p2) k = true → whN l (p1, p2) = 0) := Lib.hid (fun k h => whN_on (onE_bd h))
  have HX : Hid ((∀ k, k < l.length → onE l (p1, p2) k = false) → whN l (p1, p2) = if wnN l (p1, p2) l.length = 0 then -1 else 1) := Lib.hid (fun h => whN_wn (by omega) h)
  have HBD := Lib.hid (fun k => wn_bd l (p1, p2) k)
  have HZ : Hid (wnN l (p1, p2) 0 = 0) := Lib.hid rfl
  clear hg hR
  generalize whN l (p1, p2) = r at *
  generalize hN : l.length = n at *
  have HN := Lib.hid hN
  clear hN
  go_enter Try.func45, Try.ntmps45
  go_wp2_with fail
  obtain ⟨Wa, hWa⟩ : ∃ Wa, Wa = (w.alloc (.cells #[.int .i64 p1, .int .i64 p2] 34)) := ⟨_, rfl⟩
  rw [← hWa]
  have yWa0_0 : Wa.cell? ⟨w.heap.size, 0, none⟩ = some (.int .i64 p1) := by rw [hWa]; go_simp
  have yWa0_1 : Wa.cell? ⟨w.heap.size, 1, none⟩ = some (.int .i64 p2) := by rw [hWa]; go_simp
  have fWa0 : ∀ o, Wa.frozen? ⟨w.heap.size, o, none⟩ = false := by intro o; rw [hWa]; (repeat rw [frozen?_alloc_cells]); simp [World.frozen?]
  have zWa0 : w.heap.size < Wa.heap.size := by rw [hWa]; simp <;> omega
  have BWa : Below w.heap.size w Wa := by rw [hWa]; exact (Below.alloc (Below.refl _ _) (by simp <;> omega) _)
  have eWa : Hid (Wa.heap.size = w.heap.size + 1) := Lib.hid (by rw [hWa]; simp)
  clear hWa
  clear fWa0 eWa
  refine (KC.out Wa BWa).mono ?_; rintro e w2 ⟨rfl, hb2, hSC⟩
  have B2 : Below w.heap.size w w2 := BWa.trans (hb2.mono BWa.size)
  obtain ⟨g, hg⟩ : ∃ g, g = Wa.heap.size := ⟨_, rfl⟩
  rw [← hg] at hSC ⊢
  have hgs : g < w2.heap.size := hSC.1
  have CE : Hid (∀ W, Below w2.heap.size w2 W → ∀ i, i < n → (W.cell? ⟨g, i * 6, none⟩ = some (.int .i64 (vx l i).1) ∧ W.cell? ⟨g, i * 6 + 1, none⟩ = some (.int .i64 (vx l i).2) ∧ W.cell? ⟨g, i * 6 + 2, none⟩ = some (.int .i64 (vx l (i + n - 1)).1) ∧ W.cell? ⟨g, i * 6 + 3, none⟩ = some (.int .i64 (vx l (i + n - 1)).2) ∧ W.cell? ⟨g, i * 6 + 4, none⟩ = some (.int .i64 (vx l (i + 1)).1) ∧ W.cell? ⟨g, i * 6 + 5, none⟩ = some (.int .i64 (vx l (i + 1)).2))) := Lib.hid (fun W hW i hi => by
    obtain ⟨c0, c1, c2, c3, c4, c5⟩ := hSC.2.2 i hi
    have hc := (bcell hW).1
    exact ⟨(hc _ _ hgs).trans c0, (hc _ _ hgs).trans c1, (hc _ _ hgs).trans c2, (hc _ _ hgs).trans c3, (hc _ _ hgs).trans c4, (hc _ _ hgs).trans c5⟩)
  have TR : Hid (∀ W, Below w2.heap.size w2 W → Below w.heap.size w W) := Lib.hid (fun W hW => B2.trans (hW.mono B2.size))
  have P0 : Hid (∀ W, Below w2.heap.size w2 W → W.cell? ⟨w.heap.size, 0, none⟩ = some (.int .i64 p1) ∧ W.cell? ⟨w.heap.size, 1, none⟩ = some (.int .i64 p2)) := Lib.hid (fun W hW => by
    have z : w.heap.size < w2.heap.size := Nat.lt_of_lt_of_le zWa0 hb2.size
    exact ⟨((bcell hW).1 _ _ z).trans (((bcell hb2).1 _ _ zWa0).trans yWa0_0), ((bcell hW).1 _ _ z).trans (((bcell hb2).1 _ _ zWa0).trans yWa0_1)⟩)
  have zp2 : w.heap.size < w2.heap.size := Nat.lt_of_lt_of_le zWa0 hb2.size
  clear KC hb2 hSC B2 hg BWa zWa0 yWa0_0 yWa0_1
  go_wp2_with fail
  go_loopg [5, 12] n (fun gg s i wr => ∃ k : Nat, k ≤ n ∧ gg = n - k ∧ i = .int .i64 k ∧ s = .int .i64 (wnN l (p1, p2) k) ∧ Below w2.heap.size w2 wr ∧ Hid (∀ j, j < k → onE l (p1, p2) j = false))
  case atStart => exact ⟨0, Nat.zero_le _, rfl, rfl, by rw [HZ.out], Below.refl _ _, Lib.hid (fun j h => absurd h (Nat.not_lt_zero _))⟩
  case round =>
    obtain ⟨k, hk, hgg, rfl, rfl, hB, hF⟩ := hrel
    rename World => wo
    have HGK := Lib.hid hgg
    clear hgg
    by_cases hlt : k < n
    · obtain ⟨a1, a2, ha⟩ : ∃ a1 a2, vx l k = (a1, a2) := ⟨_, _, rfl⟩
      obtain ⟨b1, b2, hbb⟩ : ∃ b1 b2, vx l (k + 1) = (b1, b2) := ⟨_, _, rfl⟩
      obtain ⟨f1, f2, hff⟩ : ∃ f1 f2, vx l (k + n - 1) = (f1, f2) := ⟨_, _, rfl⟩
      obtain ⟨x0, x1, x2, x3, x4, x5⟩ := CE.out wo hB k hlt
      rw [ha] at x0 x1
      rw [hff] at x2 x3
      rw [hbb] at x4 x5
      simp only [] at x0 x1 x2 x3 x4 x5
      have za : Sz a1 a2 := by have := ZP.out k; rw [ha] at this; exact this
      have zb : Sz b1 b2 := by have := ZP.out (k + 1); rw [hbb] at this; exact this
      have KO := Lib.hid (fun W => isBetween_any p1 p2 a1 a2 b1 b2 W hp za zb)
      have KT := Lib.hid (fun W => twiceThree_any a1 a2 b1 b2 p1 p2 W za zb hp)
      have eon : onE l (p1, p2) k = onB a1 a2 b1 b2 p1 p2 := by unfold onE; rw [ha, hbb]
      have HON2 : Hid (onB a1 a2 b1 b2 p1 p2 = true → r = 0) := Lib.hid (fun h => HON.out k (eon.trans h))
      have HF2 : Hid (onB a1 a2 b1 b2 p1 p2 = false → ∀ j, j < k + 1 → onE l (p1, p2) j = false) := Lib.hid (fun h j hj => by
        by_cases e : j = k
        · subst e; exact eon.trans h
        · exact hF.out j (by omega))
      have ecr : wnN l (p1, p2) (k + 1) = wnN l (p1, p2) k + MJ.cr (a1, a2) (b1, b2) (p1, p2) := by have e : wnN l (p1, p2) (k + 1) = wnN l (p1, p2) k + crN l (p1, p2) k := rfl; rw [e]; unfold crN; rw [ha, hbb]
      have H1 : Hid ((a2 ≤ p2 ∧ p2 < b2 ∧ 0 < twI a1 a2 b1 b2 p1 p2) → wnN l (p1, p2) (k + 1) = wnN l (p1, p2) k + 1) := Lib.hid (fun h => by rw [ecr, cr_one (a := (a1, a2)) (b := (b1, b2)) (p := (p1, p2)) h])
      have HM : Hid ((b2 ≤ p2 ∧ p2 < a2 ∧ twI a1 a2 b1 b2 p1 p2 < 0) → wnN l (p1, p2) (k + 1) = wnN l (p1, p2) k - 1) := Lib.hid (fun h => by rw [ecr, cr_neg (a := (a1, a2)) (b := (b1, b2)) (p := (p1, p2)) h]; omega)
      have H0 : Hid (¬ (a2 ≤ p2 ∧ p2 < b2 ∧ 0 < twI a1 a2 b1 b2 p1 p2) → ¬ (b2 ≤ p2 ∧ p2 < a2 ∧ twI a1 a2 b1 b2 p1 p2 < 0) → wnN l (p1, p2) (k + 1) = wnN l (p1, p2) k) := Lib.hid (fun h h' => by rw [ecr, cr_nil (a := (a1, a2)) (b := (b1, b2)) (p := (p1, p2)) h h', Int.add_zero])
      have hbd := HBD.out k
      clear ha hbb hff za zb eon ecr hF
      generalize onB a1 a2 b1 b2 p1 p2 = ob at *
      generalize twI a1 a2 b1 b2 p1 p2 = t at *
      generalize wnN l (p1, p2) k = q at *
      obtain ⟨qb1, qb2⟩ := hbd
      obtain ⟨y0, y1⟩ := P0.out wo hB
      have hzB := hB.size
      have hgo : g < wo.heap.size := by omega
      have zpo : w.heap.size < wo.heap.size := by omega
      go_wp2_with fail
      obtain ⟨Wb, hWb⟩ : ∃ Wb, Wb = (wo.alloc (.cells #[.int .i64 a1, .int .i64 a2, .int .i64 f1, .int .i64 f2, .int .i64 b1, .int .i64 b2] 49)) := ⟨_, rfl⟩
      rw [← hWb]
      have yWb0_0 : Wb.cell? ⟨wo.heap.size, 0, none⟩ = some (.int .i64 a1) := by rw [hWb]; go_simp
      have yWb0_1 : Wb.cell? ⟨wo.heap.size, 1, none⟩ = some (.int .i64 a2) := by rw [hWb]; go_simp
      have yWb0_2 : Wb.cell? ⟨wo.heap.size, 2, none⟩ = some (.int .i64 f1) := by rw [hWb]; go_simp
      have yWb0_3 : Wb.cell? ⟨wo.heap.size, 3, none⟩ = some (.int .i64 f2) := by rw [hWb]; go_simp
      have yWb0_4 : Wb.cell? ⟨wo.heap.size, 4, none⟩ = some (.int .i64 b1) := by rw [hWb]; go_simp
      have yWb0_5 : Wb.cell? ⟨wo.heap.size, 5, none⟩ = some (.int .i64 b2) := by rw [hWb]; go_simp
      have fWb0 : ∀ o, Wb.frozen? ⟨wo.heap.size, o, none⟩ = false := by intro o; rw [hWb]; (repeat rw [frozen?_alloc_cells]); simp [World.frozen?]
      have zWb0 : wo.heap.size < Wb.heap.size := by rw [hWb]; simp <;> omega
      have BWb : Below wo.heap.size wo Wb := by rw [hWb]; exact (Below.alloc (Below.refl _ _) (by simp <;> omega) _)
      have eWb : Hid (Wb.heap.size = wo.heap.size + 1) := Lib.hid (by rw [hWb]; simp)
      clear hWb
      have BB : Below w2.heap.size w2 Wb := hB.trans (BWb.mono hzB)
      have zpb : w.heap.size < Wb.heap.size := by have := BWb.size; omega
      have hzW := BB.size
      clear x0 x1 x2 x3 x4 x5 y0 y1 fWb0 eWb hB BWb yWb0_2 yWb0_3
      refine (KO.out Wb).mono ?_; rintro e w3 ⟨rfl, hb3⟩
      have B3 := BB.trans (hb3.mono hzW)
      have v0 := ((bcell hb3).1 _ _ zWb0).trans yWb0_0
      have v1 := ((bcell hb3).1 _ _ zWb0).trans yWb0_1
      have v4 := ((bcell hb3).1 _ _ zWb0).trans yWb0_4
      have v5 := ((bcell hb3).1 _ _ zWb0).trans yWb0_5
      obtain ⟨y0, y1⟩ := P0.out w3 B3
      have z3 := hb3.size
      have zb3 : wo.heap.size < w3.heap.size := by omega
      have zp3 : w.heap.size < w3.heap.size := by omega
      clear hb3 BB yWb0_0 yWb0_1 yWb0_4 yWb0_5 KO zWb0 zpb
      cases ob
      · have HF3 := Lib.hid (HF2.out rfl)
        clear HF2 HON2
        have hz3 := B3.size
        go_wp2_with fail
        refine (KT.out w3).mono ?_; rintro e w4 ⟨rfl, hb4⟩
        have B4 := B3.trans (hb4.mono hz3)
        have u1 := ((bcell hb4).1 _ _ zb3).trans v1
        have u5 := ((bcell hb4).1 _ _ zb3).trans v5
        clear y0 y1
        obtain ⟨y0, y1⟩ := P0.out w4 B4
        have z4 := hb4.size
        have zb4 : wo.heap.size < w4.heap.size := by omega
        have zp4 : w.heap.size < w4.heap.size := by omega
        clear hb4 v0 v1 v4 v5 B3
        by_cases d1 : a2 ≤ p2
        · by_cases d2 : p2 < b2
          · have d4 : ¬ b2 ≤ p2 := by omega
            by_cases d3 : 0 < t
            · have e1 : IntKind.i64.wrap (q + 1) = q + 1 := IntWalk.i64_in _ (by omega)
              have hst := Lib.hid (H1.out ⟨d1, d2, d3⟩)
              clear H1 H0 HM TR P0
              go_wp2_with fail
              go_roundg (n - (k + 1))
              case measure => have := HGK.out; omega
              case rel => exact ⟨k + 1, by omega, rfl, by go_num, by rw [hst.out], B4, HF3⟩
            · have hst := Lib.hid (H0.out (fun h => d3 h.2.2) (fun h => d4 h.1))
              clear H1 H0 HM TR P0
              go_wp2_with fail
              go_roundg (n - (k + 1))
              case measure => have := HGK.out; omega
              case rel => exact ⟨k + 1, by omega, rfl, by go_num, by rw [hst.out], B4, HF3⟩
          · have d4 : b2 ≤ p2 := by omega
            have d5 : ¬ p2 < a2 := by omega
            have hst := Lib.hid (H0.out (fun h => d2 h.2.1) (fun h => d5 h.2.1))
            clear H1 H0 HM TR P0
            go_wp2_with fail
            go_roundg (n - (k + 1))
            case measure => have := HGK.out; omega
            case rel => exact ⟨k + 1, by omega, rfl, by go_num, by rw [hst.out], B4, HF3⟩
        · have d5 : p2 < a2 := by omega
          by_cases d4 : b2 ≤ p2
          · by_cases d3 : t < 0
            · have e1 : IntKind.i64.wrap (q - 1) = q - 1 := IntWalk.i64_in _ (by omega)
              have hst := Lib.hid (HM.out ⟨d4, d5, d3⟩)
              clear H1 H0 HM TR P0
              go_wp2_with fail
              go_roundg (n - (k + 1))
              case measure => have := HGK.out; omega
              case rel => exact ⟨k + 1, by omega, rfl, by go_num, by rw [hst.out], B4, HF3⟩
            · have hst := Lib.hid (H0.out (fun h => d1 h.1) (fun h => d3 h.2.2))
              clear H1 H0 HM TR P0
              go_wp2_with fail
              go_roundg (n - (k + 1))
              case measure => have := HGK.out; omega
              case rel => exact ⟨k + 1, by omega, rfl, by go_num, by rw [hst.out], B4, HF3⟩
          · have hst := Lib.hid (H0.out (fun h => d1 h.1) (fun h => d4 h.1))
            clear H1 H0 HM TR P0
            go_wp2_with fail
            go_roundg (n - (k + 1))
            case measure => have := HGK.out; omega
            case rel => exact ⟨k + 1, by omega, rfl, by go_num, by rw [hst.out], B4, HF3⟩
      · have hr := Lib.hid (HON2.out rfl)
        have BE := Lib.hid (TR.out w3 B3)
        go_wp2_with fail
        go_ret
        exact ⟨ret_int hr.out.symm, BE.out⟩
    · have hkn : n = k := by omega
      subst hkn
      have hy := Lib.hid (HX.out (fun j hj => hF.out j hj))
      have BE := Lib.hid (TR.out wo hB)
      by_cases hx : wnN l (p1, p2) n = 0
      · rw [if_pos hx] at hy
        rw [hx]
        clear hx
        go_wp2_with fail
        go_ret
        exact ⟨ret_int hy.out.symm, BE.out⟩
      · rw [if_neg hx] at hy
        have hxb : (wnN l (p1, p2) n == 0) = false := by simpa using hx
        generalize wnN l (p1, p2) n = q at *
        go_wp2_with fail
        go_ret
        exact ⟨ret_int hy.out.symm, BE.out⟩
end Go.Proofs.Ytjkfdcjfoliboaa
