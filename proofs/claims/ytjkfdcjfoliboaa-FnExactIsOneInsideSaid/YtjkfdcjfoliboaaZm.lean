/- contract: where a point is, the model -/
import Derived.Test.YtjkfdcjfoliboaaZl
import Derived.Test.YtjkfdcjfoliboaaSa
namespace Go.Proofs.Ytjkfdcjfoliboaa
open Go.ChangeShapes Go.WideShapes Go.ChangeAt Go.RowKit Go.Joins
set_option linter.unusedVariables false
set_option linter.unusedSimpArgs false
set_option maxRecDepth 4000
theorem frozen_drew (W : World) (a : Addr) : (W.drew).frozen? a = W.frozen? a := rfl
set_option maxHeartbeats 4000000 in
theorem pgWhere_any (A : Option Addr) (c : Nat) (l : List (Int × Int)) (p1 p2 : Int) (w : World) (hg : Good l) (hp : Sz p1 p2) (hR : Rd w w.heap.size A l) :
    Calls Try.prog 43 #[.slice A l.length c, .agg #[.int .i64 p1, .int .i64 p2]] w fun e w' => e = .returned (.int .i64 (whN l (p1, p2))) ∧ Below w.heap.size w w' := by
  have h3 := hg.few.1
  have hn := hg.few.2
  obtain ⟨b, off, rfl, hb, HC⟩ := pts_of (by omega) hR
  have ZP := Lib.hid (fun i => pgs_sz hg.pegs i (by omega))
  have HON : Hid (∀ k, onE l (p1, p2) k = true → whN l (p1, p2) = 0) := Lib.hid (fun k h => whN_on (onE_bd h))
  have HX : Hid ((∀ k, k < l.length → onE l (p1, p2) k = false) → whN l (p1, p2) = if xsN l (p1, p2) l.length % 2 = 1 then 1 else -1) := Lib.hid (whN_xs hg)
  have HZ : Hid (decide (xsN l (p1, p2) 0 % 2 = 1) = false) := Lib.hid rfl
  clear hg hR
  generalize whN l (p1, p2) = r at *
  generalize hN : l.length = n at *
  have HN := Lib.hid hN
  clear hN
  go_enter Try.func43, Try.ntmps43
  go_wp2_with fail
  obtain ⟨Wa, hWa⟩ : ∃ Wa, Wa = (w.alloc (.cells #[.int .i64 p1, .int .i64 p2] 34)) := ⟨_, rfl⟩
  rw [← hWa]
  have yWa0_0 : Wa.cell? ⟨w.heap.size, 0, none⟩ = some (.int .i64 p1) := by rw [hWa]; go_simp
  have yWa0_1 : Wa.cell? ⟨w.heap.size, 1, none⟩ = some (.int .i64 p2) := by rw [hWa]; go_simp
  have fWa0 : ∀ o, Wa.frozen? ⟨w.heap.size, o, none⟩ = false := by intro o; rw [hWa]; (repeat rw [frozen?_alloc_cells]); simp [World.frozen?]
  have zWa0 : w.heap.size < Wa.heap.size := by rw [hWa]; simp <;> omega
  have BWa : Below w.heap.size w Wa := by rw [hWa]; exact (Below.alloc (Below.refl _ _) (by simp <;> omega) _)
  have eWa : Hid (Wa.heap.size = w.heap.size + 1) := Lib.hid (by rw [hWa]; simp)
  clear hWa
  clear fWa0 eWa
  go_loopg [5, 13] n (fun gg s i wr => ∃ k : Nat, k ≤ n ∧ gg = n - k ∧ i = .int .i64 k ∧ s = .bool (decide (xsN l (p1, p2) k % 2 = 1)) ∧ (Below w.heap.size w wr ∧ w.heap.size < wr.heap.size ∧ wr.cell? ⟨w.heap.size, 0, none⟩ = some (.int .i64 p1) ∧ wr.cell? ⟨w.heap.size, 1, none⟩ = some (.int .i64 p2)) ∧ Hid (∀ j, j < k → onE l (p1, p2) j = false))
  case atStart => exact ⟨0, Nat.zero_le _, rfl, rfl, by rw [HZ.out], ⟨BWa, zWa0, yWa0_0, yWa0_1⟩, Lib.hid (fun j h => absurd h (Nat.not_lt_zero _))⟩
  case round =>
    clear BWa zWa0 yWa0_0 yWa0_1
    obtain ⟨k, hk, hgg, rfl, rfl, ⟨BO, zo, x0, x1⟩, hF⟩ := hrel
    rename World => wo
    have HGK := Lib.hid hgg
    clear hgg
    by_cases hlt : k < n
    · have m1 : (k + 1) % n < n := Nat.mod_lt _ (by omega)
      obtain ⟨a1, a2, ha⟩ : ∃ a1 a2, vx l k = (a1, a2) := ⟨_, _, rfl⟩
      obtain ⟨b1, b2, hbb⟩ : ∃ b1 b2, vx l (k + 1) = (b1, b2) := ⟨_, _, rfl⟩
      have c0 : wo.cell? ⟨b, off + k * 2, none⟩ = some (.int .i64 a1) := by have := (HC.out wo BO k hlt).1; rw [ha] at this; exact this
      have c1 : wo.cell? ⟨b, off + k * 2 + 1, none⟩ = some (.int .i64 a2) := by have := (HC.out wo BO k hlt).2; rw [ha] at this; exact this
      have em : vx l ((k + 1) % n) = (b1, b2) := by rw [← HN.out, vx_per, hbb]
      have c2 : wo.cell? ⟨b, off + (k + 1) % n * 2, none⟩ = some (.int .i64 b1) := by have := (HC.out wo BO _ m1).1; rw [em] at this; exact this
      have c3 : wo.cell? ⟨b, off + (k + 1) % n * 2 + 1, none⟩ = some (.int .i64 b2) := by have := (HC.out wo BO _ m1).2; rw [em] at this; exact this
      have za : Sz a1 a2 := by have := ZP.out k; rw [ha] at this; exact this
      have zb : Sz b1 b2 := by have := ZP.out (k + 1); rw [hbb] at this; exact this
      have KO := Lib.hid (fun W => pgOn_any a1 a2 b1 b2 p1 p2 W za zb hp)
      have TA := Lib.hid (fun W => pgTurn_any a1 a2 b1 b2 p1 p2 W za zb hp)
      have TB := Lib.hid (fun W => pgTurn_any b1 b2 a1 a2 p1 p2 W zb za hp)
      have eon : onE l (p1, p2) k = onB a1 a2 b1 b2 p1 p2 := by unfold onE; rw [ha, hbb]
      have HON2 : Hid (onB a1 a2 b1 b2 p1 p2 = true → r = 0) := Lib.hid (fun h => HON.out k (eon.trans h))
      have HF2 : Hid (onB a1 a2 b1 b2 p1 p2 = false → ∀ j, j < k + 1 → onE l (p1, p2) j = false) := Lib.hid (fun h j hj => by
        by_cases e : j = k
        · subst e; exact eon.trans h
        · exact hF.out j (by omega))
      have ecr : crN l (p1, p2) k = MJ.cr (a1, a2) (b1, b2) (p1, p2) := by unfold crN; rw [ha, hbb]
      have XA1 : Hid (a2 ≤ b2 → (a2 ≤ p2 ∧ p2 < b2 ∧ 0 < twI a1 a2 b1 b2 p1 p2) → decide (xsN l (p1, p2) (k + 1) % 2 = 1) = !decide (xsN l (p1, p2) k % 2 = 1)) := Lib.hid (fun h h' => xs_step1 (.inl (ecr.trans ((cr_low (a := (a1, a2)) (b := (b1, b2)) (p := (p1, p2)) h).1.2 h'))))
      have XA0 : Hid (a2 ≤ b2 → ¬ (a2 ≤ p2 ∧ p2 < b2 ∧ 0 < twI a1 a2 b1 b2 p1 p2) → decide (xsN l (p1, p2) (k + 1) % 2 = 1) = decide (xsN l (p1, p2) k % 2 = 1)) := Lib.hid (fun h h' => xs_step0 (ecr.trans ((cr_low (a := (a1, a2)) (b := (b1, b2)) (p := (p1, p2)) h).2 h')))
      have XB1 : Hid (b2 < a2 → (b2 ≤ p2 ∧ p2 < a2 ∧ 0 < twI b1 b2 a1 a2 p1 p2) → decide (xsN l (p1, p2) (k + 1) % 2 = 1) = !decide (xsN l (p1, p2) k % 2 = 1)) := Lib.hid (fun h h' => xs_step1 (.inr (ecr.trans ((cr_high (a := (a1, a2)) (b := (b1, b2)) (p := (p1, p2)) h).1.2 h'))))
      have XB0 : Hid (b2 < a2 → ¬ (b2 ≤ p2 ∧ p2 < a2 ∧ 0 < twI b1 b2 a1 a2 p1 p2) → decide (xsN l (p1, p2) (k + 1) % 2 = 1) = decide (xsN l (p1, p2) k % 2 = 1)) := Lib.hid (fun h h' => xs_step0 (ecr.trans ((cr_high (a := (a1, a2)) (b := (b1, b2)) (p := (p1, p2)) h).2 h')))
      clear ha hbb em za zb eon ecr hF
      generalize onB a1 a2 b1 b2 p1 p2 = ob at *
      generalize decide (xsN l (p1, p2) k % 2 = 1) = bk at *
      have i1 : IntKind.i64.wrap ((k : Int) + 1) = (k : Int) + 1 := IntWalk.i64_in _ (by omega)
      have i2 : ¬ n = 0 := by omega
      have i3 : (0 : Int) ≤ ((k : Int) + 1) % (n : Int) := Int.emod_nonneg _ (by omega)
      have i4 : ((k : Int) + 1) % (n : Int) < (n : Int) := Int.emod_lt_of_pos _ (by omega)
      have i5 : ((k : Int) + 1).tmod (n : Int) = ((k : Int) + 1) % (n : Int) := Int.tmod_eq_emod_of_nonneg (by omega)
      have i6 : (((k : Int) + 1) % (n : Int)).toNat = (k + 1) % n := by rw [show ((k : Int) + 1) % (n : Int) = (((k + 1) % n : Nat) : Int) by simp]; exact Int.toNat_natCast _
      have hzB := BO.size
      have hbo : b < wo.heap.size := by omega
      have hne : ¬ b = wo.heap.size := by omega
      go_wp2_with fail
      obtain ⟨Wb, hWb⟩ : ∃ Wb, Wb = ((wo.alloc (.cells #[.int .i64 a1, .int .i64 a2] 34)).alloc (.cells #[.int .i64 b1, .int .i64 b2] 34)) := ⟨_, rfl⟩
      rw [← hWb]
      have yWb0_0 : Wb.cell? ⟨wo.heap.size, 0, none⟩ = some (.int .i64 a1) := by rw [hWb]; go_simp
      have yWb0_1 : Wb.cell? ⟨wo.heap.size, 1, none⟩ = some (.int .i64 a2) := by rw [hWb]; go_simp
      have fWb0 : ∀ o, Wb.frozen? ⟨wo.heap.size, o, none⟩ = false := by intro o; rw [hWb]; (repeat rw [frozen?_alloc_cells]); simp [World.frozen?]
      have zWb0 : wo.heap.size < Wb.heap.size := by rw [hWb]; simp <;> omega
      have yWb1_0 : Wb.cell? ⟨wo.heap.size + 1, 0, none⟩ = some (.int .i64 b1) := by rw [hWb]; go_simp
      have yWb1_1 : Wb.cell? ⟨wo.heap.size + 1, 1, none⟩ = some (.int .i64 b2) := by rw [hWb]; go_simp
      have fWb1 : ∀ o, Wb.frozen? ⟨wo.heap.size + 1, o, none⟩ = false := by intro o; rw [hWb]; (repeat rw [frozen?_alloc_cells]); simp [World.frozen?]
      have zWb1 : wo.heap.size + 1 < Wb.heap.size := by rw [hWb]; simp <;> omega
      have BWb : Below wo.heap.size wo Wb := by rw [hWb]; exact (Below.alloc (Below.alloc (Below.refl _ _) (by simp <;> omega) _) (by simp <;> omega) _)
      have eWb : Hid (Wb.heap.size = wo.heap.size + 2) := Lib.hid (by rw [hWb]; simp)
      clear hWb
      have yb0 : Wb.cell? ⟨w.heap.size, 0, none⟩ = some (.int .i64 p1) := ((bcell BWb).1 _ _ zo).trans x0
      have yb1 : Wb.cell? ⟨w.heap.size, 1, none⟩ = some (.int .i64 p2) := ((bcell BWb).1 _ _ zo).trans x1
      have zpb : w.heap.size < Wb.heap.size := by have := BWb.size; omega
      have BB : Below w.heap.size w Wb := BO.trans (BWb.mono BO.size)
      clear c0 c1 c2 c3 i1 i3 i4 i5 i6 x0 x1 BO BWb fWb0 fWb1 eWb hne hbo
      refine (KO.out Wb).mono ?_; rintro e w2 ⟨rfl, hb2⟩
      have v0 := ((bcell hb2).1 _ _ zWb0).trans yWb0_0
      have v1 := ((bcell hb2).1 _ _ zWb0).trans yWb0_1
      have v2 := ((bcell hb2).1 _ _ zWb1).trans yWb1_0
      have v3 := ((bcell hb2).1 _ _ zWb1).trans yWb1_1
      have z2 := hb2.size
      have za2 : wo.heap.size < w2.heap.size := by omega
      have zb2 : wo.heap.size + 1 < w2.heap.size := by omega
      have u0 := ((bcell hb2).1 _ _ zpb).trans yb0
      have u1 := ((bcell hb2).1 _ _ zpb).trans yb1
      have BB2 := BB.trans (hb2.mono BB.size)
      clear hb2 BB yb0 yb1 yWb0_0 yWb0_1 yWb1_0 yWb1_1 KO
      cases ob
      · have HF3 := Lib.hid (HF2.out rfl)
        clear HF2 HON2
        have HF2 := HF3
        clear HF3
        go_upto_region 8 with fail
        go_cut [9, 10] from 30 to 31 (fun q r wx => ∃ g h : Nat, q = .pointer (some ⟨g, 0, none⟩) ∧ r = .pointer (some ⟨h, 0, none⟩) ∧ Below w2.heap.size w2 wx ∧ w2.heap.size ≤ g ∧ w2.heap.size ≤ h ∧ g ≠ h ∧ g < wx.heap.size ∧ h < wx.heap.size ∧ wx.cell? ⟨g, 0, none⟩ = some (.int .i64 a1) ∧ wx.cell? ⟨g, 1, none⟩ = some (.int .i64 a2) ∧ wx.cell? ⟨h, 0, none⟩ = some (.int .i64 b1) ∧ wx.cell? ⟨h, 1, none⟩ = some (.int .i64 b2) ∧ (∀ o, wx.frozen? ⟨g, o, none⟩ = false) ∧ ∀ o, wx.frozen? ⟨h, o, none⟩ = false)
        case first =>
          clear XA1 XA0 XB1 XB0 TA TB
          go_region
          all_goals
            go_wp2_with fail
            go_meet
            case rel =>
              refine ⟨_, _, rfl, rfl, ?_, by simp <;> omega, by simp <;> omega, by simp <;> omega, by simp <;> omega, by simp <;> omega, by go_simp, by go_simp, by go_simp, by go_simp, ?_, ?_⟩
              · repeat (first | with_reducible assumption | with_reducible exact Below.refl _ _ | with_reducible apply Below.drew | ((with_reducible refine Below.setCell ?_ ?_ _); rotate_left; (first | exact Nat.le_refl _ | omega | (simp <;> omega))) | ((with_reducible refine Below.alloc ?_ ?_ _); rotate_left; (first | omega | (simp <;> omega))))
              · intro o; (try simp only [World.frozen?_setCell]); (try rw [frozen_drew]); (repeat rw [frozen?_alloc_cells]); simp [World.frozen?]
              · intro o; (try simp only [World.frozen?_setCell]); (try rw [frozen_drew]); (repeat rw [frozen?_alloc_cells]); simp [World.frozen?]
        case rest =>
        obtain ⟨g, h, rfl, rfl, q1, g1, g2, gh, g3, g4, q2, q3, q4, q5, f1, f2⟩ := hcut
        rename World => wc
        have va0 := ((bcell q1).1 _ _ za2).trans v0
        have va1 := ((bcell q1).1 _ _ za2).trans v1
        have vb0 := ((bcell q1).1 _ _ zb2).trans v2
        have vb1 := ((bcell q1).1 _ _ zb2).trans v3
        have zc := q1.size
        have zac : wo.heap.size < wc.heap.size := by omega
        have zbc : wo.heap.size + 1 < wc.heap.size := by omega
        clear v0 v1 v2 v3
        have e0 := f1 0
        have e1 := f1 1
        have e2 := f2 0
        have e3 := f2 1
        clear f1 f2
        have hp2 : w.heap.size < w2.heap.size := by omega
        by_cases hsw : b2 < a2
        · have HX1 := Lib.hid (XB1.out hsw)
          have HX0 := Lib.hid (XB0.out hsw)
          have T := TB
          clear XA1 XA0 XB1 XB0 TA TB
          generalize twI b1 b2 a1 a2 p1 p2 = t at *
          go_upto_region 12 with fail
          obtain ⟨w4, hw4, r1, r0, r2, r3, r4, r5, q6⟩ := two_set (a1 := a1) (a2 := a2) (b1 := b1) (b2 := b2) gh g1 g2 q1 q2 q3 q4 q5
          rw [← hw4]
          clear hw4 q1 q2 q3 q4 q5 e0 e1 e2 e3 va0 va1 vb0 vb1
          have q1 := r1
          have q2 := r2
          have q3 := r3
          have q4 := r4
          have q5 := r5
          clear r1 r2 r3 r4 r5
          have y0 : w4.cell? ⟨w.heap.size, 0, none⟩ = some (.int .i64 p1) := (q6 _ _ hp2).trans u0
          have y1 : w4.cell? ⟨w.heap.size, 1, none⟩ = some (.int .i64 p2) := (q6 _ _ hp2).trans u1
          have zg : g < w4.heap.size := by omega
          have zh : h < w4.heap.size := by omega
          have zp : w.heap.size < w4.heap.size := by omega
          have B4 : Below w.heap.size w w4 := BB2.trans (q1.mono (by omega))
          clear q6 q1 u0 u1 BB2
          by_cases d1 : b2 ≤ p2
          · by_cases d2 : p2 < a2
            · have TT := Lib.hid (fun W => T.out W)
              by_cases d3 : 0 < t
              · have hst := Lib.hid (HX1.out ⟨d1, d2, d3⟩)
                clear HX1 HX0
                go_wp2_with fail
                refine (TT.out w4).mono ?_; rintro e w5 ⟨rfl, hb5⟩
                have B5 := B4.trans (hb5.mono B4.size)
                have z5 := hb5.size
                have v0 := ((bcell hb5).1 _ _ zp).trans y0
                have v1 := ((bcell hb5).1 _ _ zp).trans y1
                clear hb5 y0 y1 B4 q2 q3 q4 q5
                go_wp2_with fail
                go_roundg (n - (k + 1))
                case measure => have := HGK.out; omega
                case rel => exact ⟨k + 1, by omega, rfl, by go_num, by rw [hst.out], ⟨B5, by omega, v0, v1⟩, HF2⟩
              · have hst := Lib.hid (HX0.out (fun h => d3 h.2.2))
                clear HX1 HX0
                go_wp2_with fail
                refine (TT.out w4).mono ?_; rintro e w5 ⟨rfl, hb5⟩
                have B5 := B4.trans (hb5.mono B4.size)
                have z5 := hb5.size
                have v0 := ((bcell hb5).1 _ _ zp).trans y0
                have v1 := ((bcell hb5).1 _ _ zp).trans y1
                clear hb5 y0 y1 B4 q2 q3 q4 q5
                go_wp2_with fail
                go_roundg (n - (k + 1))
                case measure => have := HGK.out; omega
                case rel => exact ⟨k + 1, by omega, rfl, by go_num, by rw [hst.out], ⟨B5, by omega, v0, v1⟩, HF2⟩
            · have hst := Lib.hid (HX0.out (fun h => d2 h.2.1))
              clear HX1 HX0
              go_wp2_with fail
              go_roundg (n - (k + 1))
              case measure => have := HGK.out; omega
              case rel => exact ⟨k + 1, by omega, rfl, by go_num, by rw [hst.out], ⟨B4, by omega, y0, y1⟩, HF2⟩
          · have hst := Lib.hid (HX0.out (fun h => d1 h.1))
            clear HX1 HX0
            go_wp2_with fail
            go_roundg (n - (k + 1))
            case measure => have := HGK.out; omega
            case rel => exact ⟨k + 1, by omega, rfl, by go_num, by rw [hst.out], ⟨B4, by omega, y0, y1⟩, HF2⟩
        · have hns : a2 ≤ b2 := by omega
          have HX1 := Lib.hid (XA1.out hns)
          have HX0 := Lib.hid (XA0.out hns)
          have T := TA
          clear XA1 XA0 XB1 XB0 TA TB
          generalize twI a1 a2 b1 b2 p1 p2 = t at *
          go_upto_region 12 with fail
          have q6 : ∀ x o, x < w2.heap.size → wc.cell? ⟨x, o, none⟩ = w2.cell? ⟨x, o, none⟩ := fun x o hx => (bcell q1).1 x o hx
          rename World => w4
          clear e0 e1 e2 e3 va0 va1 vb0 vb1
          have y0 : w4.cell? ⟨w.heap.size, 0, none⟩ = some (.int .i64 p1) := (q6 _ _ hp2).trans u0
          have y1 : w4.cell? ⟨w.heap.size, 1, none⟩ = some (.int .i64 p2) := (q6 _ _ hp2).trans u1
          have zg : g < w4.heap.size := by omega
          have zh : h < w4.heap.size := by omega
          have zp : w.heap.size < w4.heap.size := by omega
          have B4 : Below w.heap.size w w4 := BB2.trans (q1.mono (by omega))
          clear q6 q1 u0 u1 BB2
          by_cases d1 : a2 ≤ p2
          · by_cases d2 : p2 < b2
            · have TT := Lib.hid (fun W => T.out W)
              by_cases d3 : 0 < t
              · have hst := Lib.hid (HX1.out ⟨d1, d2, d3⟩)
                clear HX1 HX0
                go_wp2_with fail
                refine (TT.out w4).mono ?_; rintro e w5 ⟨rfl, hb5⟩
                have B5 := B4.trans (hb5.mono B4.size)
                have z5 := hb5.size
                have v0 := ((bcell hb5).1 _ _ zp).trans y0
                have v1 := ((bcell hb5).1 _ _ zp).trans y1
                clear hb5 y0 y1 B4 q2 q3 q4 q5
                go_wp2_with fail
                go_roundg (n - (k + 1))
                case measure => have := HGK.out; omega
                case rel => exact ⟨k + 1, by omega, rfl, by go_num, by rw [hst.out], ⟨B5, by omega, v0, v1⟩, HF2⟩
              · have hst := Lib.hid (HX0.out (fun h => d3 h.2.2))
                clear HX1 HX0
                go_wp2_with fail
                refine (TT.out w4).mono ?_; rintro e w5 ⟨rfl, hb5⟩
                have B5 := B4.trans (hb5.mono B4.size)
                have z5 := hb5.size
                have v0 := ((bcell hb5).1 _ _ zp).trans y0
                have v1 := ((bcell hb5).1 _ _ zp).trans y1
                clear hb5 y0 y1 B4 q2 q3 q4 q5
                go_wp2_with fail
                go_roundg (n - (k + 1))
                case measure => have := HGK.out; omega
                case rel => exact ⟨k + 1, by omega, rfl, by go_num, by rw [hst.out], ⟨B5, by omega, v0, v1⟩, HF2⟩
            · have hst := Lib.hid (HX0.out (fun h => d2 h.2.1))
              clear HX1 HX0
              go_wp2_with fail
              go_roundg (n - (k + 1))
              case measure => have := HGK.out; omega
              case rel => exact ⟨k + 1, by omega, rfl, by go_num, by rw [hst.out], ⟨B4, by omega, y0, y1⟩, HF2⟩
          · have hst := Lib.hid (HX0.out (fun h => d1 h.1))
            clear HX1 HX0
            go_wp2_with fail
            go_roundg (n - (k + 1))
            case measure => have := HGK.out; omega
            case rel => exact ⟨k + 1, by omega, rfl, by go_num, by rw [hst.out], ⟨B4, by omega, y0, y1⟩, HF2⟩
      · have hr := Lib.hid (HON2.out rfl)
        go_wp2_with fail
        go_ret
        exact ⟨ret_int hr.out.symm, BB2⟩
    · have hkn : n = k := by omega
      subst hkn
      have hy := Lib.hid (HX.out (fun j hj => hF.out j hj))
      by_cases hx : xsN l (p1, p2) n % 2 = 1
      · have hd := decide_eq_true hx
        rw [if_pos hx] at hy
        rw [hd]
        clear hx hd
        go_wp2_with fail
        go_ret
        exact ⟨ret_int hy.out.symm, BO⟩
      · have hd := decide_eq_false hx
        rw [if_neg hx] at hy
        rw [hd]
        clear hx hd
        go_wp2_with fail
        go_ret
        exact ⟨ret_int hy.out.symm, BO⟩
end Go.Proofs.Ytjkfdcjfoliboaa
