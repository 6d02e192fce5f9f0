/- contract: HarderPuzzle, the program -/
import Derived.Test.YtacabmbajadbgaaPwB
namespace Go.Proofs.Ytacabmbajadbgaa
open Go.ChangeShapes Go.WideShapes Go.ChangeAt Go.RowKit Go.Joins
set_option linter.unusedVariables false
set_option linter.unusedSimpArgs false
set_option maxRecDepth 4000
theorem rowC_lt {w : World} {base : Nat} {v : Value} {n : Nat} {f : Nat → Int} (h : RowC w base v n f) : ∀ g, v.ownBlock = some g → base ≤ g ∧ g < w.heap.size := fun g hg => World.ownsRow.lt h g hg
theorem rowC_ne {w : World} {base : Nat} {v : Value} {n : Nat} {f : Nat → Int} {a : Addr} (h : RowC w base v n f) (ha : ∀ g, v.ownBlock = some g → g ≠ a.block) (u : Value) : RowC (w.setCell a u) base v n f := by
  obtain ⟨h1, h2⟩ := h
  rcases h2 with h2 | ⟨g, cap, cur, hv, hg, hh, r⟩
  · exact ⟨h1, .inl h2⟩
  · exact ⟨h1, .inr ⟨g, cap, cur, hv, hg, (heap_set_ne w a g u (ha g (by rw [hv]; rfl))).trans hh, r⟩⟩
theorem pbw_store {W : World} {g : Nat} {u v : Value} (h : Pbw W g u v) (u' v' : Value) : Pbw ((W.setCell ⟨g, 0, none⟩ u').setCell ⟨g, 1, none⟩ v') g u' v' := by
  have e0 : (W.setCell ⟨g, 0, none⟩ u').cell? ⟨g, 1, none⟩ = some v := by
    rw [World.cell?_setCell_other _ _ _ _ (fun e => by injection e with e1 e2; cases e2)]; exact h.c1
  refine ⟨by simpa [World.setCell] using h.z, ?_, World.cell?_setCell_same _ _ _ e0, fun o => by rw [World.frozen?_setCell, World.frozen?_setCell]; exact h.fz o⟩
  rw [World.cell?_setCell_other _ _ _ _ (fun e => by injection e with e1 e2; cases e2)]
  exact World.cell?_setCell_same _ _ _ h.c0
theorem pbw_other {W : World} {g : Nat} {u v : Value} (h : Pbw W g u v) (a : Addr) (x : Value) (ha : a.block ≠ g) : Pbw (W.setCell a x) g u v := by
  have hc : ∀ o, (W.setCell a x).cell? ⟨g, o, none⟩ = W.cell? ⟨g, o, none⟩ := fun o => World.cell?_setCell_other _ _ _ _ (fun e => ha (by rw [e]))
  exact ⟨by simpa [World.setCell] using h.z, (hc 0).trans h.c0, (hc 1).trans h.c1, fun o => by rw [World.frozen?_setCell]; exact h.fz o⟩
theorem box_a {w1 wA : World} (kA : Below ((w1.alloc (.cells #[.int .i64 0, .slice none 0 0] 28)).drew).heap.size ((w1.alloc (.cells #[.int .i64 0, .slice none 0 0] 28)).drew) wA) : Pbw wA w1.heap.size (.int .i64 0) (.slice none 0 0) := by
  have hz : w1.heap.size < ((w1.alloc (.cells #[.int .i64 0, .slice none 0 0] 28)).drew).heap.size := by simp
  have hf : ∀ o, ((w1.alloc (.cells #[.int .i64 0, .slice none 0 0] 28)).drew).frozen? ⟨w1.heap.size, o, none⟩ = false := fun o => by
    first
      | (show (World.alloc _ _).frozen? _ = false; rw [frozen?_alloc_cells]; simp [World.frozen?])
      | (rw [frozen?_alloc_cells]; simp [World.frozen?])
  exact ⟨Nat.lt_of_lt_of_le hz kA.size, ((bcell kA).1 w1.heap.size 0 hz).trans (by go_simp), ((bcell kA).1 w1.heap.size 1 hz).trans (by go_simp), fun o => ((bcell kA).2 w1.heap.size o hz).trans (hf o)⟩
theorem box_b {w1 wA : World} (kA : Below (w1.drew.alloc (.cells #[.int .i64 0, .slice none 0 0] 28)).heap.size (w1.drew.alloc (.cells #[.int .i64 0, .slice none 0 0] 28)) wA) : Pbw wA w1.heap.size (.int .i64 0) (.slice none 0 0) := by
  have hz : w1.heap.size < (w1.drew.alloc (.cells #[.int .i64 0, .slice none 0 0] 28)).heap.size := by simp
  have hf : ∀ o, (w1.drew.alloc (.cells #[.int .i64 0, .slice none 0 0] 28)).frozen? ⟨w1.heap.size, o, none⟩ = false := fun o => by
    first
      | (show (World.alloc _ _).frozen? _ = false; rw [frozen?_alloc_cells]; simp [World.frozen?])
      | (rw [frozen?_alloc_cells]; simp [World.frozen?])
  exact ⟨Nat.lt_of_lt_of_le hz kA.size, ((bcell kA).1 w1.heap.size 0 hz).trans (by go_simp), ((bcell kA).1 w1.heap.size 1 hz).trans (by go_simp), fun o => ((bcell kA).2 w1.heap.size o hz).trans (hf o)⟩
theorem box_c {w1 wA : World} (kA : Below (w1.alloc (.cells #[.int .i64 0, .slice none 0 0] 28)).heap.size (w1.alloc (.cells #[.int .i64 0, .slice none 0 0] 28)) wA) : Pbw wA w1.heap.size (.int .i64 0) (.slice none 0 0) := by
  have hz : w1.heap.size < (w1.alloc (.cells #[.int .i64 0, .slice none 0 0] 28)).heap.size := by simp
  have hf : ∀ o, (w1.alloc (.cells #[.int .i64 0, .slice none 0 0] 28)).frozen? ⟨w1.heap.size, o, none⟩ = false := fun o => by
    first
      | (show (World.alloc _ _).frozen? _ = false; rw [frozen?_alloc_cells]; simp [World.frozen?])
      | (rw [frozen?_alloc_cells]; simp [World.frozen?])
  exact ⟨Nat.lt_of_lt_of_le hz kA.size, ((bcell kA).1 w1.heap.size 0 hz).trans (by go_simp), ((bcell kA).1 w1.heap.size 1 hz).trans (by go_simp), fun o => ((bcell kA).2 w1.heap.size o hz).trans (hf o)⟩
set_option maxHeartbeats 12000000 in
theorem implHarderPuzzle_any (s : Int) (bk off c n : Nat) (f : Nat → Int) (w : World) (hm : n ≤ 1048576) (hnc : n ≤ c) (hc : c ≤ 9223372036854775807) (hR : RdI w w.heap.size (some ⟨bk, off, none⟩) (n * 4) f) :
    Calls Try.prog 35 #[.agg #[.int .i64 s, .slice (some ⟨bk, off, none⟩) n c]] w (RetZ w (hrS s n f) (hrN s n f) (hrF s n f) (hrB s n f)) := by
  have K := Lib.hid (fun W (hb : Below w.heap.size w W) => implIsSolved_any s (some ⟨bk, off, none⟩) c n f W hm (rdi_below hR hb (Nat.le_refl _)))
  obtain ⟨W0, hW, B0, z, c0, c1, r0, r1, fr⟩ := pbx_two w s (some ⟨bk, off, none⟩) n c 28 28
  have P0 := Lib.hid (show Pbx W0 w.heap.size s (some ⟨bk, off, none⟩) n c from ⟨by omega, c0, c1⟩)
  have Q0 := Lib.hid (show Pbw W0 (w.heap.size + 1) (.int .i64 0) (.slice none 0 0) from ⟨z, r0, r1, fr⟩)
  have HB := Lib.hid B0
  clear z c0 c1 r0 r1 fr B0
  cases hsv : decide ((solP s n f).length = 1)
  · have hd : hrB s n f = false := by unfold hrB; rw [hsv]; simp
    rw [(hr_f hd).1, (hr_f hd).2, hd]
    rw [hsv] at K
    clear hR hd hsv
    generalize puzB s n f = pb at *
    go_enter Try.func35, Try.ntmps35
    go_wp2_with fail
    rw [← hW]
    clear hW
    have p0 := P0.out.c0
    have p1 := P0.out.c1
    have pz := P0.out.z
    go_wp2_with fail
    refine (K.out _ HB.out).mono ?_; rintro e w1 ⟨rfl, hb1⟩
    have B1 := HB.out.trans (hb1.mono HB.out.size)
    have Q1 := pbw_below Q0.out hb1
    have r0 := Q1.c0
    have r1 := Q1.c1
    have rz := Q1.z
    have rf0 := Q1.fz 0
    have rf1 := Q1.fz 1
    have zz := B1.size
    clear hb1 P0 Q0 HB K p0 p1 pz Q1
    go_wp2_with fail
    refine bodyPost_ret (v := .tuple #[.agg #[.int .i64 0, .slice none 0 0], .bool false]) (by simp [results, Try.results35, go_sem, rz, r0, r1]) rfl (retZ_nil ?_)
    repeat (first | with_reducible assumption | with_reducible exact Below.refl _ _ | with_reducible apply Below.drew | ((with_reducible refine Below.setCell ?_ ?_ _); rotate_left; (first | exact Nat.le_refl _ | omega | (simp <;> omega))) | ((with_reducible refine Below.alloc ?_ ?_ _); rotate_left; (first | omega | (simp <;> omega))))
  · have hp : puzB s n f = true := by
      cases h : puzB s n f
      · rw [solP_f h] at hsv; simp at hsv
      · rfl
    obtain ⟨ns, rfl⟩ := nat_of hp
    have h12 := puzB_t hp
    have hn6 : n ≤ 6 := h12.2.2.1
    have hd : hrB (ns : Int) n f = true := by unfold hrB; rw [hp, hsv]; rfl
    rw [(hr_t hd).1, (hr_t hd).2.1, (hr_t hd).2.2, hd]
    rw [hsv, hp] at K
    have KC := Lib.hid (fun W (hb : Below w.heap.size w W) => cloneC_any bk off c n f W hn6 (rdi_below hR hb (Nat.le_refl _)))
    obtain ⟨R, hRR⟩ : ∃ R, R = hdGo ns n n f 0 := ⟨_, rfl⟩
    have HR0 := Lib.hid hRR
    have HP0 := Lib.hid hp
    rw [← hRR]
    clear hp hR hd hsv h12 hRR
    go_enter Try.func35, Try.ntmps35
    go_wp2_with fail
    rw [← hW]
    clear hW
    have p0 := P0.out.c0
    have p1 := P0.out.c1
    have pz := P0.out.z
    go_wp2_with fail
    refine (K.out _ HB.out).mono ?_; rintro e w1 ⟨rfl, hb1⟩
    have B1 := HB.out.trans (hb1.mono HB.out.size)
    have Q1 := Lib.hid (pbw_below Q0.out hb1)
    have P1 := Lib.hid (pbx_below P0.out hb1)
    clear hb1 P0 Q0 HB K p0 p1 pz
    have p0 := P1.out.c0
    have p1 := P1.out.c1
    have pz := P1.out.z
    go_upto_region 4 with fail
    go_cut [6] from 17 to 22 (fun q wx => ∃ (g6 : Nat) (v : Value), q = .pointer (some ⟨g6, 0, none⟩) ∧ Below w1.heap.size w1 wx ∧ w1.heap.size ≤ g6 ∧ Hid (Pbw wx g6 (.int .i64 (ns : Int)) v) ∧ Hid (RowC wx w1.heap.size v n f) ∧ Hid (∀ g, v.ownBlock = some g → g ≠ g6))
    case first =>
      go_region_with (first
        | (go_at_call 72;
           go_loud (refine (KC.out _ (by first | exact B1 | exact B1.drew | exact Below.alloc B1.drew B1.size _ | exact Below.alloc B1 B1.size _ | exact (Below.alloc B1 B1.size _).drew)).mono ?_); rintro e wA ⟨⟨v, rfl, own⟩, kA'⟩;
           obtain ⟨Av, cv, rfl, hnv, hcv, rwv⟩ := rowC_rwi own;
           clear hnv hcv rwv;
           have R1 : RowC wA w1.heap.size (.slice Av n cv) n f := rowC_base own (by simp);
           have kA : Below w1.heap.size w1 wA := (by first | exact kA' | exact (Below.refl _ _).drew.trans kA' | exact (Below.alloc (Below.refl _ _).drew (Nat.le_refl _) _).trans (kA'.mono (by simp)) | exact (Below.alloc (Below.refl _ _) (Nat.le_refl _) _).drew.trans (kA'.mono (by simp)));
           have pa0 := ((bcell kA).1 _ _ pz).trans p0;
           have pa1 := ((bcell kA).1 _ _ pz).trans p1;
           have paz := Nat.lt_of_lt_of_le pz kA.size;
           (first
            | (have PY := box_a kA'; have hoA : ∀ g, (Value.slice Av n cv).ownBlock = some g → g ≠ w1.heap.size := (fun g hg => Nat.ne_of_gt (Nat.lt_of_lt_of_le (by simp) (rowC_lt own g hg).1)); have y0 := PY.c0; have y1 := PY.c1; have yz := PY.z; have yf0 := PY.fz 0; have yf1 := PY.fz 1)
            | (have PY := box_b kA'; have hoA : ∀ g, (Value.slice Av n cv).ownBlock = some g → g ≠ w1.heap.size := (fun g hg => Nat.ne_of_gt (Nat.lt_of_lt_of_le (by simp) (rowC_lt own g hg).1)); have y0 := PY.c0; have y1 := PY.c1; have yz := PY.z; have yf0 := PY.fz 0; have yf1 := PY.fz 1)
            | (have PY := box_c kA'; have hoA : ∀ g, (Value.slice Av n cv).ownBlock = some g → g ≠ w1.heap.size := (fun g hg => Nat.ne_of_gt (Nat.lt_of_lt_of_le (by simp) (rowC_lt own g hg).1)); have y0 := PY.c0; have y1 := PY.c1; have yz := PY.z; have yf0 := PY.fz 0; have yf1 := PY.fz 1)
            | skip)))
      all_goals
        go_wp2_with fail
        go_meet
        case rel =>
          first
            | exact ⟨w1.heap.size, _, rfl, by repeat (first | with_reducible assumption | with_reducible exact Below.refl _ _ | with_reducible apply Below.drew | ((with_reducible refine Below.setCell ?_ ?_ _); rotate_left; (first | exact Nat.le_refl _ | omega | (simp <;> omega))) | ((with_reducible refine Below.alloc ?_ ?_ _); rotate_left; (first | omega | (simp <;> omega)))), Nat.le_refl _, Lib.hid (pbw_store PY _ _), Lib.hid (rowC_ne (rowC_ne R1 hoA _) hoA _), Lib.hid hoA⟩
            | exact ⟨wA.heap.size, .slice Av n cv, rfl, Below.alloc kA kA.size _, kA.size, Lib.hid (pbw_new _ _ _ _), Lib.hid (rowC_below R1 (Below.alloc (Below.refl _ _) (Nat.le_refl _) _) (Nat.le_refl _)), Lib.hid (fun g hg => Nat.ne_of_lt (rowC_lt R1 g hg).2)⟩
            | exact ⟨wA.heap.size, .slice Av n cv, rfl, (Below.alloc kA kA.size _).drew, kA.size, Lib.hid (pbw_new _ _ _ _), Lib.hid (rowC_below R1 (Below.alloc (Below.refl _ _) (Nat.le_refl _) _) (Nat.le_refl _)), Lib.hid (fun g hg => Nat.ne_of_lt (rowC_lt R1 g hg).2)⟩
    case rest =>
    obtain ⟨g6, v0, rfl, hB0, hg6, PX, RX, NE⟩ := hcut
    rename World => wc
    have Q2 := Lib.hid (pbw_below Q1.out hB0)
    have hw1 := Q1.out.z
    clear Q1 P1 p0 p1 pz KC
    obtain ⟨Av0, cv0, rfl, hnv, hcv, rwv⟩ := rowC_rwi RX.out
    clear hnv hcv rwv
    go_wp2_with fail
    go_loopg [7] n (fun gg i wr => ∃ (m k : Nat) (h : Nat → Int) (v : Value), k ≤ m ∧ m ≤ 6 ∧ gg = m - k ∧ i = .int .i64 (k : Int) ∧ Hid (puzB (ns : Int) m h = true) ∧ Hid (hdGo ns (m - k) m h k = R) ∧ Below w1.heap.size w1 wr ∧ Hid (Pbw wr g6 (.int .i64 (ns : Int)) v) ∧ Hid (RowC wr w1.heap.size v m h) ∧ Hid (∀ g, v.ownBlock = some g → g ≠ g6) ∧ Hid (Pbw wr (w.heap.size + 1) (.int .i64 0) (.slice none 0 0)))
    case atStart => exact ⟨n, 0, f, _, Nat.zero_le _, hn6, rfl, rfl, HP0, Lib.hid HR0.out.symm, hB0, PX, RX, NE, Q2⟩
    case round =>
      clear PX RX NE Q2 hB0 HP0 HR0
      obtain ⟨m, k, h, v, hk, hm6, hgg, rfl, HP, HR, hB, PX, hr, NE, Q⟩ := hrel
      rename World => wo
      have HGK := Lib.hid hgg
      clear hgg
      obtain ⟨Av, cv, rfl, hnv, hcv, rwv⟩ := rowC_rwi hr.out
      clear rwv
      have hzo := hB.size
      have x0 := PX.out.c0
      have x1 := PX.out.c1
      have xz := PX.out.z
      by_cases hlt : k < m
      · obtain ⟨b, c', e, q1, q2, q3, hRv⟩ := rowC_at hr.out (by omega)
        injection e with e1 e2 e3
        subst e1 e3
        have KW := Lib.hid (without_any (ns : Int) b 0 cv m k h wo hlt hm6 q1 q2 hRv)
        have KT := Lib.hid (fun A c' W (hb : RdI W W.heap.size A ((m - 1) * 4) (woF h k)) => solutions_any ns A c' (m - 1) (woF h k) W (puzB_wo HP.out hlt) hb)
        have HP2 := Lib.hid (puzB_wo HP.out hlt)
        have HT := Lib.hid (fun hh => (hd_t (ns := ns) (f := h) hlt hh).trans HR.out)
        have HF := Lib.hid (fun hh => (hd_f (ns := ns) (f := h) hlt hh).trans HR.out)
        clear hRv
        generalize solK (woF h k) (m - 1) (ns + 1) ((ns + 1) * (ns + 1)) = sol at *
        go_wp2_with fail
        refine KW.out.mono ?_; rintro e w4 ⟨⟨v4, rfl, own4⟩, hb4⟩
        obtain ⟨A4, c4, rfl, hn4, hc4, rw4⟩ := rowC_rwi own4
        have B4 := hB.trans (hb4.mono hzo)
        have R4 := Lib.hid own4
        have RO4 := Lib.hid (rowC_below hr.out hb4 (Nat.le_refl _))
        have PX4 := Lib.hid (pbw_below PX.out hb4)
        have Q4 := Lib.hid (pbw_below Q.out hb4)
        have RD4 := Lib.hid rw4
        have N4 : Hid (∀ g, (Value.slice A4 (m - 1) c4).ownBlock = some g → g ≠ g6) := Lib.hid (fun g hg => by have := (rowC_lt own4 g hg).1; omega)
        clear own4 hb4 rw4 hB hr PX Q KW x0 x1 hn4 hc4
        go_wp2_with fail
        obtain ⟨W5, hW5⟩ : ∃ W5, W5 = w4.alloc (.cells #[.int .i64 (ns : Int), .slice A4 (m - 1) c4] 28) := ⟨_, rfl⟩
        have b5 : Below w4.heap.size w4 W5 := by rw [hW5]; exact Below.alloc (Below.refl _ _) (Nat.le_refl _) _
        have M5 := Lib.hid (show Pbw W5 w4.heap.size (.int .i64 (ns : Int)) (.slice A4 (m - 1) c4) by rw [hW5]; exact pbw_new _ _ _ _)
        rw [← hW5]
        clear hW5
        have B5 := B4.trans (b5.mono B4.size)
        have R5 := Lib.hid (rowC_below R4.out b5 (Nat.le_refl _))
        have RO5 := Lib.hid (rowC_below RO4.out b5 (Nat.le_refl _))
        have PX5 := Lib.hid (pbw_below PX4.out b5)
        have Q5 := Lib.hid (pbw_below Q4.out b5)
        have RD5 := Lib.hid (rdi_of_rw (rwi_below RD4.out b5 (Nat.le_refl _)) b5.size)
        have h84 : g6 < w4.heap.size := PX4.out.z
        obtain ⟨g8, hg8⟩ : ∃ g, g = w4.heap.size := ⟨_, rfl⟩
        rw [← hg8] at M5 ⊢
        have h86 : g6 ≠ g8 := by omega
        have h86' := Ne.symm h86
        clear b5 R4 RO4 PX4 Q4 RD4 hg8 h84 B4
        refine (KT.out _ _ _ RD5.out).mono ?_; rintro e w6 ⟨A6, c6, rfl, z1, z2, hb6, z3⟩
        have B6 := B5.trans (hb6.mono B5.size)
        have R6 := Lib.hid (rowC_below R5.out hb6 (Nat.le_refl _))
        have RO6 := Lib.hid (rowC_below RO5.out hb6 (Nat.le_refl _))
        have PX6 := Lib.hid (pbw_below PX5.out hb6)
        have Q6 := Lib.hid (pbw_below Q5.out hb6)
        have M6 := Lib.hid (pbw_below M5.out hb6)
        clear hb6 z1 z2 z3 R5 RO5 PX5 Q5 M5 RD5 KT B5
        have x0 := PX6.out.c0
        have x1 := PX6.out.c1
        have xz := PX6.out.z
        have xf0 := PX6.out.fz 0
        have xf1 := PX6.out.fz 1
        have y0 := M6.out.c0
        have y1 := M6.out.c1
        have yz := M6.out.z
        by_cases hx : sol.length = 1
        · have HT2 := Lib.hid (HT.out hx)
          have hx2 : ((sol.length : Nat) : Int) = 1 := by omega
          clear HT HF
          have PX7 := Lib.hid (pbw_store PX6.out (.int .i64 (ns : Int)) (.slice A4 (m - 1) c4))
          have R7 : Hid (RowC ((w6.setCell ⟨g6, 0, none⟩ (.int .i64 (ns : Int))).setCell ⟨g6, 1, none⟩ (.slice A4 (m - 1) c4)) w1.heap.size (.slice A4 (m - 1) c4) (m - 1) (woF h k)) := Lib.hid (rowC_ne (rowC_ne (rowC_base R6.out hzo) N4.out _) N4.out _)
          have hq6 : g6 ≠ w.heap.size + 1 := by omega
          have Q7 := Lib.hid (pbw_other (pbw_other Q6.out ⟨g6, 0, none⟩ (.int .i64 (ns : Int)) hq6) ⟨g6, 1, none⟩ (.slice A4 (m - 1) c4) hq6)
          have B7 := (B6.setCell (p := ⟨g6, 0, none⟩) hg6 (.int .i64 (ns : Int))).setCell (p := ⟨g6, 1, none⟩) hg6 (.slice A4 (m - 1) c4)
          clear R6 RO6 Q6 PX6 M6
          go_wp2_with fail
          go_roundg (m - 1 - k)
          case measure => have := HGK.out; omega
          case rel => exact ⟨m - 1, k, woF h k, _, by omega, by omega, rfl, by first | rfl | go_num, HP2, HT2, B7, PX7, R7, N4, Q7⟩
        · have HF2 := Lib.hid (HF.out hx)
          have hx2 : ¬ ((sol.length : Nat) : Int) = 1 := by omega
          have RO7 := RO6
          clear HT HF
          go_wp2_with fail
          go_roundg (m - (k + 1))
          case measure => have := HGK.out; omega
          case rel => exact ⟨m, k + 1, h, _, by omega, hm6, rfl, by go_num, HP, HF2, B6, PX6, RO7, NE, Q6⟩
      · obtain rfl : k = m := by omega
        have hF : R = (k, h) := by
          have := HR.out
          rw [Nat.sub_self] at this
          exact this.symm
        have hF2 := Lib.hid hF
        have r0 := Q.out.c0
        have r1 := Q.out.c1
        have rz := Q.out.z
        have rf0 := Q.out.fz 0
        have rf1 := Q.out.fz 1
        clear hF
        go_wp2_with fail
        refine bodyPost_ret (v := .tuple #[.agg #[.int .i64 (ns : Int), .slice Av k cv], .bool true]) (by simp [results, Try.results35, go_sem, rz, r0, r1]) rfl ?_
        rw [hF2.out]
        have BO := B1.trans (hB.mono B1.size)
        exact retZ_row (rowC_set (rowC_set hr.out (by show w.heap.size + 1 < _; exact hw1) _) (by show w.heap.size + 1 < _; exact hw1) _) B1 (by repeat (first | with_reducible assumption | with_reducible exact Below.refl _ _ | with_reducible apply Below.drew | ((with_reducible refine Below.setCell ?_ ?_ _); rotate_left; (first | exact Nat.le_refl _ | omega | (simp <;> omega))) | ((with_reducible refine Below.alloc ?_ ?_ _); rotate_left; (first | omega | (simp <;> omega)))))
end Go.Proofs.Ytacabmbajadbgaa
