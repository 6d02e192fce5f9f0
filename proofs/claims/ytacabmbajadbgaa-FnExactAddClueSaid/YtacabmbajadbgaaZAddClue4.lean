/- joined: PwC Ac1 Ac2 Ac3 Ac4 Pz4 Ac5 -/
import Derived.Test.YtacabmbajadbgaaZAddClue3
import Derived.Deep.RegionHeld3
import Derived.Deep.RegionLawGrows
import Derived.Deep.AppendLies
import Derived.Lib.SmallJoins
import Derived.Deep.Fields
/- contract: HarderPuzzle, the program -/
namespace Go.Proofs.Ytacabmbajadbgaa
open Go.ChangeShapes Go.WideShapes Go.ChangeAt Go.RowKit Go.Joins
set_option linter.unusedVariables false
set_option linter.unusedSimpArgs false
set_option maxRecDepth 4000
theorem rowC_lt {w : World} {base : Nat} {v : Value} {n : Nat} {f : Nat → Int} (h : RowC w base v n f) : ∀ g, v.ownBlock = some g → base ≤ g ∧ g < w.heap.size := fun g hg => World.ownsRow.lt h g hg
theorem rowC_ne {w : World} {base : Nat} {v : Value} {n : Nat} {f : Nat → Int} {a : Addr} (h : RowC w base v n f) (ha : ∀ g, v.ownBlock = some g → g ≠ a.block) (u : Value) : RowC (w.setCell a u) base v n f := by
  obtain ⟨h1, h2⟩ := h
  rcases h2 with h2 | ⟨g, cap, cur, hv, hg, hh, r⟩
  · exact ⟨h1, .inl h2⟩
  · exact ⟨h1, .inr ⟨g, cap, cur, hv, hg, (heap_set_ne w a g u (ha g (by rw [hv]; rfl))).trans hh, r⟩⟩
theorem pbw_store {W : World} {g : Nat} {u v : Value} (h : Pbw W g u v) (u' v' : Value) : Pbw ((W.setCell ⟨g, 0, none⟩ u').setCell ⟨g, 1, none⟩ v') g u' v' := by
  have e0 : (W.setCell ⟨g, 0, none⟩ u').cell? ⟨g, 1, none⟩ = some v := by
    rw [World.cell?_setCell_other _ _ _ _ (fun e => by injection e with e1 e2; cases e2)]; exact h.c1
  refine ⟨by simpa [World.setCell] using h.z, ?_, World.cell?_setCell_same _ _ _ e0, fun o => by rw [World.frozen?_setCell, World.frozen?_setCell]; exact h.fz o⟩
  rw [World.cell?_setCell_other _ _ _ _ (fun e => by injection e with e1 e2; cases e2)]
  exact World.cell?_setCell_same _ _ _ h.c0
theorem pbw_other {W : World} {g : Nat} {u v : Value} (h : Pbw W g u v) (a : Addr) (x : Value) (ha : a.block ≠ g) : Pbw (W.setCell a x) g u v := by
  have hc : ∀ o, (W.setCell a x).cell? ⟨g, o, none⟩ = W.cell? ⟨g, o, none⟩ := fun o => World.cell?_setCell_other _ _ _ _ (fun e => ha (by rw [e]))
  exact ⟨by simpa [World.setCell] using h.z, (hc 0).trans h.c0, (hc 1).trans h.c1, fun o => by rw [World.frozen?_setCell]; exact h.fz o⟩
theorem box_a {w1 wA : World} (kA : Below ((w1.alloc (.cells #[.int .i64 0, .slice none 0 0] 28)).drew).heap.size ((w1.alloc (.cells #[.int .i64 0, .slice none 0 0] 28)).drew) wA) : Pbw wA w1.heap.size (.int .i64 0) (.slice none 0 0) := by
  have hz : w1.heap.size < ((w1.alloc (.cells #[.int .i64 0, .slice none 0 0] 28)).drew).heap.size := by simp
  have hf : ∀ o, ((w1.alloc (.cells #[.int .i64 0, .slice none 0 0] 28)).drew).frozen? ⟨w1.heap.size, o, none⟩ = false := fun o => by
    first
      | (show (World.alloc _ _).frozen? _ = false; rw [frozen?_alloc_cells]; simp [World.frozen?])
      | (rw [frozen?_alloc_cells]; simp [World.frozen?])
  exact ⟨Nat.lt_of_lt_of_le hz kA.size, ((bcell kA).1 w1.heap.size 0 hz).trans (by go_simp), ((bcell kA).1 w1.heap.size 1 hz).trans (by go_simp), fun o => ((bcell kA).2 w1.heap.size o hz).trans (hf o)⟩
theorem box_b {w1 wA : World} (kA : Below (w1.drew.alloc (.cells #[.int .i64 0, .slice none 0 0] 28)).heap.size (w1.drew.alloc (.cells #[.int .i64 0, .slice none 0 0] 28)) wA) : Pbw wA w1.heap.size (.int .i64 0) (.slice none 0 0) := by
  have hz : w1.heap.size < (w1.drew.alloc (.cells #[.int .i64 0, .slice none 0 0] 28)).heap.size := by simp
  have hf : ∀ o, (w1.drew.alloc (.cells #[.int .i64 0, .slice none 0 0] 28)).frozen? ⟨w1.heap.size, o, none⟩ = false := fun o => by
    first
      | (show (World.alloc _ _).frozen? _ = false; rw [frozen?_alloc_cells]; simp [World.frozen?])
      | (rw [frozen?_alloc_cells]; simp [World.frozen?])
  exact ⟨Nat.lt_of_lt_of_le hz kA.size, ((bcell kA).1 w1.heap.size 0 hz).trans (by go_simp), ((bcell kA).1 w1.heap.size 1 hz).trans (by go_simp), fun o => ((bcell kA).2 w1.heap.size o hz).trans (hf o)⟩
theorem box_c {w1 wA : World} (kA : Below (w1.alloc (.cells #[.int .i64 0, .slice none 0 0] 28)).heap.size (w1.alloc (.cells #[.int .i64 0, .slice none 0 0] 28)) wA) : Pbw wA w1.heap.size (.int .i64 0) (.slice none 0 0) := by
  have hz : w1.heap.size < (w1.alloc (.cells #[.int .i64 0, .slice none 0 0] 28)).heap.size := by simp
  have hf : ∀ o, (w1.alloc (.cells #[.int .i64 0, .slice none 0 0] 28)).frozen? ⟨w1.heap.size, o, none⟩ = false := fun o => by
    first
      | (show (World.alloc _ _).frozen? _ = false; rw [frozen?_alloc_cells]; simp [World.frozen?])
      | (rw [frozen?_alloc_cells]; simp [World.frozen?])
  exact ⟨Nat.lt_of_lt_of_le hz kA.size, ((bcell kA).1 w1.heap.size 0 hz).trans (by go_simp), ((bcell kA).1 w1.heap.size 1 hz).trans (by go_simp), fun o => ((bcell kA).2 w1.heap.size o hz).trans (hf o)⟩
set_option maxHeartbeats 12000000 in
theorem implHarderPuzzle_any (s : Int) (bk off c n : Nat) (f : Nat → Int) (w : World) (hm : n ≤ 1048576) (hnc : n ≤ c) (hc : c ≤ 9223372036854775807) (hR : RdI w w.heap.size (some ⟨bk, off, none⟩) (n * 4) f) :
    Calls Try.prog 35 #[.agg #[.int .i64 s, .slice (some ⟨bk, off, none⟩) n c]] w (RetZ w (hrS s n f) (hrN s n f) (hrF s n f) (hrB s n f)) := by
  have K := Lib.hid (fun W (hb : Below w.heap.size w W) => implIsSolved_any s (some ⟨bk, off, none⟩) c n f W hm (rdi_below hR hb (Nat.le_refl _)))
  obtain ⟨W0, hW, B0, z, c0, c1, r0, r1, fr⟩ := pbx_two w s (some ⟨bk, off, none⟩) n c 28 28
  have P0 := Lib.hid (show Pbx W0 w.heap.size s (some ⟨bk, off, none⟩) n c from ⟨by omega, c0, c1⟩)
  have Q0 := Lib.hid (show Pbw W0 (w.heap.size + 1) (.int .i64 0) (.slice none 0 0) from ⟨z, r0, r1, fr⟩)
  have HB := Lib.hid B0
  clear z c0 c1 r0 r1 fr B0
  cases hsv : decide ((solP s n f).length = 1)
  · have hd : hrB s n f = false := by unfold hrB; rw [hsv]; simp
    rw [(hr_f hd).1, (hr_f hd).2, hd]
    rw [hsv] at K
    clear hR hd hsv
    generalize puzB s n f = pb at *
    go_enter Try.func35, Try.ntmps35
    go_wp2_with fail
    rw [← hW]
    clear hW
    have p0 := P0.out.c0
    have p1 := P0.out.c1
    have pz := P0.out.z
    go_wp2_with fail
    refine (K.out _ HB.out).mono ?_; rintro e w1 ⟨rfl, hb1⟩
    have B1 := HB.out.trans (hb1.mono HB.out.size)
    have Q1 := pbw_below Q0.out hb1
    have r0 := Q1.c0
    have r1 := Q1.c1
    have rz := Q1.z
    have rf0 := Q1.fz 0
    have rf1 := Q1.fz 1
    have zz := B1.size
    clear hb1 P0 Q0 HB K p0 p1 pz Q1
    go_wp2_with fail
    refine bodyPost_ret (v := .tuple #[.agg #[.int .i64 0, .slice none 0 0], .bool false]) (by simp [results, Try.results35, go_sem, rz, r0, r1]) rfl (retZ_nil ?_)
    repeat (first | with_reducible assumption | with_reducible exact Below.refl _ _ | with_reducible apply Below.drew | ((with_reducible refine Below.setCell ?_ ?_ _); rotate_left; (first | exact Nat.le_refl _ | omega | (simp <;> omega))) | ((with_reducible refine Below.alloc ?_ ?_ _); rotate_left; (first | omega | (simp <;> omega))))
  · have hp : puzB s n f = true := by
      cases h : puzB s n f
      · rw [solP_f h] at hsv; simp at hsv
      · rfl
    obtain ⟨ns, rfl⟩ := nat_of hp
    have h12 := puzB_t hp
    have hn6 : n ≤ 6 := h12.2.2.1
    have hd : hrB (ns : Int) n f = true := by unfold hrB; rw [hp, hsv]; rfl
    rw [(hr_t hd).1, (hr_t hd).2.1, (hr_t hd).2.2, hd]
    rw [hsv, hp] at K
    have KC := Lib.hid (fun W (hb : Below w.heap.size w W) => cloneC_any bk off c n f W hn6 (rdi_below hR hb (Nat.le_refl _)))
    obtain ⟨R, hRR⟩ : ∃ R, R = hdGo ns n n f 0 := ⟨_, rfl⟩
    have HR0 := Lib.hid hRR
    have HP0 := Lib.hid hp
    rw [← hRR]
    clear hp hR hd hsv h12 hRR
    go_enter Try.func35, Try.ntmps35
    go_wp2_with fail
    rw [← hW]
    clear hW
    have p0 := P0.out.c0
    have p1 := P0.out.c1
    have pz := P0.out.z
    go_wp2_with fail
    refine (K.out _ HB.out).mono ?_; rintro e w1 ⟨rfl, hb1⟩
    have B1 := HB.out.trans (hb1.mono HB.out.size)
    have Q1 := Lib.hid (pbw_below Q0.out hb1)
    have P1 := Lib.hid (pbx_below P0.out hb1)
    clear hb1 P0 Q0 HB K p0 p1 pz
    have p0 := P1.out.c0
    have p1 := P1.out.c1
    have pz := P1.out.z
    go_upto_region 4 with fail
    go_cut [6] from 17 to 22 (fun q wx => ∃ (g6 : Nat) (v : Value), q = .pointer (some ⟨g6, 0, none⟩) ∧ Below w1.heap.size w1 wx ∧ w1.heap.size ≤ g6 ∧ Hid (Pbw wx g6 (.int .i64 (ns : Int)) v) ∧ Hid (RowC wx w1.heap.size v n f) ∧ Hid (∀ g, v.ownBlock = some g → g ≠ g6))
    case first =>
      go_region_with (first
        | (go_at_call 72;
           go_loud (refine (KC.out _ (by first | exact B1 | exact B1.drew | exact Below.alloc B1.drew B1.size _ | exact Below.alloc B1 B1.size _ | exact (Below.alloc B1 B1.size _).drew)).mono ?_); rintro e wA ⟨⟨v, rfl, own⟩, kA'⟩;
           obtain ⟨Av, cv, rfl, hnv, hcv, rwv⟩ := rowC_rwi own;
           clear hnv hcv rwv;
           have R1 : RowC wA w1.heap.size (.slice Av n cv) n f := rowC_base own (by simp);
           have kA : Below w1.heap.size w1 wA := (by first | exact kA' | exact (Below.refl _ _).drew.trans kA' | exact (Below.alloc (Below.refl _ _).drew (Nat.le_refl _) _).trans (kA'.mono (by simp)) | exact (Below.alloc (Below.refl _ _) (Nat.le_refl _) _).drew.trans (kA'.mono (by simp)));
           have pa0 := ((bcell kA).1 _ _ pz).trans p0;
           have pa1 := ((bcell kA).1 _ _ pz).trans p1;
           have paz := Nat.lt_of_lt_of_le pz kA.size;
           (first
            | (have PY := box_a kA'; have hoA : ∀ g, (Value.slice Av n cv).ownBlock = some g → g ≠ w1.heap.size := (fun g hg => Nat.ne_of_gt (Nat.lt_of_lt_of_le (by simp) (rowC_lt own g hg).1)); have y0 := PY.c0; have y1 := PY.c1; have yz := PY.z; have yf0 := PY.fz 0; have yf1 := PY.fz 1)
            | (have PY := box_b kA'; have hoA : ∀ g, (Value.slice Av n cv).ownBlock = some g → g ≠ w1.heap.size := (fun g hg => Nat.ne_of_gt (Nat.lt_of_lt_of_le (by simp) (rowC_lt own g hg).1)); have y0 := PY.c0; have y1 := PY.c1; have yz := PY.z; have yf0 := PY.fz 0; have yf1 := PY.fz 1)
            | (have PY := box_c kA'; have hoA : ∀ g, (Value.slice Av n cv).ownBlock = some g → g ≠ w1.heap.size := (fun g hg => Nat.ne_of_gt (Nat.lt_of_lt_of_le (by simp) (rowC_lt own g hg).1)); have y0 := PY.c0; have y1 := PY.c1; have yz := PY.z; have yf0 := PY.fz 0; have yf1 := PY.fz 1)
            | skip)))
      all_goals
        go_wp2_with fail
        go_meet
        case rel =>
          first
            | exact ⟨w1.heap.size, _, rfl, by repeat (first | with_reducible assumption | with_reducible exact Below.refl _ _ | with_reducible apply Below.drew | ((with_reducible refine Below.setCell ?_ ?_ _); rotate_left; (first | exact Nat.le_refl _ | omega | (simp <;> omega))) | ((with_reducible refine Below.alloc ?_ ?_ _); rotate_left; (first | omega | (simp <;> omega)))), Nat.le_refl _, Lib.hid (pbw_store PY _ _), Lib.hid (rowC_ne (rowC_ne R1 hoA _) hoA _), Lib.hid hoA⟩
            | exact ⟨wA.heap.size, .slice Av n cv, rfl, Below.alloc kA kA.size _, kA.size, Lib.hid (pbw_new _ _ _ _), Lib.hid (rowC_below R1 (Below.alloc (Below.refl _ _) (Nat.le_refl _) _) (Nat.le_refl _)), Lib.hid (fun g hg => Nat.ne_of_lt (rowC_lt R1 g hg).2)⟩
            | exact ⟨wA.heap.size, .slice Av n cv, rfl, (Below.alloc kA kA.size _).drew, kA.size, Lib.hid (pbw_new _ _ _ _), Lib.hid (rowC_below R1 (Below.alloc (Below.refl _ _) (Nat.le_refl _) _) (Nat.le_refl _)), Lib.hid (fun g hg => Nat.ne_of_lt (rowC_lt R1 g hg).2)⟩
    case rest =>
    obtain ⟨g6, v0, rfl, hB0, hg6, PX, RX, NE⟩ := hcut
    rename World => wc
    have Q2 := Lib.hid (pbw_below Q1.out hB0)
    have hw1 := Q1.out.z
    clear Q1 P1 p0 p1 pz KC
    obtain ⟨Av0, cv0, rfl, hnv, hcv, rwv⟩ := rowC_rwi RX.out
    clear hnv hcv rwv
    go_wp2_with fail
    go_loopg [7] n (fun gg i wr => ∃ (m k : Nat) (h : Nat → Int) (v : Value), k ≤ m ∧ m ≤ 6 ∧ gg = m - k ∧ i = .int .i64 (k : Int) ∧ Hid (puzB (ns : Int) m h = true) ∧ Hid (hdGo ns (m - k) m h k = R) ∧ Below w1.heap.size w1 wr ∧ Hid (Pbw wr g6 (.int .i64 (ns : Int)) v) ∧ Hid (RowC wr w1.heap.size v m h) ∧ Hid (∀ g, v.ownBlock = some g → g ≠ g6) ∧ Hid (Pbw wr (w.heap.size + 1) (.int .i64 0) (.slice none 0 0)))
    case atStart => exact ⟨n, 0, f, _, Nat.zero_le _, hn6, rfl, rfl, HP0, Lib.hid HR0.out.symm, hB0, PX, RX, NE, Q2⟩
    case round =>
      clear PX RX NE Q2 hB0 HP0 HR0
      obtain ⟨m, k, h, v, hk, hm6, hgg, rfl, HP, HR, hB, PX, hr, NE, Q⟩ := hrel
      rename World => wo
      have HGK := Lib.hid hgg
      clear hgg
      obtain ⟨Av, cv, rfl, hnv, hcv, rwv⟩ := rowC_rwi hr.out
      clear rwv
      have hzo := hB.size
      have x0 := PX.out.c0
      have x1 := PX.out.c1
      have xz := PX.out.z
      by_cases hlt : k < m
      · obtain ⟨b, c', e, q1, q2, q3, hRv⟩ := rowC_at hr.out (by omega)
        injection e with e1 e2 e3
        subst e1 e3
        have KW := Lib.hid (without_any (ns : Int) b 0 cv m k h wo hlt hm6 q1 q2 hRv)
        have KT := Lib.hid (fun A c' W (hb : RdI W W.heap.size A ((m - 1) * 4) (woF h k)) => solutions_any ns A c' (m - 1) (woF h k) W (puzB_wo HP.out hlt) hb)
        have HP2 := Lib.hid (puzB_wo HP.out hlt)
        have HT := Lib.hid (fun hh => (hd_t (ns := ns) (f := h) hlt hh).trans HR.out)
        have HF := Lib.hid (fun hh => (hd_f (ns := ns) (f := h) hlt hh).trans HR.out)
        clear hRv
        generalize solK (woF h k) (m - 1) (ns + 1) ((ns + 1) * (ns + 1)) = sol at *
        go_wp2_with fail
        refine KW.out.mono ?_; rintro e w4 ⟨⟨v4, rfl, own4⟩, hb4⟩
        obtain ⟨A4, c4, rfl, hn4, hc4, rw4⟩ := rowC_rwi own4
        have B4 := hB.trans (hb4.mono hzo)
        have R4 := Lib.hid own4
        have RO4 := Lib.hid (rowC_below hr.out hb4 (Nat.le_refl _))
        have PX4 := Lib.hid (pbw_below PX.out hb4)
        have Q4 := Lib.hid (pbw_below Q.out hb4)
        have RD4 := Lib.hid rw4
        have N4 : Hid (∀ g, (Value.slice A4 (m - 1) c4).ownBlock = some g → g ≠ g6) := Lib.hid (fun g hg => by have := (rowC_lt own4 g hg).1; omega)
        clear own4 hb4 rw4 hB hr PX Q KW x0 x1 hn4 hc4
        go_wp2_with fail
        obtain ⟨W5, hW5⟩ : ∃ W5, W5 = w4.alloc (.cells #[.int .i64 (ns : Int), .slice A4 (m - 1) c4] 28) := ⟨_, rfl⟩
        have b5 : Below w4.heap.size w4 W5 := by rw [hW5]; exact Below.alloc (Below.refl _ _) (Nat.le_refl _) _
        have M5 := Lib.hid (show Pbw W5 w4.heap.size (.int .i64 (ns : Int)) (.slice A4 (m - 1) c4) by rw [hW5]; exact pbw_new _ _ _ _)
        rw [← hW5]
        clear hW5
        have B5 := B4.trans (b5.mono B4.size)
        have R5 := Lib.hid (rowC_below R4.out b5 (Nat.le_refl _))
        have RO5 := Lib.hid (rowC_below RO4.out b5 (Nat.le_refl _))
        have PX5 := Lib.hid (pbw_below PX4.out b5)
        have Q5 := Lib.hid (pbw_below Q4.out b5)
        have RD5 := Lib.hid (rdi_of_rw (rwi_below RD4.out b5 (Nat.le_refl _)) b5.size)
        have h84 : g6 < w4.heap.size := PX4.out.z
        obtain ⟨g8, hg8⟩ : ∃ g, g = w4.heap.size := ⟨_, rfl⟩
        rw [← hg8] at M5 ⊢
        have h86 : g6 ≠ g8 := by omega
        have h86' := Ne.symm h86
        clear b5 R4 RO4 PX4 Q4 RD4 hg8 h84 B4
        refine (KT.out _ _ _ RD5.out).mono ?_; rintro e w6 ⟨A6, c6, rfl, z1, z2, hb6, z3⟩
        have B6 := B5.trans (hb6.mono B5.size)
        have R6 := Lib.hid (rowC_below R5.out hb6 (Nat.le_refl _))
        have RO6 := Lib.hid (rowC_below RO5.out hb6 (Nat.le_refl _))
        have PX6 := Lib.hid (pbw_below PX5.out hb6)
        have Q6 := Lib.hid (pbw_below Q5.out hb6)
        have M6 := Lib.hid (pbw_below M5.out hb6)
        clear hb6 z1 z2 z3 R5 RO5 PX5 Q5 M5 RD5 KT B5
        have x0 := PX6.out.c0
        have x1 := PX6.out.c1
        have xz := PX6.out.z
        have xf0 := PX6.out.fz 0
        have xf1 := PX6.out.fz 1
        have y0 := M6.out.c0
        have y1 := M6.out.c1
        have yz := M6.out.z
        by_cases hx : sol.length = 1
        · have HT2 := Lib.hid (HT.out hx)
          have hx2 : ((sol.length : Nat) : Int) = 1 := by omega
          clear HT HF
          have PX7 := Lib.hid (pbw_store PX6.out (.int .i64 (ns : Int)) (.slice A4 (m - 1) c4))
          have R7 : Hid (RowC ((w6.setCell ⟨g6, 0, none⟩ (.int .i64 (ns : Int))).setCell ⟨g6, 1, none⟩ (.slice A4 (m - 1) c4)) w1.heap.size (.slice A4 (m - 1) c4) (m - 1) (woF h k)) := Lib.hid (rowC_ne (rowC_ne (rowC_base R6.out hzo) N4.out _) N4.out _)
          have hq6 : g6 ≠ w.heap.size + 1 := by omega
          have Q7 := Lib.hid (pbw_other (pbw_other Q6.out ⟨g6, 0, none⟩ (.int .i64 (ns : Int)) hq6) ⟨g6, 1, none⟩ (.slice A4 (m - 1) c4) hq6)
          have B7 := (B6.setCell (p := ⟨g6, 0, none⟩) hg6 (.int .i64 (ns : Int))).setCell (p := ⟨g6, 1, none⟩) hg6 (.slice A4 (m - 1) c4)
          clear R6 RO6 Q6 PX6 M6
          go_wp2_with fail
          go_roundg (m - 1 - k)
          case measure => have := HGK.out; omega
          case rel => exact ⟨m - 1, k, woF h k, _, by omega, by omega, rfl, by first | rfl | go_num, HP2, HT2, B7, PX7, R7, N4, Q7⟩
        · have HF2 := Lib.hid (HF.out hx)
          have hx2 : ¬ ((sol.length : Nat) : Int) = 1 := by omega
          have RO7 := RO6
          clear HT HF
          go_wp2_with fail
          go_roundg (m - (k + 1))
          case measure => have := HGK.out; omega
          case rel => exact ⟨m, k + 1, h, _, by omega, hm6, rfl, by go_num, HP, HF2, B6, PX6, RO7, NE, Q6⟩
      · obtain rfl : k = m := by omega
        have hF : R = (k, h) := by
          have := HR.out
          rw [Nat.sub_self] at this
          exact this.symm
        have hF2 := Lib.hid hF
        have r0 := Q.out.c0
        have r1 := Q.out.c1
        have rz := Q.out.z
        have rf0 := Q.out.fz 0
        have rf1 := Q.out.fz 1
        clear hF
        go_wp2_with fail
        refine bodyPost_ret (v := .tuple #[.agg #[.int .i64 (ns : Int), .slice Av k cv], .bool true]) (by simp [results, Try.results35, go_sem, rz, r0, r1]) rfl ?_
        rw [hF2.out]
        have BO := B1.trans (hB.mono B1.size)
        exact retZ_row (rowC_set (rowC_set hr.out (by show w.heap.size + 1 < _; exact hw1) _) (by show w.heap.size + 1 < _; exact hw1) _) B1 (by repeat (first | with_reducible assumption | with_reducible exact Below.refl _ _ | with_reducible apply Below.drew | ((with_reducible refine Below.setCell ?_ ?_ _); rotate_left; (first | exact Nat.le_refl _ | omega | (simp <;> omega))) | ((with_reducible refine Below.alloc ?_ ?_ _); rotate_left; (first | omega | (simp <;> omega)))))
end Go.Proofs.Ytacabmbajadbgaa
/- a clue more: plain; boxes of clues -/
namespace Go.Proofs.Ytacabmbajadbgaa
open Go.ChangeShapes Go.WideShapes Go.ChangeAt Go.RowKit Go.Joins
set_option linter.unusedVariables false
set_option linter.unusedSimpArgs false
set_option maxRecDepth 4000
/-- the clues with one more -/
def acF (f : Nat → Int) (n : Nat) (k a b c : Int) (i : Nat) : Int := if i < n * 4 then f i else if i - n * 4 = 0 then k else if i - n * 4 = 1 then a else if i - n * 4 = 2 then b else c
def acB (s : Int) (n : Nat) (f : Nat → Int) (k a b c : Int) : Bool := puzB s n f && (clueB s k a b c && decide (n ≠ 6))
def acN (s : Int) (n : Nat) (f : Nat → Int) (k a b c : Int) : Nat := if acB s n f k a b c = true then n + 1 else 0
def acS (s : Int) (n : Nat) (f : Nat → Int) (k a b c : Int) : Int := if acB s n f k a b c = true then s else 0
theorem ac_f {s : Int} {n : Nat} {f : Nat → Int} {k a b c : Int} (h : acB s n f k a b c = false) : acN s n f k a b c = 0 ∧ acS s n f k a b c = 0 := by unfold acN acS; rw [h]; exact ⟨rfl, rfl⟩
theorem ac_t {s : Int} {n : Nat} {f : Nat → Int} {k a b c : Int} (h : acB s n f k a b c = true) : acN s n f k a b c = n + 1 ∧ acS s n f k a b c = s := by unfold acN acS; rw [h]; exact ⟨rfl, rfl⟩
theorem fl4_snoc (f : Nat → Int) (n : Nat) (k a b c : Int) : fl4 (acF f n k a b c) (n + 1) = fl4 f n ++ [.int .i64 k, .int .i64 a, .int .i64 b, .int .i64 c] := by
  apply List.ext_getElem?
  intro i
  rcases Nat.lt_or_ge i (n * 4) with h | h
  · rw [fl4_get (by omega), List.getElem?_append_left (by rw [fl4_len]; exact h), fl4_get h]
    unfold acF; rw [if_pos h]
  · rw [List.getElem?_append_right (by rw [fl4_len]; exact h), fl4_len]
    rcases Nat.lt_or_ge i ((n + 1) * 4) with g | g
    · rw [fl4_get g]
      unfold acF
      rw [if_neg (by omega)]
      have : i - n * 4 = 0 ∨ i - n * 4 = 1 ∨ i - n * 4 = 2 ∨ i - n * 4 = 3 := by omega
      rcases this with e | e | e | e <;> rw [e] <;> rfl
    · rw [List.getElem?_eq_none (by rw [fl4_len]; exact g), List.getElem?_eq_none (by simp; omega)]
/-- a box of a clue -/
structure Cl4 (W : World) (g : Nat) (k a b c : Int) : Prop where
  z : g < W.heap.size
  c0 : W.cell? ⟨g, 0, none⟩ = some (.int .i64 k)
  c1 : W.cell? ⟨g, 1, none⟩ = some (.int .i64 a)
  c2 : W.cell? ⟨g, 2, none⟩ = some (.int .i64 b)
  c3 : W.cell? ⟨g, 3, none⟩ = some (.int .i64 c)
theorem cl4_below {W W' : World} {g : Nat} {k a b c : Int} (h : Cl4 W g k a b c) (hb : Below W.heap.size W W') : Cl4 W' g k a b c :=
  ⟨Nat.lt_of_lt_of_le h.z hb.size, ((bcell hb).1 _ _ h.z).trans h.c0, ((bcell hb).1 _ _ h.z).trans h.c1, ((bcell hb).1 _ _ h.z).trans h.c2, ((bcell hb).1 _ _ h.z).trans h.c3⟩
theorem three_boxes (w : World) (s k a b c : Int) (A : Option Addr) (n cc : Nat) (T U V : TypeId) : ∃ W0, ((w.alloc (.cells #[.int .i64 s, .slice A n cc] T)).alloc (.cells #[.int .i64 k, .int .i64 a, .int .i64 b, .int .i64 c] U)).alloc (.cells #[.int .i64 0, .slice none 0 0] V) = W0 ∧ Below w.heap.size w W0 ∧ Pbx W0 w.heap.size s A n cc ∧ Cl4 W0 (w.heap.size + 1) k a b c ∧ Pbw W0 (w.heap.size + 2) (.int .i64 0) (.slice none 0 0) := by
  refine ⟨_, rfl, ?_, ⟨by simp <;> omega, by go_simp, by go_simp⟩, ⟨by simp <;> omega, by go_simp, by go_simp, by go_simp, by go_simp⟩, ?_⟩
  · exact Below.alloc (Below.alloc (Below.alloc (Below.refl _ _) (Nat.le_refl _) _) (by simp) _) (by simp; omega) _
  · have := pbw_new ((w.alloc (.cells #[.int .i64 s, .slice A n cc] T)).alloc (.cells #[.int .i64 k, .int .i64 a, .int .i64 b, .int .i64 c] U)) (.int .i64 0) (.slice none 0 0) V
    simpa using this
end Go.Proofs.Ytacabmbajadbgaa
/- contract: AddClue, the program -/
namespace Go.Proofs.Ytacabmbajadbgaa
open Go.ChangeShapes Go.WideShapes Go.ChangeAt Go.RowKit Go.Joins
set_option linter.unusedVariables false
set_option linter.unusedSimpArgs false
set_option maxRecDepth 4000
/-- the append that grows a row of clues which is not its own -/
theorem ac_app {ops : Array Oper} {o : Oper} {a : Act} {K : Act → World → Prop} {Q : Exit → Act → World → Prop} {E : Prop} {i0 : TypeInfo} {w W5 W6 : World} {A' : Option Addr} {f : Nat → Int} {n q : Nat} {d0 d1 d2 d3 : Int} {X Y : Operand}
    (HI : Hid (Try.prog.info? 38 = some i0 ∧ i0.zero = some (.agg #[.int .i64 0, .int .i64 0, .int .i64 0, .int .i64 0]) ∧ i0.size = 4 ∧ i0.bytes = 32))
    (hn : n ≤ 6) (HAn : Hid (A' = none → n = 0 ∧ n = 0)) (HO : Hid (∀ W, Below w.heap.size w W → ∀ b, A' = some b → ∀ j u, (fl4 f n)[j]? = some u → W.cell? (b.add j) = some u))
    (hq : q = W5.heap.size) (hW6 : W6 = (W5.alloc (.cells #[.int .i64 d0, .int .i64 d1, .int .i64 d2, .int .i64 d3] 38)).drew) (hB : Below w.heap.size w W5)
    (hg : o.guard = none) (hop : o.op = Op.call { callee := Callee.builtin Builtin.append, args := #[X, Y], argTypes := #[26, 26] })
    (he1 : a.eval X = .slice A' n n) (he2 : a.eval Y = .slice (some ⟨q, 0, none⟩) 1 1)
    (hK : ∀ gg cap w', Hid (RowC w' W6.heap.size (.slice (some ⟨gg, 0, none⟩) (n + 1) cap) (n + 1) (acF f n d0 d1 d2 d3)) → W6.grownBy w' none → K (a.put o.dst (.slice (some ⟨gg, 0, none⟩) (n + 1) cap)) w') :
    if Region.wanted o (yielded ops a.tmps) = true then Oper.wp Try.prog o a W6 K Q else E := by
  subst hW6 hq
  have hB6 : Below w.heap.size w (W5.alloc (.cells #[.int .i64 d0, .int .i64 d1, .int .i64 d2, .int .i64 d3] 38)).drew := (Below.alloc hB hB.size _).drew
  refine step_append_grows hg X Y 26 hop 38 i0 _ 4 32 Try.underlying26 HI.out.1 HI.out.2.1 HI.out.2.2.1 HI.out.2.2.2 rfl (by decide) A' n n (fl4 f n) he1 HAn.out (fl4_len _ _) (HO.out _ hB6) ⟨W5.heap.size, 0, none⟩ 1 1 [.int .i64 d0, .int .i64 d1, .int .i64 d2, .int .i64 d3] he2 rfl ?_ (by simp [Value.oneCell']) (by omega) (by unfold maxLen; omega) (by omega) ?_
  · exact World.news_of_block (cs := #[.int .i64 d0, .int .i64 d1, .int .i64 d2, .int .i64 d3]) (t := 38) (fr := (0, 0)) (heap_alloc_new W5 _)
  · intro v' w' hown hgrow
    obtain ⟨gg, cap, rfl⟩ := Joins.ownsRow_form hown (by omega)
    refine hK gg cap w' (Lib.hid ?_) hgrow
    unfold RowC
    rw [fl4_snoc]
    exact hown
set_option maxHeartbeats 8000000 in
theorem implAddClue_any (s : Int) (bk off c n : Nat) (f : Nat → Int) (d0 d1 d2 d3 : Int) (w : World) (hm : n ≤ 1048576) (hnc : n ≤ c) (hc : c ≤ 9223372036854775807) (hR : RdI w w.heap.size (some ⟨bk, off, none⟩) (n * 4) f) :
    Calls Try.prog 24 #[.agg #[.int .i64 s, .slice (some ⟨bk, off, none⟩) n c], .agg #[.int .i64 d0, .int .i64 d1, .int .i64 d2, .int .i64 d3]] w (RetZ w (acS s n f d0 d1 d2 d3) (acN s n f d0 d1 d2 d3) (acF f n d0 d1 d2 d3) (acB s n f d0 d1 d2 d3)) := by
  have K := Lib.hid (fun W (hb : Below w.heap.size w W) => implIsPuzzle_any s (some ⟨bk, off, none⟩) c n f W (rdi_below hR hb (Nat.le_refl _)))
  have KC := Lib.hid (fun W => implIsClue_any s d0 d1 d2 d3 W)
  obtain ⟨W0, hW, B0, X0, C0, Q0⟩ := three_boxes w s d0 d1 d2 d3 (some ⟨bk, off, none⟩) n c 28 38 28
  have HX := Lib.hid X0
  have HC := Lib.hid C0
  have HQ := Lib.hid Q0
  have HB := Lib.hid B0
  have HW := Lib.hid hW
  clear X0 C0 Q0 B0 hW
  cases hp : puzB s n f
  · have hB : acB s n f d0 d1 d2 d3 = false := by unfold acB; rw [hp]; rfl
    rw [(ac_f hB).1, (ac_f hB).2, hB]
    rw [hp] at K
    clear hp hR hB KC
    go_enter Try.func24, Try.ntmps24
    go_upto_region 1 with fail
    rw [HW.out, Nat.add_assoc]
    have p0 := HX.out.c0
    have p1 := HX.out.c1
    have pz := HX.out.z
    have q0 := HC.out.c0
    have q1 := HC.out.c1
    have q2 := HC.out.c2
    have q3 := HC.out.c3
    have qz := HC.out.z
    go_wp2_with fail
    refine (K.out _ HB.out).mono ?_; rintro e w1 ⟨rfl, hb1⟩
    have B1 := HB.out.trans (hb1.mono HB.out.size)
    have X1 := Lib.hid (pbx_below HX.out hb1)
    have C1 := Lib.hid (cl4_below HC.out hb1)
    have Q1 := Lib.hid (pbw_below HQ.out hb1)
    clear hb1 HX HC HQ HB K p0 p1 pz q0 q1 q2 q3 qz HW
    have r0 := Q1.out.c0
    have r1 := Q1.out.c1
    have rz := Q1.out.z
    have rf0 := Q1.out.fz 0
    have rf1 := Q1.out.fz 1
    have zz := B1.size
    go_wp2_with fail
    refine bodyPost_ret (v := .tuple #[.agg #[.int .i64 0, .slice none 0 0], .bool false]) (by simp [results, Try.results24, go_sem, rz, r0, r1]) rfl (retZ_nil ?_)
    repeat (first | with_reducible assumption | with_reducible exact Below.refl _ _ | with_reducible apply Below.drew | ((with_reducible refine Below.setCell ?_ ?_ _); rotate_left; (first | exact Nat.le_refl _ | omega | (simp <;> omega))) | ((with_reducible refine Below.alloc ?_ ?_ _); rotate_left; (first | omega | (simp <;> omega))))
  have h12 := puzB_t hp
  have hn6 : n ≤ 6 := h12.2.2.1
  rw [hp] at K
  by_cases hcl : clueB s d0 d1 d2 d3 = true ∧ n ≠ 6
  rotate_left
  · have hB : acB s n f d0 d1 d2 d3 = false := by
      unfold acB
      rw [hp]
      cases h1 : clueB s d0 d1 d2 d3
      · rfl
      · have : ¬ n ≠ 6 := fun h => hcl ⟨h1, h⟩
        simp [this]
    rw [(ac_f hB).1, (ac_f hB).2, hB]
    cases h1 : clueB s d0 d1 d2 d3
    · rw [h1, Bool.and_false] at KC
      clear hB h1 hcl hp hR h12
      go_enter Try.func24, Try.ntmps24
      go_upto_region 1 with fail
      rw [HW.out, Nat.add_assoc]
      have p0 := HX.out.c0
      have p1 := HX.out.c1
      have pz := HX.out.z
      have q0 := HC.out.c0
      have q1 := HC.out.c1
      have q2 := HC.out.c2
      have q3 := HC.out.c3
      have qz := HC.out.z
      go_wp2_with fail
      refine (K.out _ HB.out).mono ?_; rintro e w1 ⟨rfl, hb1⟩
      have B1 := HB.out.trans (hb1.mono HB.out.size)
      have X1 := Lib.hid (pbx_below HX.out hb1)
      have C1 := Lib.hid (cl4_below HC.out hb1)
      have Q1 := Lib.hid (pbw_below HQ.out hb1)
      clear hb1 HX HC HQ HB K p0 p1 pz q0 q1 q2 q3 qz HW
      have x0 := X1.out.c0
      have x1 := X1.out.c1
      have xz := X1.out.z
      have y0 := C1.out.c0
      have y1 := C1.out.c1
      have y2 := C1.out.c2
      have y3 := C1.out.c3
      have yz := C1.out.z
      go_wp2_with fail
      refine (KC.out _).mono ?_; rintro e w2 ⟨rfl, hb2⟩
      have B2 := B1.trans (hb2.mono B1.size)
      have X2 := Lib.hid (pbx_below X1.out hb2)
      have C2 := Lib.hid (cl4_below C1.out hb2)
      have Q2 := Lib.hid (pbw_below Q1.out hb2)
      clear hb2 X1 C1 Q1 x0 x1 xz y0 y1 y2 y3 yz KC B1
      have r0 := Q2.out.c0
      have r1 := Q2.out.c1
      have rz := Q2.out.z
      have rf0 := Q2.out.fz 0
      have rf1 := Q2.out.fz 1
      have zz := B2.size
      go_wp2_with fail
      refine bodyPost_ret (v := .tuple #[.agg #[.int .i64 0, .slice none 0 0], .bool false]) (by simp [results, Try.results24, go_sem, rz, r0, r1]) rfl (retZ_nil ?_)
      repeat (first | with_reducible assumption | with_reducible exact Below.refl _ _ | with_reducible apply Below.drew | ((with_reducible refine Below.setCell ?_ ?_ _); rotate_left; (first | exact Nat.le_refl _ | omega | (simp <;> omega))) | ((with_reducible refine Below.alloc ?_ ?_ _); rotate_left; (first | omega | (simp <;> omega))))
    · obtain rfl : n = 6 := by
        rcases Nat.lt_or_ge n 6 with g | g
        · exact absurd ⟨h1, by omega⟩ hcl
        · omega
      rw [h1, show inQ 1 12 s = true by unfold inQ; simp; omega] at KC
      clear hB h1 hcl hp hR h12
      go_enter Try.func24, Try.ntmps24
      go_upto_region 1 with fail
      rw [HW.out, Nat.add_assoc]
      have p0 := HX.out.c0
      have p1 := HX.out.c1
      have pz := HX.out.z
      have q0 := HC.out.c0
      have q1 := HC.out.c1
      have q2 := HC.out.c2
      have q3 := HC.out.c3
      have qz := HC.out.z
      go_wp2_with fail
      refine (K.out _ HB.out).mono ?_; rintro e w1 ⟨rfl, hb1⟩
      have B1 := HB.out.trans (hb1.mono HB.out.size)
      have X1 := Lib.hid (pbx_below HX.out hb1)
      have C1 := Lib.hid (cl4_below HC.out hb1)
      have Q1 := Lib.hid (pbw_below HQ.out hb1)
      clear hb1 HX HC HQ HB K p0 p1 pz q0 q1 q2 q3 qz HW
      have x0 := X1.out.c0
      have x1 := X1.out.c1
      have xz := X1.out.z
      have y0 := C1.out.c0
      have y1 := C1.out.c1
      have y2 := C1.out.c2
      have y3 := C1.out.c3
      have yz := C1.out.z
      go_wp2_with fail
      refine (KC.out _).mono ?_; rintro e w2 ⟨rfl, hb2⟩
      have B2 := B1.trans (hb2.mono B1.size)
      have X2 := Lib.hid (pbx_below X1.out hb2)
      have C2 := Lib.hid (cl4_below C1.out hb2)
      have Q2 := Lib.hid (pbw_below Q1.out hb2)
      clear hb2 X1 C1 Q1 x0 x1 xz y0 y1 y2 y3 yz KC B1
      have x1 := X2.out.c1
      have xz := X2.out.z
      have r0 := Q2.out.c0
      have r1 := Q2.out.c1
      have rz := Q2.out.z
      have rf0 := Q2.out.fz 0
      have rf1 := Q2.out.fz 1
      have zz := B2.size
      go_wp2_with fail
      refine bodyPost_ret (v := .tuple #[.agg #[.int .i64 0, .slice none 0 0], .bool false]) (by simp [results, Try.results24, go_sem, rz, r0, r1]) rfl (retZ_nil ?_)
      repeat (first | with_reducible assumption | with_reducible exact Below.refl _ _ | with_reducible apply Below.drew | ((with_reducible refine Below.setCell ?_ ?_ _); rotate_left; (first | exact Nat.le_refl _ | omega | (simp <;> omega))) | ((with_reducible refine Below.alloc ?_ ?_ _); rotate_left; (first | omega | (simp <;> omega))))
  have hB : acB s n f d0 d1 d2 d3 = true := by unfold acB; rw [hp, hcl.1]; simp [hcl.2]
  rw [(ac_t hB).1, (ac_t hB).2, hB]
  rw [hcl.1, show inQ 1 12 s = true by unfold inQ; simp; omega] at KC
  have hn6i : ¬ (n : Int) = 6 := by have := hcl.2; omega
  have KP := Lib.hid (fun W => part_any s bk off c n 0 n W (Nat.zero_le _) (Nat.le_refl _) hnc hc)
  simp only [Nat.sub_zero, Nat.zero_mul, Nat.add_zero, Int.natCast_zero] at KP
  obtain ⟨i0, hi0, hz0, hz1, hz2⟩ := info_parts clue_info
  have HI := Lib.hid (And.intro hi0 (And.intro hz0 (And.intro hz1 hz2)))
  have HO : Hid (∀ W, Below w.heap.size w W → ∀ j u, (fl4 f n)[j]? = some u → W.cell? ((⟨bk, off, none⟩ : Addr).add j) = some u) := Lib.hid (fun W hW => fl4_cells (fun i hi => by
    obtain ⟨b', o', e, hbz, hcell⟩ := hR (by omega)
    injection e with e
    injection e with e1 e2
    subst e1 e2
    exact ((bcell hW).1 _ _ hbz).trans (hcell i hi)))
  clear hi0 hz0 hz1 hz2 hB hcl hp h12 hR
  go_enter Try.func24, Try.ntmps24
  go_upto_region 1 with fail
  rw [HW.out, Nat.add_assoc]
  have p0 := HX.out.c0
  have p1 := HX.out.c1
  have pz := HX.out.z
  have q0 := HC.out.c0
  have q1 := HC.out.c1
  have q2 := HC.out.c2
  have q3 := HC.out.c3
  have qz := HC.out.z
  go_wp2_with fail
  refine (K.out _ HB.out).mono ?_; rintro e w1 ⟨rfl, hb1⟩
  have B1 := HB.out.trans (hb1.mono HB.out.size)
  have X1 := Lib.hid (pbx_below HX.out hb1)
  have C1 := Lib.hid (cl4_below HC.out hb1)
  have Q1 := Lib.hid (pbw_below HQ.out hb1)
  clear hb1 HX HC HQ HB K p0 p1 pz q0 q1 q2 q3 qz HW
  have x0 := X1.out.c0
  have x1 := X1.out.c1
  have xz := X1.out.z
  have y0 := C1.out.c0
  have y1 := C1.out.c1
  have y2 := C1.out.c2
  have y3 := C1.out.c3
  have yz := C1.out.z
  go_wp2_with fail
  refine (KC.out _).mono ?_; rintro e w2 ⟨rfl, hb2⟩
  have B2 := B1.trans (hb2.mono B1.size)
  have X2 := Lib.hid (pbx_below X1.out hb2)
  have C2 := Lib.hid (cl4_below C1.out hb2)
  have Q2 := Lib.hid (pbw_below Q1.out hb2)
  clear hb2 X1 C1 Q1 x0 x1 xz y0 y1 y2 y3 yz KC B1
  have x0 := X2.out.c0
  have x1 := X2.out.c1
  have xz := X2.out.z
  go_wp2_with fail
  refine (KP.out _).mono ?_; rintro e w3 ⟨⟨A', rfl, hA'⟩, hb3⟩
  have B3 := B2.trans (hb3.mono B2.size)
  have X3 := Lib.hid (pbx_below X2.out hb3)
  have C3 := Lib.hid (cl4_below C2.out hb3)
  have Q3 := Lib.hid (pbw_below Q2.out hb3)
  have HA := Lib.hid hA'
  clear hb3 X2 C2 Q2 x0 x1 xz B2 hA' KP
  go_upto_region 4 with fail
  obtain ⟨W4, hW4⟩ : ∃ W4, W4 = w3.alloc (.cells #[.int .i64 s, .slice A' n n] 28) := ⟨_, rfl⟩
  rw [← hW4]
  have hb4 : Below w3.heap.size w3 W4 := by rw [hW4]; exact Below.alloc (Below.refl _ _) (Nat.le_refl _) _
  have X6 : Hid (Pbx W4 w3.heap.size s A' n n) := Lib.hid (by rw [hW4]; exact pbx_new _ _ _ _ _ _)
  have B4 := B3.trans (hb4.mono B3.size)
  have X4 := Lib.hid (pbx_below X3.out hb4)
  have C4 := Lib.hid (cl4_below C3.out hb4)
  have Q4 := Lib.hid (pbw_below Q3.out hb4)
  have hz3 : w.heap.size + 2 < w3.heap.size := Q3.out.z
  clear hW4 hb4 X3 C3 Q3 B3
  obtain ⟨g6, hg6⟩ : ∃ g, g = w3.heap.size := ⟨_, rfl⟩
  rw [← hg6] at X6 hz3 ⊢
  clear hg6
  have x0 := X4.out.c0
  have xz := X4.out.z
  have y0 := C4.out.c0
  have y1 := C4.out.c1
  have y2 := C4.out.c2
  have y3 := C4.out.c3
  have yz := C4.out.z
  have u1 := X6.out.c1
  have uz := X6.out.z
  have HAn : Hid (A' = none → n = 0 ∧ n = 0) := Lib.hid (fun h => by
    rcases Nat.eq_zero_or_pos n with g | g
    · exact ⟨g, g⟩
    · rw [HA.out g] at h; cases h)
  have HO5 : Hid (∀ W, Below w.heap.size w W → ∀ b, A' = some b → ∀ j u, (fl4 f n)[j]? = some u → W.cell? (b.add j) = some u) := Lib.hid (fun W hW b hb j u hj => by
    rcases Nat.eq_zero_or_pos n with g | g
    · have := (List.getElem?_eq_some_iff.1 hj).1
      rw [fl4_len, g] at this
      omega
    · rw [HA.out g] at hb
      injection hb with hb
      rw [← hb]
      exact HO.out W hW j u hj)
  clear HA HO
  have hne1 : ¬ g6 = w.heap.size + 2 := by omega
  have hne2 : ¬ w.heap.size + 2 = g6 := by omega
  go_region_held3 (fun W' => W'.cell? ⟨w.heap.size, 0, none⟩ = some (.int .i64 s) ∧ W'.cell? ⟨w.heap.size + 1, 0, none⟩ = some (.int .i64 d0) ∧ W'.cell? ⟨w.heap.size + 1, 1, none⟩ = some (.int .i64 d1) ∧ W'.cell? ⟨w.heap.size + 1, 2, none⟩ = some (.int .i64 d2) ∧ W'.cell? ⟨w.heap.size + 1, 3, none⟩ = some (.int .i64 d3) ∧ W'.cell? ⟨g6, 1, none⟩ = some (.slice A' n n)) (first | exact ⟨X7.out.c0, C7.out.c0, C7.out.c1, C7.out.c2, C7.out.c3, U7.out.c1⟩ | go_keep)
    ((refine ac_app (W5 := W4) (d0 := d0) (d1 := d1) (d2 := d2) (d3 := d3) HI hn6 HAn HO5 rfl rfl B4 rfl rfl rfl rfl ?_; intro gg cap w' hrow hgrow; have hg6 := (((Below.refl W4.heap.size W4).alloc (Nat.le_refl _) _).drew).grown hgrow (by simp) (fun g hg => by cases hg); have B7 := B4.trans (hg6.mono B4.size); have Q7 := Lib.hid (pbw_below Q4.out hg6); have X7 := Lib.hid (pbx_below X4.out hg6); have C7 := Lib.hid (cl4_below C4.out hg6); have U7 := Lib.hid (pbx_below X6.out hg6); have e0 := X7.out.c0; have e1 := C7.out.c0; have e2 := C7.out.c1; have e3 := C7.out.c2; have e4 := C7.out.c3; have e5 := U7.out.c1; have k0 := Q7.out.c0; have k1 := Q7.out.c1; have kz := Q7.out.z; have kf0 := Q7.out.fz 0; have kf1 := Q7.out.fz 1))
  have hz4 : w.heap.size + 2 < W4.heap.size := Q4.out.z
  obtain ⟨W8, hW8⟩ : ∃ W8, W8 = (w'.setCell ⟨w.heap.size + 2, 0, none⟩ (.int .i64 s)).setCell ⟨w.heap.size + 2, 1, none⟩ (.slice (some ⟨gg, 0, none⟩) (n + 1) cap) := ⟨_, rfl⟩
  have R8 : Hid (RowC W8 w.heap.size (.slice (some ⟨gg, 0, none⟩) (n + 1) cap) (n + 1) (acF f n d0 d1 d2 d3)) := Lib.hid (by
    rw [hW8]
    exact rowC_base (rowC_set (rowC_set (rowC_base hrow.out (show w.heap.size + 3 ≤ _ by simp; omega)) (a := ⟨w.heap.size + 2, 0, none⟩) (by simp) (.int .i64 s)) (a := ⟨w.heap.size + 2, 1, none⟩) (by simp) _) (by omega))
  have B8 : Below w.heap.size w W8 := by
    rw [hW8]
    exact (B7.setCell (by simp) _).setCell (by simp) _
  have Q8 : Pbw W8 (w.heap.size + 2) (.int .i64 s) (.slice (some ⟨gg, 0, none⟩) (n + 1) cap) := by
    rw [hW8]
    exact ⟨by simp; omega, by go_simp, by go_simp, fun o => by simpa using Q7.out.fz o⟩
  rw [← hW8]
  clear hW8 hrow hgrow hg6 B7 Q7 X7 C7 U7 e0 e1 e2 e3 e4 e5 k0 k1 kz kf0 kf1 x0 xz y0 y1 y2 y3 yz u1 uz HAn HO5 X4 C4 Q4 X6 B4 hz4 hne1 hne2
  have r0 := Q8.c0
  have r1 := Q8.c1
  have rz := Q8.z
  have rf0 := Q8.fz 0
  have rf1 := Q8.fz 1
  clear Q8
  go_wp2_with fail
  exact bodyPost_ret (v := .tuple #[.agg #[.int .i64 s, .slice (some ⟨gg, 0, none⟩) (n + 1) cap], .bool true]) (by simp [results, Try.results24, go_sem, rz, r0, r1]) rfl (retZ_row R8.out (Below.refl _ _) B8)
end Go.Proofs.Ytacabmbajadbgaa
/- contract: AddClue, the model -/
namespace Go.Proofs.Ytacabmbajadbgaa
open Go.ChangeShapes Go.WideShapes Go.ChangeAt Go.RowKit Go.Joins
set_option linter.unusedVariables false
set_option linter.unusedSimpArgs false
set_option maxRecDepth 4000
theorem Cl4.grown {W W' : World} {g : Nat} {k a b c : Int} {row : Option Nat} (h : Cl4 W g k a b c) (hg : W.grownBy W' row) (hne : row ≠ some g) : Cl4 W' g k a b c := by
  have hb := hg.block g h.z (fun e => hne e.symm)
  have hc : ∀ o p, W'.cell? ⟨g, o, p⟩ = W.cell? ⟨g, o, p⟩ := fun o p => by unfold World.cell?; rw [hb]
  exact ⟨Nat.lt_of_lt_of_le h.z hg.size, (hc _ _).trans h.c0, (hc _ _).trans h.c1, (hc _ _).trans h.c2, (hc _ _).trans h.c3⟩
theorem cl4_new (W : World) (k a b c : Int) (T : TypeId) {q : Nat} (hq : q = W.heap.size) : Cl4 (W.alloc (.cells #[.int .i64 k, .int .i64 a, .int .i64 b, .int .i64 c] T)) q k a b c := by
  subst hq
  exact ⟨by simp, by go_simp, by go_simp, by go_simp, by go_simp⟩
theorem cl4_drew {W : World} {g : Nat} {k a b c : Int} (h : Cl4 W g k a b c) : Cl4 W.drew g k a b c := cl4_below h ((Below.refl _ _).drew)
theorem cl4_alloc {W : World} {g : Nat} {k a b c : Int} (h : Cl4 W g k a b c) (o : Obj) : Cl4 (W.alloc o) g k a b c := cl4_below h (Below.alloc (Below.refl _ _) (Nat.le_refl _) o)
theorem own_belowC {w w' : World} {base B : Nat} {v : Value} {n : Nat} {xs : List Value} (h : w.ownsRow base 38 4 v n xs) (hb : Below B w w') (hB : w.heap.size ≤ B) : w'.ownsRow base 38 4 v n xs := by
  obtain ⟨h1, h2⟩ := h
  rcases h2 with h2 | ⟨g, cap, cur, hv, hg, hh, r⟩
  · exact ⟨h1, .inl h2⟩
  · have hl := World.ownsRow.lt (w := w) (base := base) (e := 38) (size := 4) (v := v) (n := n) (xs := xs) ⟨h1, .inr ⟨g, cap, cur, hv, hg, hh, r⟩⟩ g (by rw [hv]; rfl)
    exact ⟨h1, .inr ⟨g, cap, cur, hv, hg, (hb.block g (by omega)).trans hh, r⟩⟩
/-- an append onto a row of clues of one's own -/
theorem ac_own {ops : Array Oper} {o : Oper} {a : Act} {K : Act → World → Prop} {Q : Exit → Act → World → Prop} {E : Prop} {i0 : TypeInfo} {W6 : World} {base n m c : Nat} {v : Value} {xs news : List Value} {X Y : Operand} {ad : Addr}
    (HI : Hid (Try.prog.info? 38 = some i0 ∧ i0.zero = some (.agg #[.int .i64 0, .int .i64 0, .int .i64 0, .int .i64 0]) ∧ i0.size = 4 ∧ i0.bytes = 32))
    (hown : W6.ownsRow base 38 4 v n xs) (hl : news.length = m * 4) (hnews : ∀ j u, news[j]? = some u → W6.cell? (ad.add j) = some u) (h1 : ∀ u ∈ news, u.oneCell' = true) (h63 : n + m ≤ 1048576) (hbase : base ≤ W6.heap.size)
    (hg : o.guard = none) (hop : o.op = Op.call { callee := Callee.builtin Builtin.append, args := #[X, Y], argTypes := #[26, 26] })
    (he1 : a.eval X = v) (he2 : a.eval Y = .slice (some ad) m c)
    (hK : ∀ v' w', Hid (w'.ownsRow base 38 4 v' (n + m) (xs ++ news)) → Hid (W6.grownBy w' v.ownBlock) → K (a.put o.dst v') w') :
    if Region.wanted o (yielded ops a.tmps) = true then Oper.wp Try.prog o a W6 K Q else E := by
  have hw : Region.wanted o (yielded ops a.tmps) = true := by simp [Region.wanted, hg]
  rw [if_pos hw]
  obtain ⟨v', w', hrun, r1, r2, _⟩ := run_append_own (P := Try.prog) (w := W6) base 26 o.type 38 i0 _ 4 32 Try.underlying26 HI.out.1 HI.out.2.1 HI.out.2.2.1 HI.out.2.2.2 rfl (by decide) v n xs hown ad m c news hl hnews h1 (by unfold maxLen; omega) (by omega) hbase
  unfold Oper.wp
  simp [execOp, hop, resolve, invoke, builtin, he1, he2, hrun, Result.andThen]
  exact hK v' w' (Lib.hid r1) (Lib.hid r2)
theorem hh_new {W : World} {q : Nat} {o : Obj} (hq : q = W.heap.size) : (W.alloc o).heap[q]? = some o := by
  subst hq
  exact heap_alloc_new W o
theorem ac_first {ops : Array Oper} {o : Oper} {a : Act} {K : Act → World → Prop} {Q : Exit → Act → World → Prop} {E : Prop} {i0 : TypeInfo} {w W4 W6 : World} {bk off c g : Nat} {f : Nat → Int} {n : Nat} {X Y : Operand}
    (HI : Hid (Try.prog.info? 38 = some i0 ∧ i0.zero = some (.agg #[.int .i64 0, .int .i64 0, .int .i64 0, .int .i64 0]) ∧ i0.size = 4 ∧ i0.bytes = 32))
    (hn : n ≤ 6) (HO : Hid (∀ W, Below w.heap.size w W → ∀ j u, (fl4 f n)[j]? = some u → W.cell? ((⟨bk, off, none⟩ : Addr).add j) = some u)) (hB : Below w.heap.size w W6)
    (hg : o.guard = none) (hop : o.op = Op.call { callee := Callee.builtin Builtin.append, args := #[X, Y], argTypes := #[26, 26] })
    (he1 : a.eval X = .slice (some ⟨g, 0, none⟩) 0 0) (he2 : a.eval Y = .slice (some ⟨bk, off, none⟩) n c)
    (hb4 : Below W4.heap.size W4 W6) (hgb : W4.heap.size ≤ g) (hh : W6.heap[g]? = some (.cells #[] 38 (0, 0)))
    (hK : ∀ v' w', Hid (w'.ownsRow W4.heap.size 38 4 v' n (fl4 f n)) → Hid (W6.grownBy w' (some g)) → Hid (Below W4.heap.size W4 w') → K (a.put o.dst v') w') :
    if Region.wanted o (yielded ops a.tmps) = true then Oper.wp Try.prog o a W6 K Q else E := by
  refine ac_own HI (base := W4.heap.size) (n := 0) (xs := []) ⟨rfl, .inr ⟨g, 0, #[], rfl, hgb, hh, Nat.le_refl _, by decide, rfl, rfl⟩⟩ (fl4_len f n) (HO.out _ hB) (fl4_one f n) (by omega) hb4.size hg hop he1 he2 ?_
  intro v' w' h1 h2
  rw [Nat.zero_add, List.nil_append] at h1
  exact hK v' w' h1 h2 (Lib.hid (hb4.grown h2.out hb4.size (fun k hk => by have e : g = k := (by simpa [Value.ownBlock] using hk); omega)))
theorem ac_second {ops : Array Oper} {o : Oper} {a : Act} {K : Act → World → Prop} {Q : Exit → Act → World → Prop} {E : Prop} {i0 : TypeInfo} {W4 W7 W8 : World} {q : Nat} {f : Nat → Int} {n : Nat} {d0 d1 d2 d3 : Int} {v : Value} {X Y : Operand}
    (HI : Hid (Try.prog.info? 38 = some i0 ∧ i0.zero = some (.agg #[.int .i64 0, .int .i64 0, .int .i64 0, .int .i64 0]) ∧ i0.size = 4 ∧ i0.bytes = 32))
    (hn : n ≤ 6) (hown : Hid (W7.ownsRow W4.heap.size 38 4 v n (fl4 f n))) (hB : Below W7.heap.size W7 W8) (hz : W4.heap.size ≤ W7.heap.size)
    (hg : o.guard = none) (hop : o.op = Op.call { callee := Callee.builtin Builtin.append, args := #[X, Y], argTypes := #[26, 26] })
    (he1 : a.eval X = v) (he2 : a.eval Y = .slice (some ⟨q, 0, none⟩) 1 1) (hC : Cl4 W8 q d0 d1 d2 d3)
    (hK : ∀ gg cap w', Hid (RowC w' W4.heap.size (.slice (some ⟨gg, 0, none⟩) (n + 1) cap) (n + 1) (acF f n d0 d1 d2 d3)) → Hid (Below W4.heap.size W7 w') → K (a.put o.dst (.slice (some ⟨gg, 0, none⟩) (n + 1) cap)) w') :
    if Region.wanted o (yielded ops a.tmps) = true then Oper.wp Try.prog o a W8 K Q else E := by
  have hown8 := own_belowC hown.out hB (Nat.le_refl _)
  refine ac_own HI hown8 (m := 1) (news := [.int .i64 d0, .int .i64 d1, .int .i64 d2, .int .i64 d3]) rfl (fun j u hj => ?_) (by simp [Value.oneCell']) (by omega) (Nat.le_trans hz hB.size) hg hop he1 he2 ?_
  · rw [add_plain]
    rcases j with _ | _ | _ | _ | j
    · injection hj with hj; rw [← hj]; exact hC.c0
    · injection hj with hj; rw [← hj]; exact hC.c1
    · injection hj with hj; rw [← hj]; exact hC.c2
    · injection hj with hj; rw [← hj]; exact hC.c3
    · simp at hj
  · intro v' w' h1 h2
    obtain ⟨gg, cap, rfl⟩ := Joins.ownsRow_form h1.out (by omega)
    refine hK gg cap w' (Lib.hid ?_) (Lib.hid ?_)
    · unfold RowC
      rw [fl4_snoc]
      exact h1.out
    · exact (hB.mono hz).grown h2.out (Nat.le_trans hz hB.size) (fun g hg => (World.ownsRow.lt hown8 g hg).1)
end Go.Proofs.Ytacabmbajadbgaa
/- contract: AddClue, the model: the program -/
namespace Go.Proofs.Ytacabmbajadbgaa
open Go.ChangeShapes Go.WideShapes Go.ChangeAt Go.RowKit Go.Joins
set_option linter.unusedVariables false
set_option linter.unusedSimpArgs false
set_option maxRecDepth 4000
set_option maxHeartbeats 8000000 in
theorem specAddClue_any (s : Int) (bk off c n : Nat) (f : Nat → Int) (d0 d1 d2 d3 : Int) (w : World) (hm : n ≤ 1048576) (hnc : n ≤ c) (hc : c ≤ 9223372036854775807) (hR : RdI w w.heap.size (some ⟨bk, off, none⟩) (n * 4) f) :
    Calls Try.prog 22 #[.agg #[.int .i64 s, .slice (some ⟨bk, off, none⟩) n c], .agg #[.int .i64 d0, .int .i64 d1, .int .i64 d2, .int .i64 d3]] w (RetZ w (acS s n f d0 d1 d2 d3) (acN s n f d0 d1 d2 d3) (acF f n d0 d1 d2 d3) (acB s n f d0 d1 d2 d3)) := by
  have K := Lib.hid (fun W (hb : Below w.heap.size w W) => pzGood_any s (some ⟨bk, off, none⟩) c n f W hm (rdi_below hR hb (Nat.le_refl _)))
  obtain ⟨W0, hW, B0, X0, C0, Q0⟩ := three_boxes w s d0 d1 d2 d3 (some ⟨bk, off, none⟩) n c 28 38 28
  have HX := Lib.hid X0
  have HC := Lib.hid C0
  have HQ := Lib.hid Q0
  have HB := Lib.hid B0
  have HW := Lib.hid hW
  clear X0 C0 Q0 B0 hW
  cases hp : puzB s n f
  · have hB : acB s n f d0 d1 d2 d3 = false := by unfold acB; rw [hp]; rfl
    rw [(ac_f hB).1, (ac_f hB).2, hB]
    rw [hp] at K
    clear hp hR hB
    go_enter Try.func22, Try.ntmps22
    go_upto_region 1 with fail
    rw [HW.out, Nat.add_assoc]
    have p0 := HX.out.c0
    have p1 := HX.out.c1
    have pz := HX.out.z
    have q0 := HC.out.c0
    have q1 := HC.out.c1
    have q2 := HC.out.c2
    have q3 := HC.out.c3
    have qz := HC.out.z
    go_wp2_with fail
    refine (K.out _ HB.out).mono ?_; rintro e w1 ⟨rfl, hb1⟩
    have B1 := HB.out.trans (hb1.mono HB.out.size)
    have X1 := Lib.hid (pbx_below HX.out hb1)
    have C1 := Lib.hid (cl4_below HC.out hb1)
    have Q1 := Lib.hid (pbw_below HQ.out hb1)
    clear hb1 HX HC HQ HB K p0 p1 pz q0 q1 q2 q3 qz HW
    have r0 := Q1.out.c0
    have r1 := Q1.out.c1
    have rz := Q1.out.z
    have rf0 := Q1.out.fz 0
    have rf1 := Q1.out.fz 1
    have zz := B1.size
    go_wp2_with fail
    refine bodyPost_ret (v := .tuple #[.agg #[.int .i64 0, .slice none 0 0], .bool false]) (by simp [results, Try.results22, go_sem, rz, r0, r1]) rfl (retZ_nil ?_)
    repeat (first | with_reducible assumption | with_reducible exact Below.refl _ _ | with_reducible apply Below.drew | ((with_reducible refine Below.setCell ?_ ?_ _); rotate_left; (first | exact Nat.le_refl _ | omega | (simp <;> omega))) | ((with_reducible refine Below.alloc ?_ ?_ _); rotate_left; (first | omega | (simp <;> omega))))
  have h12 := puzB_t hp
  have KC := Lib.hid (fun W => pzClue_any s d0 d1 d2 d3 W h12.1 h12.2.1)
  have hn6 : n ≤ 6 := h12.2.2.1
  rw [hp] at K
  by_cases hcl : clueB s d0 d1 d2 d3 = true ∧ n ≠ 6
  rotate_left
  · have hB : acB s n f d0 d1 d2 d3 = false := by
      unfold acB
      rw [hp]
      cases h1 : clueB s d0 d1 d2 d3
      · rfl
      · have : ¬ n ≠ 6 := fun h => hcl ⟨h1, h⟩
        simp [this]
    rw [(ac_f hB).1, (ac_f hB).2, hB]
    cases h1 : clueB s d0 d1 d2 d3
    · rw [h1] at KC
      clear hB h1 hcl hp hR h12
      go_enter Try.func22, Try.ntmps22
      go_upto_region 1 with fail
      rw [HW.out, Nat.add_assoc]
      have p0 := HX.out.c0
      have p1 := HX.out.c1
      have pz := HX.out.z
      have q0 := HC.out.c0
      have q1 := HC.out.c1
      have q2 := HC.out.c2
      have q3 := HC.out.c3
      have qz := HC.out.z
      go_wp2_with fail
      refine (K.out _ HB.out).mono ?_; rintro e w1 ⟨rfl, hb1⟩
      have B1 := HB.out.trans (hb1.mono HB.out.size)
      have X1 := Lib.hid (pbx_below HX.out hb1)
      have C1 := Lib.hid (cl4_below HC.out hb1)
      have Q1 := Lib.hid (pbw_below HQ.out hb1)
      clear hb1 HX HC HQ HB K p0 p1 pz q0 q1 q2 q3 qz HW
      have x0 := X1.out.c0
      have x1 := X1.out.c1
      have xz := X1.out.z
      have y0 := C1.out.c0
      have y1 := C1.out.c1
      have y2 := C1.out.c2
      have y3 := C1.out.c3
      have yz := C1.out.z
      go_wp2_with fail
      refine (KC.out _).mono ?_; rintro e w2 ⟨rfl, hb2⟩
      have B2 := B1.trans (hb2.mono B1.size)
      have X2 := Lib.hid (pbx_below X1.out hb2)
      have C2 := Lib.hid (cl4_below C1.out hb2)
      have Q2 := Lib.hid (pbw_below Q1.out hb2)
      clear hb2 X1 C1 Q1 x0 x1 xz y0 y1 y2 y3 yz KC B1
      have r0 := Q2.out.c0
      have r1 := Q2.out.c1
      have rz := Q2.out.z
      have rf0 := Q2.out.fz 0
      have rf1 := Q2.out.fz 1
      have zz := B2.size
      go_wp2_with fail
      refine bodyPost_ret (v := .tuple #[.agg #[.int .i64 0, .slice none 0 0], .bool false]) (by simp [results, Try.results22, go_sem, rz, r0, r1]) rfl (retZ_nil ?_)
      repeat (first | with_reducible assumption | with_reducible exact Below.refl _ _ | with_reducible apply Below.drew | ((with_reducible refine Below.setCell ?_ ?_ _); rotate_left; (first | exact Nat.le_refl _ | omega | (simp <;> omega))) | ((with_reducible refine Below.alloc ?_ ?_ _); rotate_left; (first | omega | (simp <;> omega))))
    · obtain rfl : n = 6 := by
        rcases Nat.lt_or_ge n 6 with g | g
        · exact absurd ⟨h1, by omega⟩ hcl
        · omega
      rw [h1] at KC
      clear hB h1 hcl hp hR h12
      go_enter Try.func22, Try.ntmps22
      go_upto_region 1 with fail
      rw [HW.out, Nat.add_assoc]
      have p0 := HX.out.c0
      have p1 := HX.out.c1
      have pz := HX.out.z
      have q0 := HC.out.c0
      have q1 := HC.out.c1
      have q2 := HC.out.c2
      have q3 := HC.out.c3
      have qz := HC.out.z
      go_wp2_with fail
      refine (K.out _ HB.out).mono ?_; rintro e w1 ⟨rfl, hb1⟩
      have B1 := HB.out.trans (hb1.mono HB.out.size)
      have X1 := Lib.hid (pbx_below HX.out hb1)
      have C1 := Lib.hid (cl4_below HC.out hb1)
      have Q1 := Lib.hid (pbw_below HQ.out hb1)
      clear hb1 HX HC HQ HB K p0 p1 pz q0 q1 q2 q3 qz HW
      have x0 := X1.out.c0
      have x1 := X1.out.c1
      have xz := X1.out.z
      have y0 := C1.out.c0
      have y1 := C1.out.c1
      have y2 := C1.out.c2
      have y3 := C1.out.c3
      have yz := C1.out.z
      go_wp2_with fail
      refine (KC.out _).mono ?_; rintro e w2 ⟨rfl, hb2⟩
      have B2 := B1.trans (hb2.mono B1.size)
      have X2 := Lib.hid (pbx_below X1.out hb2)
      have C2 := Lib.hid (cl4_below C1.out hb2)
      have Q2 := Lib.hid (pbw_below Q1.out hb2)
      clear hb2 X1 C1 Q1 x0 x1 xz y0 y1 y2 y3 yz KC B1
      have x1 := X2.out.c1
      have xz := X2.out.z
      have r0 := Q2.out.c0
      have r1 := Q2.out.c1
      have rz := Q2.out.z
      have rf0 := Q2.out.fz 0
      have rf1 := Q2.out.fz 1
      have zz := B2.size
      go_wp2_with fail
      refine bodyPost_ret (v := .tuple #[.agg #[.int .i64 0, .slice none 0 0], .bool false]) (by simp [results, Try.results22, go_sem, rz, r0, r1]) rfl (retZ_nil ?_)
      repeat (first | with_reducible assumption | with_reducible exact Below.refl _ _ | with_reducible apply Below.drew | ((with_reducible refine Below.setCell ?_ ?_ _); rotate_left; (first | exact Nat.le_refl _ | omega | (simp <;> omega))) | ((with_reducible refine Below.alloc ?_ ?_ _); rotate_left; (first | omega | (simp <;> omega))))
  have hB : acB s n f d0 d1 d2 d3 = true := by unfold acB; rw [hp, hcl.1]; simp [hcl.2]
  rw [(ac_t hB).1, (ac_t hB).2, hB]
  rw [hcl.1] at KC
  have hn6i : ¬ (n : Int) = 6 := by have := hcl.2; omega
  obtain ⟨i0, hi0, hz0, hz1, hz2⟩ := info_parts clue_info
  have HI := Lib.hid (And.intro hi0 (And.intro hz0 (And.intro hz1 hz2)))
  have HO : Hid (∀ W, Below w.heap.size w W → ∀ j u, (fl4 f n)[j]? = some u → W.cell? ((⟨bk, off, none⟩ : Addr).add j) = some u) := Lib.hid (fun W hW => fl4_cells (fun i hi => by
    obtain ⟨b', o', e, hbz, hcell⟩ := hR (by omega)
    injection e with e
    injection e with e1 e2
    subst e1 e2
    exact ((bcell hW).1 _ _ hbz).trans (hcell i hi)))
  clear hi0 hz0 hz1 hz2 hB hcl hp h12 hR
  go_enter Try.func22, Try.ntmps22
  go_upto_region 1 with fail
  rw [HW.out, Nat.add_assoc]
  have p0 := HX.out.c0
  have p1 := HX.out.c1
  have pz := HX.out.z
  have q0 := HC.out.c0
  have q1 := HC.out.c1
  have q2 := HC.out.c2
  have q3 := HC.out.c3
  have qz := HC.out.z
  go_wp2_with fail
  refine (K.out _ HB.out).mono ?_; rintro e w1 ⟨rfl, hb1⟩
  have B1 := HB.out.trans (hb1.mono HB.out.size)
  have X1 := Lib.hid (pbx_below HX.out hb1)
  have C1 := Lib.hid (cl4_below HC.out hb1)
  have Q1 := Lib.hid (pbw_below HQ.out hb1)
  clear hb1 HX HC HQ HB K p0 p1 pz q0 q1 q2 q3 qz HW
  have x0 := X1.out.c0
  have x1 := X1.out.c1
  have xz := X1.out.z
  have y0 := C1.out.c0
  have y1 := C1.out.c1
  have y2 := C1.out.c2
  have y3 := C1.out.c3
  have yz := C1.out.z
  go_wp2_with fail
  refine (KC.out _).mono ?_; rintro e w2 ⟨rfl, hb2⟩
  have B2 := B1.trans (hb2.mono B1.size)
  have X2 := Lib.hid (pbx_below X1.out hb2)
  have C2 := Lib.hid (cl4_below C1.out hb2)
  have Q2 := Lib.hid (pbw_below Q1.out hb2)
  clear hb2 X1 C1 Q1 x0 x1 xz y0 y1 y2 y3 yz KC B1
  have hn6' : n + 1 ≤ 1048576 := by omega
  have x0 := X2.out.c0
  have x1 := X2.out.c1
  have xz := X2.out.z
  have y0 := C2.out.c0
  have y1 := C2.out.c1
  have y2 := C2.out.c2
  have y3 := C2.out.c3
  have yz := C2.out.z
  go_upto_region 3 with fail
  go_region_held3 (fun W' => W'.cell? ⟨w.heap.size, 0, none⟩ = some (.int .i64 s) ∧ W'.cell? ⟨w.heap.size, 1, none⟩ = some (.slice (some ⟨bk, off, none⟩) n c) ∧ W'.cell? ⟨w.heap.size + 1, 0, none⟩ = some (.int .i64 d0) ∧ W'.cell? ⟨w.heap.size + 1, 1, none⟩ = some (.int .i64 d1) ∧ W'.cell? ⟨w.heap.size + 1, 2, none⟩ = some (.int .i64 d2) ∧ W'.cell? ⟨w.heap.size + 1, 3, none⟩ = some (.int .i64 d3)) (go_keep)
    (first
      | (refine ac_second (W4 := w2) HI hn6 hrow1 (by repeat (first | with_reducible assumption | with_reducible exact Below.refl _ _ | with_reducible apply Below.drew | ((with_reducible refine Below.setCell ?_ ?_ _); rotate_left; (first | exact Nat.le_refl _ | omega | (simp <;> omega))) | ((with_reducible refine Below.alloc ?_ ?_ _); rotate_left; (first | omega | (simp <;> omega))))) hg1.out.size rfl rfl rfl rfl (by first | exact cl4_below c7.out (by repeat (first | with_reducible assumption | with_reducible exact Below.refl _ _ | with_reducible apply Below.drew | ((with_reducible refine Below.setCell ?_ ?_ _); rotate_left; (first | exact Nat.le_refl _ | omega | (simp <;> omega))) | ((with_reducible refine Below.alloc ?_ ?_ _); rotate_left; (first | omega | (simp <;> omega))))) | ((repeat (first | ((with_reducible (refine cl4_new _ _ _ _ _ _ ?_)); (focus (simp; done))) | with_reducible apply cl4_drew | with_reducible refine cl4_alloc ?_ _)); done)) ?_; intro gg cap w' hrow hB8; have hg7 := hg1.out.trans hB8.out; have B7 := B2.trans (hg7.mono B2.size); have Q7 := Lib.hid (pbw_below Q2.out hg7); have X7 := Lib.hid (pbx_below X2.out hg7); have C7 := Lib.hid (cl4_below C2.out hg7); have u0 := X7.out.c0; have u1 := X7.out.c1; have u2 := C7.out.c0; have u3 := C7.out.c1; have u4 := C7.out.c2; have u5 := C7.out.c3; have k0 := Q7.out.c0; have k1 := Q7.out.c1; have kz := Q7.out.z; have kf0 := Q7.out.fz 0; have kf1 := Q7.out.fz 1)
      | (refine ac_first (W4 := w2) HI hn6 HO (by repeat (first | with_reducible assumption | with_reducible exact Below.refl _ _ | with_reducible apply Below.drew | ((with_reducible refine Below.setCell ?_ ?_ _); rotate_left; (first | exact Nat.le_refl _ | omega | (simp <;> omega))) | ((with_reducible refine Below.alloc ?_ ?_ _); rotate_left; (first | omega | (simp <;> omega))))) rfl rfl rfl rfl (by repeat (first | with_reducible assumption | with_reducible exact Below.refl _ _ | with_reducible apply Below.drew | ((with_reducible refine Below.setCell ?_ ?_ _); rotate_left; (first | exact Nat.le_refl _ | omega | (simp <;> omega))) | ((with_reducible refine Below.alloc ?_ ?_ _); rotate_left; (first | omega | (simp <;> omega))))) (by first | exact Nat.le_refl _ | (simp; done) | omega) (by first | exact hh_new (by simp) | exact (heap_alloc_old _ _ (by simp)).trans (hh_new (by simp))) ?_; intro v1 w1' hrow1 hgr1 hg1; (first | (refine (fun (c7' : Cl4 w1' (w2.heap.size + 1) d0 d1 d2 d3) => ?_) ?_; rotate_left; (focus (refine Cl4.grown ?_ hgr1.out ?_; rotate_left; (focus (simp; done)); (repeat (first | ((with_reducible (refine cl4_new _ _ _ _ _ _ ?_)); (focus (simp; done))) | with_reducible apply cl4_drew | with_reducible refine cl4_alloc ?_ _)); done)); have c7 := Lib.hid c7') | (refine (fun (c7' : Cl4 w1' (w2.heap.size) d0 d1 d2 d3) => ?_) ?_; rotate_left; (focus (refine Cl4.grown ?_ hgr1.out ?_; rotate_left; (focus (simp; done)); (repeat (first | ((with_reducible (refine cl4_new _ _ _ _ _ _ ?_)); (focus (simp; done))) | with_reducible apply cl4_drew | with_reducible refine cl4_alloc ?_ _)); done)); have c7 := Lib.hid c7') | skip); have X5 := Lib.hid (pbx_below X2.out hg1.out); have C5 := Lib.hid (cl4_below C2.out hg1.out); have e0 := X5.out.c0; have e1 := X5.out.c1; have ez := X5.out.z; have e2 := C5.out.c0; have e3 := C5.out.c1; have e4 := C5.out.c2; have e5 := C5.out.c3; have ez2 := C5.out.z))
  all_goals
    have hz4 : w.heap.size + 2 < w2.heap.size := Q2.out.z
    obtain ⟨W8, hW8⟩ : ∃ W8, W8 = (w'.setCell ⟨w.heap.size + 2, 0, none⟩ (.int .i64 s)).setCell ⟨w.heap.size + 2, 1, none⟩ (.slice (some ⟨gg, 0, none⟩) (n + 1) cap) := ⟨_, rfl⟩
    have R8 : Hid (RowC W8 w.heap.size (.slice (some ⟨gg, 0, none⟩) (n + 1) cap) (n + 1) (acF f n d0 d1 d2 d3)) := Lib.hid (by
      rw [hW8]
      exact rowC_base (rowC_set (rowC_set (rowC_base hrow.out (show w.heap.size + 3 ≤ _ by omega)) (a := ⟨w.heap.size + 2, 0, none⟩) (by simp) (.int .i64 s)) (a := ⟨w.heap.size + 2, 1, none⟩) (by simp) _) (by omega))
    have B8 : Below w.heap.size w W8 := by
      rw [hW8]
      exact (B7.setCell (by simp) _).setCell (by simp) _
    have Q8 : Pbw W8 (w.heap.size + 2) (.int .i64 s) (.slice (some ⟨gg, 0, none⟩) (n + 1) cap) := by
      rw [hW8]
      exact ⟨by simp; omega, by go_simp, by go_simp, fun o => by simpa using Q7.out.fz o⟩
    rw [← hW8]
    clear hW8 hrow hB8 hg7 B7 Q7 X7 C7 u0 u1 u2 u3 u4 u5 k0 k1 kz kf0 kf1 x0 x1 xz y0 y1 y2 y3 yz X2 C2 Q2 HO B2 hz4 hgr1 hg1 hrow1 X5 C5 e0 e1 e2 e3 e4 e5 ez ez2
    have r0 := Q8.c0
    have r1 := Q8.c1
    have rz := Q8.z
    have rf0 := Q8.fz 0
    have rf1 := Q8.fz 1
    clear Q8
    go_wp2_with fail
    exact bodyPost_ret (v := .tuple #[.agg #[.int .i64 s, .slice (some ⟨gg, 0, none⟩) (n + 1) cap], .bool true]) (by simp [results, Try.results22, go_sem, rz, r0, r1]) rfl (retZ_row R8.out (Below.refl _ _) B8)
end Go.Proofs.Ytacabmbajadbgaa
/- a clue, an argument of a law, opened -/
namespace Go.Proofs.Ytacabmbajadbgaa
open Go.ChangeShapes Go.WideShapes Go.ChangeAt Go.RowKit Go.Joins
set_option linter.unusedVariables false
set_option linter.unusedSimpArgs false
set_option maxRecDepth 4000
open Go.Deep
section
variable {H : Type} {enc : TypeId × Value → H}
theorem array4 {cs : Array Value} (h : cs.size = 4) : ∃ a b c d, cs = #[a, b, c, d] := by
  obtain ⟨l⟩ := cs
  match l, h with
  | [a, b, c, d], _ => exact ⟨a, b, c, d, rfl⟩
theorem read_clue {w : World} {base : Nat} {spare : Nat → Bool} {held : Bool} {fuel : Nat} {c0 c1 c2 c3 : Value} {x : DataW H × List MemPlace}
    (h : DataW.trod enc Try.prog w base spare held fuel 36 [c0, c1, c2, c3] = some x) : ∃ a b c d : Int, c0 = .int .i64 a ∧ c1 = .int .i64 b ∧ c2 = .int .i64 c ∧ c3 = .int .i64 d := by
  obtain ⟨xs, n, _, _, _, hlen, hg⟩ := DataW.trod_struct Try.underlying36 h
  match xs, hlen with
  | [y0, y1, y2, y3], _ =>
    have h0 := hg 0 _ rfl
    have h1 := hg 1 _ rfl
    have h2 := hg 2 _ rfl
    have h3 := hg 3 _ rfl
    have hC : Try.prog.cellsOf 3 = 1 := by kernel_rfl
    simp [hC] at h0 h1 h2 h3
    obtain ⟨a, e0, _, _⟩ := DataW.trod_int Try.underlying3 h0
    obtain ⟨b, e1, _, _⟩ := DataW.trod_int Try.underlying3 h1
    obtain ⟨c, e2, _, _⟩ := DataW.trod_int Try.underlying3 h2
    obtain ⟨d, e3, _, _⟩ := DataW.trod_int Try.underlying3 h3
    simp at e0 e1 e2 e3
    exact ⟨a, b, c, d, e0, e1, e2, e3⟩
theorem open_clue {w : World} {r : Reach} {b0 base : Nat} {spare : Nat → Bool} {v : Value} {d : DataW H} {p : List MemPlace} (hv : Value.okWide Try.prog w r b0 36 v)
    (h : DataW.Trod enc Try.prog w base spare true 36 v d p) : ∃ k a b c : Int, v = .agg #[.int .i64 k, .int .i64 a, .int .i64 b, .int .i64 c] := by
  obtain ⟨cs, rfl, hsz⟩ := okWide_struct Try.underlying36 hv
  obtain ⟨c0, c1, c2, c3, rfl⟩ := array4 (hsz.trans (by kernel_rfl))
  obtain ⟨fuel, hf⟩ := h
  obtain ⟨a, b, c, d, rfl, rfl, rfl, rfl⟩ := read_clue hf
  exact ⟨a, b, c, d, rfl⟩
/-- clues that come in, from a trodden slice -/
theorem clues_of_trod {w : World} {base : Nat} {spare : Nat → Bool} {fuel : Nat} {v : Value} {x : DataW H × List MemPlace}
    (hf : DataW.trod enc Try.prog w base spare true fuel 22 [v] = some x) : ∃ (A : Option Addr) (c n : Nat) (f : Nat → Int), v = .slice A n c ∧ n ≤ c ∧ c ≤ maxLen ∧ RdI w w.heap.size A (n * 4) f := by
  rcases open_slice Try.underlying22 hf with ⟨hcs, _⟩ | ⟨a, len, cap, m, n, D, Pl, hcs, _, hl, hm, hmm, _, hi⟩
  · obtain rfl : v = .slice none 0 0 := by simpa using hcs
    exact ⟨none, 0, 0, fun _ => 0, rfl, by simp, by simp, fun h => absurd h (by simp)⟩
  · obtain rfl : v = .slice (some a) len cap := by simpa using hcs
    have hml : len ≤ m := by rw [hmm]; split <;> omega
    have hC : Try.prog.cellsOf 36 = 4 := by kernel_rfl
    have hsn : 0 < len → a.spot = none := fun h => by
      obtain ⟨cs', hc, ht⟩ := hi 0 (by omega)
      rw [hC] at hc
      obtain ⟨_, hcl, hat⟩ := World.cells?_some hc
      have hsp := World.cell?_spot ((hat 0 (by omega)).trans (List.getElem?_eq_getElem (show 0 < cs'.length by omega)))
      simpa [Addr.add] using hsp
    have key : ∀ i, ∃ z : Int, i < len * 4 → w.cell? (a.add i) = some (.int .i64 z) := fun i => by
      by_cases hlt : i < len * 4
      · obtain ⟨cs', hc, ht⟩ := hi (i / 4) (by omega)
        rw [hC] at hc
        obtain ⟨_, hcl, hat⟩ := World.cells?_some hc
        match cs', hcl with
        | [c0, c1, c2, c3], _ =>
          obtain ⟨x0, x1, x2, x3, rfl, rfl, rfl, rfl⟩ := read_clue ht
          have hlt4 : i % 4 < 4 := Nat.mod_lt _ (by omega)
          have h0 := hat (i % 4) hlt4
          have ea : a.spot = none → (a.add (i / 4 * 4)).add (i % 4) = a.add i := fun hs => by
            obtain ⟨b, off, spot⟩ := a
            simp only at hs
            subst hs
            rw [add_plain, add_plain, add_plain, show off + i / 4 * 4 + i % 4 = off + i by omega]
          have h4 : i % 4 = 0 ∨ i % 4 = 1 ∨ i % 4 = 2 ∨ i % 4 = 3 := by omega
          have pick : ∀ z : Int, w.cell? ((a.add (i / 4 * 4)).add (i % 4)) = some (.int .i64 z) → w.cell? (a.add i) = some (.int .i64 z) := fun z hz => by
            have e1 := ea (hsn (by omega))
            rw [e1] at hz
            exact hz
          rcases h4 with h | h | h | h
          · exact ⟨x0, fun _ => pick x0 (by rw [h0, h]; rfl)⟩
          · exact ⟨x1, fun _ => pick x1 (by rw [h0, h]; rfl)⟩
          · exact ⟨x2, fun _ => pick x2 (by rw [h0, h]; rfl)⟩
          · exact ⟨x3, fun _ => pick x3 (by rw [h0, h]; rfl)⟩
      · exact ⟨0, fun h => absurd h hlt⟩
    obtain ⟨g, hg⟩ : ∃ g : Nat → Int, ∀ i, i < len * 4 → w.cell? (a.add i) = some (.int .i64 (g i)) := ⟨fun i => Classical.choose (key i), fun i => Classical.choose_spec (key i)⟩
    refine ⟨some a, cap, len, g, rfl, hl, hm, fun hpos => ?_⟩
    have k0 := hg 0 hpos
    obtain ⟨b, off, spot⟩ := a
    have hspot : spot = none := by simpa [Addr.add] using World.cell?_spot k0
    subst hspot
    refine ⟨b, off, rfl, ?_, fun i hi => ?_⟩
    · have := lt_of_cell k0
      rw [add_plain] at this
      exact this
    · have hs := hg i hi
      rw [add_plain] at hs
      exact hs
theorem open_puzzle {w : World} {r : Reach} {b0 base : Nat} {spare : Nat → Bool} {v : Value} {d : DataW H} {p : List MemPlace} (hv : Value.okWide Try.prog w r b0 24 v)
    (h : DataW.Trod enc Try.prog w base spare true 24 v d p) : ∃ (s : Int) (A : Option Addr) (c n : Nat) (f : Nat → Int), v = .agg #[.int .i64 s, .slice A n c] ∧ n ≤ c ∧ c ≤ maxLen ∧ RdI w w.heap.size A (n * 4) f := by
  obtain ⟨cs, rfl, hsz⟩ := okWide_struct Try.underlying24 hv
  have hsz2 : cs.size = 2 := hsz.trans (by kernel_rfl)
  obtain ⟨fuel, hf⟩ := h
  obtain ⟨xs, n, _, _, hl, hlen, hg⟩ := DataW.trod_struct Try.underlying24 hf
  obtain ⟨k0, k1, rfl⟩ : ∃ k0 k1, cs = #[k0, k1] := by
    obtain ⟨l⟩ := cs
    match l, hsz2 with
    | [a, b], _ => exact ⟨a, b, rfl⟩
  match xs, hlen with
  | [y0, y1], _ =>
    have h0 := hg 0 _ rfl
    have h1 := hg 1 _ rfl
    have hC : Try.prog.cellsOf 3 = 1 := by kernel_rfl
    have hD : Try.prog.cellsOf 22 = 1 := by kernel_rfl
    simp [Value.cells, hC, hD] at h0 h1
    obtain ⟨s, e0, _, _⟩ := DataW.trod_int Try.underlying3 h0
    simp at e0
    subst e0
    obtain ⟨A, c, n, f, rfl, q1, q2, q3⟩ := clues_of_trod h1
    exact ⟨s, A, c, n, f, rfl, q1, q2, q3⟩
end
end Go.Proofs.Ytacabmbajadbgaa
/- contract: AddClue: what its law's drawn regions need -/
namespace Go.Proofs.Ytacabmbajadbgaa
open Go.ChangeShapes Go.WideShapes Go.ChangeAt Go.RowKit Go.Joins
set_option linter.unusedVariables false
set_option linter.unusedSimpArgs false
set_option maxRecDepth 4000
theorem pbw_drew {W : World} {b : Nat} {u v : Value} (h : Pbw W b u v) : Pbw W.drew b u v := pbw_below h ((Below.refl _ _).drew)
theorem rwi_set2 {W : World} {lo B : Nat} {A : Option Addr} {n : Nat} {f : Nat → Int} {g : Nat} {o1 o2 : Nat} {u v : Value} (h : RwI W lo B A n f) (hg : g < lo ∨ B ≤ g) : RwI ((W.setCell ⟨g, o1, none⟩ u).setCell ⟨g, o2, none⟩ v) lo B A n f :=
  rwi_block h (fun k h1 h2 => (heap_set_ne _ ⟨g, o2, none⟩ k v (by simp; omega)).trans (heap_set_ne _ ⟨g, o1, none⟩ k u (by simp; omega)))
theorem pbx_of {W : World} {g : Nat} {s : Int} {A : Option Addr} {n c : Nat} (h : Pbw W g (.int .i64 s) (.slice A n c)) : Pbx W g s A n c := ⟨h.z, h.c0, h.c1⟩
/-- what the piece gives: a box of the answer, and the answer's row -/
def AcR (w0 : World) (S : Int) (p : Nat) (F : Nat → Int) (gb : Bool) (q r : Value) (wx : World) : Prop :=
  ∃ (bS : Nat) (AS : Option Addr) (cS lS uS : Nat), q = .pointer (some ⟨bS, 0, none⟩) ∧ r = .bool gb ∧ Below w0.heap.size w0 wx ∧ w0.heap.size ≤ bS ∧ w0.heap.size ≤ lS ∧ lS ≤ uS ∧ uS ≤ wx.heap.size ∧ (bS < lS ∨ uS ≤ bS) ∧ Hid (Pbx wx bS S AS p cS) ∧ Hid (RwI wx lS uS AS (p * 4) F)
theorem acR_old {w0 wB : World} {S : Int} {p : Nat} {F : Nat → Int} {gb : Bool} {q : Nat} {u v : Value} {A : Option Addr} {c lS : Nat} (k : Below w0.heap.size w0 wB) (h1 : w0.heap.size ≤ lS) (h2 : lS ≤ wB.heap.size) (h3 : RwI wB lS wB.heap.size A (p * 4) F) (cb : Pbw wB q u v) (hq : w0.heap.size ≤ q) (hl : q < lS) :
    AcR w0 S p F gb (.pointer (some ⟨q, 0, none⟩)) (.bool gb) ((wB.setCell ⟨q, 0, none⟩ (.int .i64 S)).setCell ⟨q, 1, none⟩ (.slice A p c)) :=
  ⟨q, A, c, lS, wB.heap.size, rfl, rfl, (k.setCell hq _).setCell hq _, hq, h1, h2, by simp [World.setCell], .inl hl, Lib.hid (pbx_of (pbw_store cb _ _)), Lib.hid (rwi_set2 h3 (.inl hl))⟩
theorem acR_new {w0 wB : World} {S : Int} {p : Nat} {F : Nat → Int} {gb : Bool} {A : Option Addr} {c lS : Nat} {T : TypeId} (k : Below w0.heap.size w0 wB) (h1 : w0.heap.size ≤ lS) (h2 : lS ≤ wB.heap.size) (h3 : RwI wB lS wB.heap.size A (p * 4) F) :
    AcR w0 S p F gb (.pointer (some ⟨wB.heap.size, 0, none⟩)) (.bool gb) (((wB.alloc (.cells #[.int .i64 0, .slice none 0 0] T)).setCell ⟨wB.heap.size, 0, none⟩ (.int .i64 S)).setCell ⟨wB.heap.size, 1, none⟩ (.slice A p c)) := by
  have hb : Below wB.heap.size wB (wB.alloc (.cells #[.int .i64 0, .slice none 0 0] T)) := Below.alloc (Below.refl _ _) (Nat.le_refl _) _
  have h3' := rwi_below h3 hb (Nat.le_refl _)
  exact ⟨wB.heap.size, A, c, lS, wB.heap.size, rfl, rfl, ((Below.alloc k k.size _).setCell k.size _).setCell k.size _, k.size, h1, h2, by simp [World.setCell], .inr (Nat.le_refl _), Lib.hid (pbx_of (pbw_store (pbw_new wB _ _ T) _ _)), Lib.hid (rwi_set2 h3' (.inr (Nat.le_refl _)))⟩
theorem acR_new2 {w0 wB : World} {S : Int} {p : Nat} {F : Nat → Int} {gb : Bool} {A : Option Addr} {c lS : Nat} {T : TypeId} (k : Below w0.heap.size w0 wB) (h1 : w0.heap.size ≤ lS) (h2 : lS ≤ wB.heap.size) (h3 : RwI wB lS wB.heap.size A (p * 4) F) :
    AcR w0 S p F gb (.pointer (some ⟨wB.heap.size, 0, none⟩)) (.bool gb) (wB.alloc (.cells #[.int .i64 S, .slice A p c] T)) := by
  have hb : Below wB.heap.size wB (wB.alloc (.cells #[.int .i64 S, .slice A p c] T)) := Below.alloc (Below.refl _ _) (Nat.le_refl _) _
  exact ⟨wB.heap.size, A, c, lS, wB.heap.size, rfl, rfl, Below.alloc k k.size _, k.size, h1, h2, by simp, .inr (Nat.le_refl _), Lib.hid (pbx_new wB _ _ _ _ _), Lib.hid (rwi_below h3 hb (Nat.le_refl _))⟩
end Go.Proofs.Ytacabmbajadbgaa

