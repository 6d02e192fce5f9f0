/- contracts: HarderPuzzle, the model; slices.Clone of clues -/
import Derived.Test.YtacabmbajadbgaaPw7
namespace Go.Proofs.Ytacabmbajadbgaa
open Go.ChangeShapes Go.WideShapes Go.ChangeAt Go.RowKit Go.Joins
set_option linter.unusedVariables false
set_option linter.unusedSimpArgs false
set_option maxRecDepth 4000
set_option maxHeartbeats 2000000 in
theorem cloneC_any (bk off c n : Nat) (f : Nat → Int) (w : World) (hn : n ≤ 6) (hR : RdI w w.heap.size (some ⟨bk, off, none⟩) (n * 4) f) :
    Calls Try.prog 72 #[.slice (some ⟨bk, off, none⟩) n c] w fun e w' => (∃ v, e = .returned v ∧ RowC w' w.heap.size v n f) ∧ Below w.heap.size w w' := by
  obtain ⟨i0, hi0, hz0, hz1, hz2⟩ := clue_parts
  have HI := Lib.hid (And.intro hi0 (And.intro hz0 (And.intro hz1 hz2)))
  have HC1 : Hid (∀ W, Below w.heap.size w W → ∀ j u, (fl4 f n)[j]? = some u → W.cell? ((⟨bk, off, none⟩ : Addr).add j) = some u) := Lib.hid (fun W hW => fl4_cells (fun i hi => by
    obtain ⟨b', o', e, hb, hcell⟩ := hR (by omega)
    injection e with e
    injection e with e1 e2
    subst e1 e2
    exact (hW.cell (p := ⟨bk, off + i, none⟩) hb).trans (hcell i hi)))
  clear hR hi0 hz0 hz1 hz2
  go_enter Try.func72, Try.ntmps72
  have hq : ∀ W, Sem.run Try.prog (binOp BinOp.eql 26 (.slice (some ⟨bk, off, none⟩) n c) (.slice none 0 0)) W = .ok (.bool false) W := fun W => by
    first
      | rfl
      | simp [binOp, go_sem, run_underlying Try.underlying26]
      | skip
  have own1 : (w.alloc (.cells #[] 38)).ownsRow w.heap.size 38 4 (.slice (some ⟨w.heap.size, 0, none⟩) 0 0) 0 [] := World.ownsRow_lit w #[] 0 (Nat.le_refl _) (by decide) rfl
  have B1 := Below.alloc (Below.refl w.heap.size w) (Nat.le_refl _) (.cells #[] 38)
  go_wp2_with (at_builtin; go_loud (refine wpList_append_own _ rfl (.tmp 5) (.tmp 6) 26 rfl w.heap.size 38 i0 (.agg #[.int .i64 0, .int .i64 0, .int .i64 0, .int .i64 0]) 4 32 Try.underlying26 HI.out.1 HI.out.2.1 HI.out.2.2.1 HI.out.2.2.2 rfl (by decide) _ 0 [] rfl own1 ⟨bk, off, none⟩ n c (fl4 f n) rfl (fl4_len _ _) (HC1.out _ B1) (fl4_one _ _) (by unfold maxLen; omega) (by omega) B1.size ?_))
  intro v2 w2 own2 hgr _
  have B2 := B1.grown hgr B1.size (fun g hg => (World.ownsRow.lt own1 g hg).1)
  go_wp2_with fail
  go_ret
  exact ⟨⟨_, rfl, by unfold RowC; rw [show n = 0 + n by omega]; simpa using own2⟩, B2⟩
/-- clues are taken out, from number k on, each if there is one solution still -/
noncomputable def hdGo (ns : Nat) : Nat → Nat → (Nat → Int) → Nat → Nat × (Nat → Int)
  | 0, n, f, _ => (n, f)
  | d + 1, n, f, k => if (solK (woF f k) (n - 1) (ns + 1) ((ns + 1) * (ns + 1))).length = 1 then hdGo ns d (n - 1) (woF f k) k else hdGo ns d n f (k + 1)
theorem hd_t {ns n k : Nat} {f : Nat → Int} (hk : k < n) (h : (solK (woF f k) (n - 1) (ns + 1) ((ns + 1) * (ns + 1))).length = 1) : hdGo ns (n - 1 - k) (n - 1) (woF f k) k = hdGo ns (n - k) n f k := by
  rw [show n - k = (n - 1 - k) + 1 by omega, hdGo, if_pos h]
theorem hd_f {ns n k : Nat} {f : Nat → Int} (hk : k < n) (h : ¬ (solK (woF f k) (n - 1) (ns + 1) ((ns + 1) * (ns + 1))).length = 1) : hdGo ns (n - (k + 1)) n f (k + 1) = hdGo ns (n - k) n f k := by
  rw [show n - k = (n - (k + 1)) + 1 by omega, hdGo, if_neg h]
theorem hd_len (ns : Nat) : ∀ d n f k, (hdGo ns d n f k).1 ≤ n
  | 0, _, _, _ => Nat.le_refl _
  | d + 1, n, f, k => by
    rw [hdGo]
    split
    · have := hd_len ns d (n - 1) (woF f k) k; omega
    · exact hd_len ns d n f (k + 1)
noncomputable def hrB (s : Int) (n : Nat) (f : Nat → Int) : Bool := puzB s n f && decide ((solP s n f).length = 1)
noncomputable def hrS (s : Int) (n : Nat) (f : Nat → Int) : Int := if hrB s n f = true then s else 0
noncomputable def hrN (s : Int) (n : Nat) (f : Nat → Int) : Nat := if hrB s n f = true then (hdGo s.toNat n n f 0).1 else 0
noncomputable def hrF (s : Int) (n : Nat) (f : Nat → Int) : Nat → Int := (hdGo s.toNat n n f 0).2
theorem hr_t {ns n : Nat} {f : Nat → Int} (h : hrB (ns : Int) n f = true) : hrS (ns : Int) n f = (ns : Int) ∧ hrN (ns : Int) n f = (hdGo ns n n f 0).1 ∧ hrF (ns : Int) n f = (hdGo ns n n f 0).2 := by
  unfold hrS hrN hrF
  rw [if_pos h, if_pos h]
  exact ⟨rfl, rfl, rfl⟩
theorem hr_f {s : Int} {n : Nat} {f : Nat → Int} (h : hrB s n f = false) : hrS s n f = 0 ∧ hrN s n f = 0 := by
  unfold hrS hrN
  rw [h]
  exact ⟨rfl, rfl⟩
theorem hrN_len (s : Int) (n : Nat) (f : Nat → Int) (hn : n ≤ 1048576) : hrN s n f ≤ 1048576 := by
  unfold hrN
  split
  · exact Nat.le_trans (hd_len _ _ _ _ _) hn
  · omega
theorem own_val' {w : World} {base : Nat} {e : TypeId} {size : Nat} {v : Value} {n : Nat} {xs : List Value} (h : w.ownsRow base e size v n xs) :
    (v = .slice none 0 0 ∧ n = 0) ∨ ∃ g cap, v = .slice (some ⟨g, 0, none⟩) n cap ∧ base ≤ g := by
  rcases h.2 with h2 | ⟨g, cap, cur, hv, hg, _⟩
  · exact .inl h2
  · exact .inr ⟨g, cap, hv, hg⟩
theorem rowC_at {w : World} {base : Nat} {v : Value} {n : Nat} {f : Nat → Int} (h : RowC w base v n f) (h0 : 0 < n) : ∃ b c, v = .slice (some ⟨b, 0, none⟩) n c ∧ n ≤ c ∧ c ≤ 9223372036854775807 ∧ base ≤ b ∧ RdI w w.heap.size (some ⟨b, 0, none⟩) (n * 4) f := by
  have h3 := h
  rcases own_val' h with ⟨hv, hn⟩ | ⟨g, cap, hv, hg⟩
  · omega
  · obtain ⟨A, c, e, q1, q2, q3⟩ := rowC_rwi h3
    rw [hv] at e
    injection e with e1 e2 e3
    subst e1 e3
    exact ⟨g, cap, hv, q1, q2, hg, rdi_of_rw q3 (Nat.le_refl _)⟩
set_option maxHeartbeats 8000000 in
theorem specHarderPuzzle_any (s : Int) (bk off c n : Nat) (f : Nat → Int) (w : World) (hm : n ≤ 1048576) (hnc : n ≤ c) (hc : c ≤ 9223372036854775807) (hR : RdI w w.heap.size (some ⟨bk, off, none⟩) (n * 4) f) :
    Calls Try.prog 34 #[.agg #[.int .i64 s, .slice (some ⟨bk, off, none⟩) n c]] w (RetZ w (hrS s n f) (hrN s n f) (hrF s n f) (hrB s n f)) := by
  have K := Lib.hid (fun W (hb : Below w.heap.size w W) => pzGood_any s (some ⟨bk, off, none⟩) c n f W hm (rdi_below hR hb (Nat.le_refl _)))
  obtain ⟨W0, hW, B0, z, c0, c1, r0, r1, fr⟩ := pbx_two w s (some ⟨bk, off, none⟩) n c 28 28
  have P0 := Lib.hid (show Pbx W0 w.heap.size s (some ⟨bk, off, none⟩) n c from ⟨by omega, c0, c1⟩)
  have Q0 := Lib.hid (show Pbw W0 (w.heap.size + 1) (.int .i64 0) (.slice none 0 0) from ⟨z, r0, r1, fr⟩)
  have HB := Lib.hid B0
  clear z c0 c1 r0 r1 fr B0
  cases hp : puzB s n f
  · have hd : hrB s n f = false := by unfold hrB; rw [hp]; rfl
    rw [(hr_f hd).1, (hr_f hd).2, hd]
    rw [hp] at K
    clear hp hR hd
    go_enter Try.func34, Try.ntmps34
    go_wp2_with fail
    rw [← hW]
    clear hW
    have p0 := P0.out.c0
    have p1 := P0.out.c1
    have pz := P0.out.z
    go_wp2_with fail
    refine (K.out _ HB.out).mono ?_; rintro e w1 ⟨rfl, hb1⟩
    have B1 := HB.out.trans (hb1.mono HB.out.size)
    have Q1 := pbw_below Q0.out hb1
    have r0 := Q1.c0
    have r1 := Q1.c1
    have rz := Q1.z
    have rf0 := Q1.fz 0
    have rf1 := Q1.fz 1
    have zz := B1.size
    clear hb1 P0 Q0 HB K p0 p1 pz Q1
    go_wp2_with fail
    refine bodyPost_ret (v := .tuple #[.agg #[.int .i64 0, .slice none 0 0], .bool false]) (by simp [results, Try.results34, go_sem, rz, r0, r1]) rfl (retZ_nil ?_)
    repeat (first | with_reducible assumption | with_reducible exact Below.refl _ _ | with_reducible apply Below.drew | ((with_reducible refine Below.setCell ?_ ?_ _); rotate_left; (first | exact Nat.le_refl _ | omega | (simp <;> omega))) | ((with_reducible refine Below.alloc ?_ ?_ _); rotate_left; (first | omega | (simp <;> omega))))
  · obtain ⟨ns, rfl⟩ := nat_of hp
    have h12 := puzB_t hp
    have hn6 : n ≤ 6 := h12.2.2.1
    rw [hp] at K
    have KV := Lib.hid (fun W (hb : Below w.heap.size w W) => pzSolved_any ns (some ⟨bk, off, none⟩) c n f W hp (rdi_below hR hb (Nat.le_refl _)))
    cases hsv : decide ((solP (ns : Int) n f).length = 1)
    · have hd : hrB (ns : Int) n f = false := by unfold hrB; rw [hp, hsv]; rfl
      rw [(hr_f hd).1, (hr_f hd).2, hd]
      rw [hsv] at KV
      clear hp hR hd hsv h12
      go_enter Try.func34, Try.ntmps34
      go_wp2_with fail
      rw [← hW]
      clear hW
      have p0 := P0.out.c0
      have p1 := P0.out.c1
      have pz := P0.out.z
      go_wp2_with fail
      refine (K.out _ HB.out).mono ?_; rintro e w1 ⟨rfl, hb1⟩
      have B1 := HB.out.trans (hb1.mono HB.out.size)
      have Q1 := pbw_below Q0.out hb1
      have P1 := pbx_below P0.out hb1
      clear hb1 P0 Q0 HB K p0 p1 pz
      have p0 := P1.c0
      have p1 := P1.c1
      have pz := P1.z
      go_wp2_with fail
      refine (KV.out _ B1).mono ?_; rintro e w2 ⟨rfl, hb2⟩
      have B2 := B1.trans (hb2.mono B1.size)
      have Q2 := pbw_below Q1 hb2
      have r0 := Q2.c0
      have r1 := Q2.c1
      have rz := Q2.z
      have rf0 := Q2.fz 0
      have rf1 := Q2.fz 1
      have zz := B2.size
      clear hb2 P1 Q1 Q2 B1 KV p0 p1 pz
      go_wp2_with fail
      refine bodyPost_ret (v := .tuple #[.agg #[.int .i64 0, .slice none 0 0], .bool false]) (by simp [results, Try.results34, go_sem, rz, r0, r1]) rfl (retZ_nil ?_)
      repeat (first | with_reducible assumption | with_reducible exact Below.refl _ _ | with_reducible apply Below.drew | ((with_reducible refine Below.setCell ?_ ?_ _); rotate_left; (first | exact Nat.le_refl _ | omega | (simp <;> omega))) | ((with_reducible refine Below.alloc ?_ ?_ _); rotate_left; (first | omega | (simp <;> omega))))
    · have hd : hrB (ns : Int) n f = true := by unfold hrB; rw [hp, hsv]; rfl
      rw [(hr_t hd).1, (hr_t hd).2.1, (hr_t hd).2.2, hd]
      rw [hsv] at KV
      obtain ⟨i0, hi0, hz0, hz1, hz2⟩ := clue_parts
      have HI := Lib.hid (And.intro hi0 (And.intro hz0 (And.intro hz1 hz2)))
      have HC1 : Hid (∀ W, Below w.heap.size w W → ∀ j u, (fl4 f n)[j]? = some u → W.cell? ((⟨bk, off, none⟩ : Addr).add j) = some u) := Lib.hid (fun W hW => fl4_cells (fun i hi => by
        obtain ⟨b', o', e, hb, hcell⟩ := hR (by omega)
        injection e with e
        injection e with e1 e2
        subst e1 e2
        exact (hW.cell (p := ⟨bk, off + i, none⟩) hb).trans (hcell i hi)))
      obtain ⟨R, hRR⟩ : ∃ R, R = hdGo ns n n f 0 := ⟨_, rfl⟩
      have HR0 := Lib.hid hRR
      have HP0 := Lib.hid hp
      rw [← hRR]
      clear hp hR hd hsv h12 hi0 hz0 hz1 hz2 hRR
      go_enter Try.func34, Try.ntmps34
      go_wp2_with fail
      rw [← hW]
      clear hW
      have p0 := P0.out.c0
      have p1 := P0.out.c1
      have pz := P0.out.z
      go_wp2_with fail
      refine (K.out _ HB.out).mono ?_; rintro e w1 ⟨rfl, hb1⟩
      have B1 := HB.out.trans (hb1.mono HB.out.size)
      have Q1 := Lib.hid (pbw_below Q0.out hb1)
      have P1 := Lib.hid (pbx_below P0.out hb1)
      clear hb1 P0 Q0 HB K p0 p1 pz
      have p0 := P1.out.c0
      have p1 := P1.out.c1
      have pz := P1.out.z
      go_wp2_with fail
      refine (KV.out _ B1).mono ?_; rintro e w2 ⟨rfl, hb2⟩
      have B2 := B1.trans (hb2.mono B1.size)
      have Q2 := Lib.hid (pbw_below Q1.out hb2)
      have P2 := Lib.hid (pbx_below P1.out hb2)
      clear hb2 P1 Q1 B1 KV p0 p1 pz
      have p0 := P2.out.c0
      have p1 := P2.out.c1
      have pz := P2.out.z
      have own1 : (w2.alloc (.cells #[] 38)).ownsRow w2.heap.size 38 4 (.slice (some ⟨w2.heap.size, 0, none⟩) 0 0) 0 [] := World.ownsRow_lit w2 #[] 0 (Nat.le_refl _) (by decide) rfl
      have bA := Below.alloc (Below.refl w2.heap.size w2) (Nat.le_refl _) (.cells #[] 38)
      have BA := B2.trans (bA.mono B2.size)
      go_wp2_with (at_builtin; go_loud (refine wpList_append_own _ rfl (.tmp 19) (.tmp 21) 26 rfl w2.heap.size 38 i0 (.agg #[.int .i64 0, .int .i64 0, .int .i64 0, .int .i64 0]) 4 32 Try.underlying26 HI.out.1 HI.out.2.1 HI.out.2.2.1 HI.out.2.2.2 rfl (by decide) _ 0 [] rfl own1 ⟨bk, off, none⟩ n c (fl4 f n) rfl (fl4_len _ _) (HC1.out _ BA) (fl4_one _ _) (by unfold maxLen; omega) (by omega) bA.size ?_))
      intro v3 w3 own3 hgr _
      have b3 := bA.grown hgr bA.size (fun g hg => (World.ownsRow.lt own1 g hg).1)
      have B3 := B2.trans (b3.mono B2.size)
      have R3 : Hid (RowC w3 w2.heap.size v3 n f) := Lib.hid (by unfold RowC; simpa using own3)
      have Q3 := Lib.hid (pbw_below Q2.out b3)
      have P3 := Lib.hid (pbx_below P2.out b3)
      have hw2 := Q2.out.z
      have BW2 := B2
      clear own1 bA BA own3 hgr P2 Q2 p0 p1 pz B2
      go_wp2_with fail
      go_loopg [4, 5] n (fun gg a i wr => ∃ (m k : Nat) (h : Nat → Int) (v : Value), v = a ∧ k ≤ m ∧ m ≤ 6 ∧ gg = m - k ∧ i = .int .i64 (k : Int) ∧ Hid (puzB (ns : Int) m h = true) ∧ Hid (hdGo ns (m - k) m h k = R) ∧ Below w2.heap.size w2 wr ∧ Hid (RowC wr w2.heap.size v m h) ∧ Hid (Pbx wr w.heap.size (ns : Int) (some ⟨bk, off, none⟩) n c) ∧ Hid (Pbw wr (w.heap.size + 1) (.int .i64 0) (.slice none 0 0)))
      case atStart => exact ⟨n, 0, f, _, rfl, Nat.zero_le _, hn6, rfl, rfl, HP0, Lib.hid HR0.out.symm, b3, R3, P3, Q3⟩
      case round =>
        clear R3 P3 Q3 b3 HR0 HP0
        obtain ⟨m, k, h, v, rfl, hk, hm6, hgg, rfl, HP, HR, hB, hr, P, Q⟩ := hrel
        rename World => wo
        have HGK := Lib.hid hgg
        clear hgg
        obtain ⟨Av, cv, rfl, hnv, hcv, rwv⟩ := rowC_rwi hr.out
        clear rwv
        have hzo := hB.size
        have BO := BW2.trans (hB.mono BW2.size)
        have p0 := P.out.c0
        have p1 := P.out.c1
        have pz := P.out.z
        by_cases hlt : k < m
        · obtain ⟨b, c', e, q1, q2, q3, hRv⟩ := rowC_at hr.out (by omega)
          injection e with e1 e2 e3
          subst e1 e3
          have KW := Lib.hid (pzWithout_any b 0 cv m k h wo hlt hm6 q1 q2 hRv)
          have KT := Lib.hid (fun A c' W (hb : RdI W W.heap.size A ((m - 1) * 4) (woF h k)) => pzSolved_any ns A c' (m - 1) (woF h k) W (puzB_wo HP.out hlt) hb)
          have HP2 := Lib.hid (puzB_wo HP.out hlt)
          rw [solP_t HP2.out] at KT
          have HT := Lib.hid (fun hh => (hd_t (ns := ns) (f := h) hlt hh).trans HR.out)
          have HF := Lib.hid (fun hh => (hd_f (ns := ns) (f := h) hlt hh).trans HR.out)
          clear hRv
          generalize (solK (woF h k) (m - 1) (ns + 1) ((ns + 1) * (ns + 1))).length = x at *
          go_wp2_with fail
          refine KW.out.mono ?_; rintro e w4 ⟨⟨v4, rfl, own4⟩, hb4⟩
          obtain ⟨A4, c4, rfl, hn4, hc4, rw4⟩ := rowC_rwi own4
          have B4 := hB.trans (hb4.mono hzo)
          have R4 := Lib.hid (rowC_base own4 hzo)
          have RO4 := Lib.hid (rowC_below hr.out hb4 (Nat.le_refl _))
          have P4 := Lib.hid (pbx_below P.out hb4)
          have Q4 := Lib.hid (pbw_below Q.out hb4)
          have RD4 := Lib.hid (rdi_of_rw rw4 (Nat.le_refl _))
          clear own4 hb4 rw4 hB hr P Q KW p0 p1 pz BO hn4 hc4
          have p0 := P4.out.c0
          have p1 := P4.out.c1
          have pz := P4.out.z
          go_wp2_with fail
          refine (KT.out _ _ _ RD4.out).mono ?_; rintro e w5 ⟨rfl, hb5⟩
          have B5 := B4.trans (hb5.mono B4.size)
          have R5 := Lib.hid (rowC_below R4.out hb5 (Nat.le_refl _))
          have RO5 := Lib.hid (rowC_below RO4.out hb5 (Nat.le_refl _))
          have P5 := Lib.hid (pbx_below P4.out hb5)
          have Q5 := Lib.hid (pbw_below Q4.out hb5)
          clear hb5 B4 R4 RO4 P4 Q4 RD4 KT p0 p1 pz
          by_cases hx : x = 1
          · have HT2 := Lib.hid (HT.out hx)
            rw [decide_eq_true hx]
            clear HT HF
            go_wp2_with fail
            go_roundg (m - 1 - k)
            case measure => have := HGK.out; omega
            case rel => exact ⟨m - 1, k, woF h k, _, rfl, by omega, by omega, rfl, by first | rfl | go_num, HP2, HT2, B5, R5, P5, Q5⟩
          · have HF2 := Lib.hid (HF.out hx)
            rw [decide_eq_false hx]
            clear HT HF
            go_wp2_with fail
            go_roundg (m - (k + 1))
            case measure => have := HGK.out; omega
            case rel => exact ⟨m, k + 1, h, _, rfl, by omega, hm6, rfl, by go_num, HP, HF2, B5, RO5, P5, Q5⟩
        · obtain rfl : k = m := by omega
          have hF : R = (k, h) := by
            have := HR.out
            rw [Nat.sub_self] at this
            exact this.symm
          have r0 := Q.out.c0
          have r1 := Q.out.c1
          have rz := Q.out.z
          have rf0 := Q.out.fz 0
          have rf1 := Q.out.fz 1
          have hF2 := Lib.hid hF
          clear hF
          go_wp2_with fail
          refine bodyPost_ret (v := .tuple #[.agg #[.int .i64 (ns : Int), .slice Av k cv], .bool true]) (by simp [results, Try.results34, go_sem, rz, r0, r1]) rfl ?_
          rw [hF2.out]
          exact retZ_row (rowC_set (rowC_set hr.out (by show w.heap.size + 1 < _; exact hw2) _) (by show w.heap.size + 1 < _; exact hw2) _) BW2 (by repeat (first | with_reducible assumption | with_reducible exact Below.refl _ _ | with_reducible apply Below.drew | ((with_reducible refine Below.setCell ?_ ?_ _); rotate_left; (first | exact Nat.le_refl _ | omega | (simp <;> omega))) | ((with_reducible refine Below.alloc ?_ ?_ _); rotate_left; (first | omega | (simp <;> omega)))))
end Go.Proofs.Ytacabmbajadbgaa
