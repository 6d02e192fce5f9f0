/- joined: WnB WnC Km Lx Kh Lw Z -/
import Derived.Test.YtheddoinnakneaaZDirectionsOfWidth7
import Derived.LoopTactic
import Derived.Deep.Slices
import Derived.Deep.Fields
/- contracts: LeastWidth, IsThin, the program -/
namespace Go.Proofs.Ytheddoinnakneaa
open Go.ChangeShapes Go.WideShapes Go.ChangeAt Go.RowKit Go.Joins
set_option linter.unusedVariables false
set_option linter.unusedSimpArgs false
set_option maxRecDepth 4000
theorem dirG_mem {l : List (Int × Int)} (hg : Good l) {m : Nat} {t : Int × Int} : t ∈ dirG l m ↔ toldB t.1 t.2 = true ∧ wdL l t.1 t.2 ≤ m := dirD_mem (base_model hg)
/-- each of the directions in which the width is least has that width -/
theorem dirG_least {l : List (Int × Int)} (hg : Good l) {i : Nat} (hi : i < (dirG l (wlG l)).length) : wdL l (pt (dirG l (wlG l)) i).1 (pt (dirG l (wlG l)) i).2 = (wlG l : Int) := by
  have h := (dirG_mem hg).1 (pt_mem (s := dirG l (wlG l)) (i := i) hi)
  obtain ⟨f1, f2, f3, f4, f5⟩ := wl_facts (base_model hg) (M := 80) (box_told (Or.inl (wd_box hg)))
  have e : (wlG l : Int) = wlI (wdL l) (subP (vx l 1) (vx l 0)) (subP (vx l 2) (vx l 0)) 80 := by unfold wlG; omega
  have := f5 _ h.1
  omega
theorem dirG_sml {l : List (Int × Int)} (hg : Good l) {i : Nat} (hi : i < (dirG l (wlG l)).length) : Sml l (pt (dirG l (wlG l)) i) := by
  have h := pt_mem (s := dirG l (wlG l)) (i := i) hi
  have h2 := wlG_facts hg
  rw [← dirG_prog hg] at h
  exact told_sml hg h2.2.1 (by rw [dirG_prog hg] at h ⊢; exact h)
theorem thin_is {l : List (Int × Int)} (hg : Good l) : decide (0 < (dirG l 1).length) = decide ((wlG l : Int) = 1) := by
  obtain ⟨f1, f2, f3, f4, f5⟩ := wl_facts (base_model hg) (M := 80) (box_told (Or.inl (wd_box hg)))
  have e : (wlG l : Int) = wlI (wdL l) (subP (vx l 1) (vx l 0)) (subP (vx l 2) (vx l 0)) 80 := by unfold wlG; omega
  have h := f4 1
  rw [decide_eq_decide]
  unfold dirG
  rw [h]
  omega
set_option maxHeartbeats 2000000 in
theorem implLeastWidth_any (A : Option Addr) (c : Nat) (l : List (Int × Int)) (w : World) (hn : l.length ≤ 1048576) (hR : Rd w w.heap.size A l) :
    Calls Try.prog 18 #[.slice A l.length c] w fun e w' => e = .returned (.tuple #[.int .i64 (lwS l), .bool (goodB l)]) ∧ Below w.heap.size w w' := by
  have K := Lib.hid (implIsPolygon_any A c l w hn hR)
  by_cases hg : goodB l = true
  · have hgg : Good l := by unfold goodB at hg; simpa using hg
    have h0 := (wlG_facts hgg).2.2.1
    have K2 := Lib.hid (fun W (hb : Below w.heap.size w W) => leastSpans_any A c l W hgg (rd_more (rd_below hR hb (Nat.le_refl _)) hb.size))
    have hs := dirG_sml hgg h0
    have KW := Lib.hid (fun W => width_any (pt (dirG l (wlG l)) 0).1 (pt (dirG l (wlG l)) 0).2 (loW l (pt (dirG l (wlG l)) 0).1 (pt (dirG l (wlG l)) 0).2 l.length) (hiW l (pt (dirG l (wlG l)) 0).1 (pt (dirG l (wlG l)) 0).2 l.length) W hs.1 hs.2.1 hs.2.2.1 hs.2.2.2)
    have hw : hiW l (pt (dirG l (wlG l)) 0).1 (pt (dirG l (wlG l)) 0).2 l.length - loW l (pt (dirG l (wlG l)) 0).1 (pt (dirG l (wlG l)) 0).2 l.length = (wlG l : Int) := dirG_least hgg h0
    rw [hw] at KW
    have hlw : lwS l = (wlG l : Int) := by unfold lwS; rw [if_pos hg]
    rw [hlw, hg]
    rw [hg] at K
    generalize dirG l (wlG l) = s at *
    clear hlw hg hgg hR hs hw
    go_enter Try.func18, Try.ntmps18
    go_wp2_with fail
    refine K.out.mono ?_; rintro e w1 ⟨rfl, hb1⟩
    go_wp2_with fail
    refine (K2.out _ hb1).mono ?_; rintro e w2 ⟨⟨v, rfl, hrv⟩, hb2⟩
    rcases own_val hrv with ⟨rfl, hx⟩ | ⟨g, cap, rfl, _, _, hgb, hgz⟩
    · exact absurd hx (by omega)
    obtain ⟨c0, c1, c2, c3⟩ := rowP_at hrv (i := 0) h0
    simp only [Nat.zero_mul, Nat.zero_add] at c0 c1 c2 c3
    have hn1 : (0 : Int) < (s.length : Int) := by omega
    have B2 := hb1.trans (hb2.mono hb1.size)
    clear hrv hb1 hb2 K K2
    go_wp2_with fail
    refine (KW.out _).mono ?_; rintro e w3 ⟨rfl, hb3⟩
    have B3 := B2.trans (hb3.mono B2.size)
    go_wp2_with fail
    go_ret2
    exact ⟨rfl, B3⟩
  · have hgf : goodB l = false := by simpa using hg
    have hlw : lwS l = 0 := by unfold lwS; rw [hgf]; rfl
    rw [hlw, hgf]
    rw [hgf] at K
    clear hlw hg hgf hR
    go_enter Try.func18, Try.ntmps18
    go_wp2_with fail
    refine K.out.mono ?_; rintro e w1 ⟨rfl, hb1⟩
    go_wp2_with fail
    go_ret2
    exact ⟨rfl, hb1⟩
theorem implIsThin_any (A : Option Addr) (c : Nat) (l : List (Int × Int)) (w : World) (hn : l.length ≤ 1048576) (hR : Rd w w.heap.size A l) :
    Calls Try.prog 29 #[.slice A l.length c] w fun e w' => e = .returned (.tuple #[.bool (thS l), .bool (goodB l)]) ∧ Below w.heap.size w w' := by
  have K := Lib.hid (implLeastWidth_any A c l w hn hR)
  have hth : thS l = decide (lwS l = 1) := by
    unfold thS lwS
    by_cases hg : goodB l = true
    · have hgg : Good l := by unfold goodB at hg; simpa using hg
      rw [if_pos hg, hg, thin_is hgg, Bool.true_and]
    · have hgf : goodB l = false := by simpa using hg
      rw [hgf, Bool.false_and, if_neg (by decide)]; rfl
  rw [hth]
  generalize lwS l = x at *
  generalize goodB l = gb at *
  clear hth hR
  by_cases hx : x = 1
  · subst hx
    go_enter Try.func29, Try.ntmps29
    go_wp2_with fail
    refine K.out.mono ?_; rintro e w1 ⟨rfl, hb1⟩
    go_wp2_with fail
    go_ret2
    exact ⟨rfl, hb1⟩
  · rw [decide_eq_false hx]
    go_enter Try.func29, Try.ntmps29
    go_wp2_with fail
    refine K.out.mono ?_; rintro e w1 ⟨rfl, hb1⟩
    go_wp2_with fail
    go_ret2
    exact ⟨by simp [hx], hb1⟩
end Go.Proofs.Ytheddoinnakneaa
/- contract: DirectionsOfWidth, the program -/
namespace Go.Proofs.Ytheddoinnakneaa
open Go.ChangeShapes Go.WideShapes Go.ChangeAt Go.RowKit Go.Joins
set_option linter.unusedVariables false
set_option linter.unusedSimpArgs false
set_option maxRecDepth 4000
theorem rowM_snoc {w w' : World} {base : Nat} {q : List Nat} {m : List (Int × Int)} {x y : Int} {v v' : Value} (hb : base ≤ w.heap.size) (hP : PrM w base q m)
    (ho : ((w.alloc (.cells #[.int .i64 x, .int .i64 y] 3)).alloc (.cells #[.slice (some ⟨w.heap.size, 0, none⟩) 2 2] 47)).ownsRow base 47 1 v m.length (slM q))
    (hg : ((w.alloc (.cells #[.int .i64 x, .int .i64 y] 3)).alloc (.cells #[.slice (some ⟨w.heap.size, 0, none⟩) 2 2] 47)).grownBy w' v.ownBlock)
    (ho' : w'.ownsRow base 47 1 v' (m.length + 1) (slM q ++ [.slice (some ⟨w.heap.size, 0, none⟩) 2 2])) : RowM w' base v' (m ++ [(x, y)]) := by
  obtain ⟨hp, hl⟩ := pair_new ho hg
  have hA := Below.alloc (Below.alloc (Below.refl w.heap.size w) (Nat.le_refl _) (.cells #[.int .i64 x, .int .i64 y] 3)) (by simp) (.cells #[.slice (some ⟨w.heap.size, 0, none⟩) 2 2] 47)
  have P1 := prM_below hP hA (Nat.le_refl _)
  have P2 : PrM w' base q m := prM_blocks P1 hg.size (fun b hbq => hg.block b (prM_lt P1 hbq).2 (by
    obtain ⟨i, hi⟩ := List.mem_iff_getElem?.1 hbq
    have hl : i < q.length := by
      rcases Nat.lt_or_ge i q.length with g | g
      · exact g
      · rw [List.getElem?_eq_none g] at hi; cases hi
    have := P1.at_ i b _ hi (pt_get (l := m) (i := i) (by rw [← P1.len]; exact hl))
    exact not_own ho this.2.2))
  have P3 := prM_put P2 (Nat.le_refl m.length) hb hl (p := (x, y)) hp (fun hm => by have := (prM_lt hP hm).2; omega)
  have e1 : q.take m.length ++ [w.heap.size] ++ q.drop m.length = q ++ [w.heap.size] := by rw [← P2.len]; simp
  have e2 : m.take m.length ++ [(x, y)] ++ m.drop m.length = m ++ [(x, y)] := by simp
  rw [e1, e2] at P3
  refine ⟨q ++ [w.heap.size], ?_, P3⟩
  rw [List.length_append]
  have e3 : slM (q ++ [w.heap.size]) = slM q ++ [.slice (some ⟨w.heap.size, 0, none⟩) 2 2] := by unfold slM; rw [List.map_append]; rfl
  rw [e3]
  exact ho'
set_option maxRecDepth 100000 in
set_option maxHeartbeats 4000000 in
theorem implDirectionsOfWidth_any (A : Option Addr) (c : Nat) (l : List (Int × Int)) (w : World) (hn : l.length ≤ 1048576) (hR : Rd w w.heap.size A l) :
    Calls Try.prog 21 #[.slice A l.length c] w fun e w' => (∃ v, e = .returned (.tuple #[v, .bool (goodB l)]) ∧ RowM w' w.heap.size v (dwS l)) ∧ Below w.heap.size w w' := by
  have K := Lib.hid (implIsPolygon_any A c l w hn hR)
  by_cases hg : goodB l = true
  · have hgg : Good l := by unfold goodB at hg; simpa using hg
    have h0 := (wlG_facts hgg).2.2.1
    have K2 := Lib.hid (fun W (hb : Below w.heap.size w W) => leastSpans_any A c l W hgg (rd_more (rd_below hR hb (Nat.le_refl _)) hb.size))
    have hlw : dwS l = dirG l (wlG l) := by unfold dwS; rw [if_pos hg]
    have HLN : (dirG l (wlG l)).length ≤ 1000000 := by
      have h2 := wlG_facts hgg
      unfold dirG dirD
      rw [srt_len]
      have := dirAll_len (wdL l) (wlG l) (subP (vx l 1) (vx l 0)) (subP (vx l 2) (vx l 0)) (2 * wlG l + 1)
      have h3 : (2 * wlG l + 1) * (2 * wlG l + 1) ≤ 161 * 161 := Nat.mul_le_mul (by omega) (by omega)
      omega
    rw [hlw, hg]
    rw [hg] at K
    generalize dirG l (wlG l) = s at *
    obtain ⟨t0, hi0, hz0, hz1, hz2⟩ := info_parts2 ints_info
    have HI := Lib.hid (And.intro hi0 (And.intro hz0 (And.intro hz1 hz2)))
    clear hi0 hz0 hz1 hz2
    clear hlw hg hgg hR
    go_enter Try.func21, Try.ntmps21
    go_wp2_with fail
    refine K.out.mono ?_; rintro e w1 ⟨rfl, hb1⟩
    go_wp2_with fail
    refine (K2.out _ hb1).mono ?_; rintro e w2 ⟨⟨v, rfl, hrv⟩, hb2⟩
    rcases own_val hrv with ⟨rfl, hx⟩ | ⟨g, cap, rfl, _, _, hgb, hgz⟩
    · exact absurd hx (by omega)
    have HRV := Lib.hid (fun i (hi : i < s.length) => rowP_at hrv hi)
    have HSM : Hid (∀ k, k < s.length → s.take (k + 1) = s.take k ++ [pt s k]) := Lib.hid (fun k hk => take_pt hk)
    have HTL : Hid (∀ k, k ≤ s.length → (s.take k).length = k) := Lib.hid (fun k hk => by rw [List.length_take]; omega)
    have HTA : Hid (s.take s.length = s) := Lib.hid List.take_length
    have B2 := hb1.trans (hb2.mono hb1.size)
    clear hrv hb1 hb2 K K2
    generalize hN : s.length = n at *
    clear hN
    go_wp2_with fail
    go_loopg [4, 13] n (fun gg o i wr => ∃ (k : Nat) (vv : Value), vv = o ∧ k ≤ n ∧ gg = n - k ∧ i = .int .i64 (k : Int) ∧ Below w2.heap.size w2 wr ∧ Hid (RowM wr w2.heap.size vv (s.take k)))
    case atStart => exact ⟨0, _, rfl, Nat.zero_le _, rfl, rfl, Below.refl _ _, Lib.hid (by rw [List.take_zero]; exact rowM_nil _ _)⟩
    case round =>
      obtain ⟨k, vv, rfl, hk, hgg, rfl, hB, HR⟩ := hrel
      rename World => wo
      have HGK := Lib.hid hgg
      clear hgg
      by_cases hkn : k < n
      · obtain ⟨c0, c1, c2, c3⟩ := HRV.out k hkn
        have c0 := ((bcell hB).1 _ _ hgz).trans c0
        have c1 := ((bcell hB).1 _ _ hgz).trans c1
        have c2 := ((bcell hB).1 _ _ hgz).trans c2
        have c3 := ((bcell hB).1 _ _ hgz).trans c3
        have hgo := Nat.lt_of_lt_of_le hgz hB.size
        have hs1 := HSM.out k hkn
        have HS1 := Lib.hid hs1
        have htl := HTL.out k hk
        obtain ⟨q, own, hP⟩ := HR.out
        generalize loW l (pt s k).1 (pt s k).2 l.length = lo at *
        generalize hiW l (pt s k).1 (pt s k).2 l.length = hi at *
        have HPT : Hid (pt s k = ((pt s k).1, (pt s k).2)) := Lib.hid rfl
        generalize (pt s k).1 = u at *
        generalize (pt s k).2 = v at *
        generalize s.take k = m at *
        subst htl
        have hbo : w2.heap.size ≤ wo.heap.size := hB.size
        have hP1 := Lib.hid hP
        have own1 := Lib.hid own
        clear hs1 own hP
        go_upto_region 7 with fail
        obtain ⟨W6, hW6⟩ : ∃ W6, W6 = (wo.alloc (.cells #[.int .i64 u, .int .i64 v, .int .i64 lo, .int .i64 hi] 68)) := ⟨_, rfl⟩
        rw [← hW6]
        have yW60_0 : W6.cell? ⟨wo.heap.size, 0, none⟩ = some (.int .i64 u) := by rw [hW6]; go_simp
        have yW60_1 : W6.cell? ⟨wo.heap.size, 1, none⟩ = some (.int .i64 v) := by rw [hW6]; go_simp
        have yW60_2 : W6.cell? ⟨wo.heap.size, 2, none⟩ = some (.int .i64 lo) := by rw [hW6]; go_simp
        have yW60_3 : W6.cell? ⟨wo.heap.size, 3, none⟩ = some (.int .i64 hi) := by rw [hW6]; go_simp
        have fW60 : ∀ o, W6.frozen? ⟨wo.heap.size, o, none⟩ = false := by intro o; rw [hW6]; (repeat rw [frozen?_alloc_cells]); simp [World.frozen?]
        have zW60 : wo.heap.size < W6.heap.size := by rw [hW6]; simp <;> omega
        have BW6 : Below wo.heap.size wo W6 := by rw [hW6]; exact (Below.alloc (Below.refl _ _) (by simp <;> omega) _)
        have eW6 : Hid (W6.heap.size = wo.heap.size + 1) := Lib.hid (by rw [hW6]; simp)
        clear hW6
        have BA := hB.trans (BW6.mono hB.size)
        have hPW := Lib.hid (prM_below hP1.out BW6 (Nat.le_refl _))
        have HO6 := Lib.hid (((ownM_below own1.out BW6 (Nat.le_refl _)).alloc (.cells #[.int .i64 u, .int .i64 v] 3)).alloc (.cells #[.slice (some ⟨W6.heap.size, 0, none⟩) 2 2] 47))
        have HBA := Lib.hid (Below.alloc (Below.alloc BA BA.size (.cells #[.int .i64 u, .int .i64 v] 3)) (by have := BA.size; simp <;> omega) (.cells #[.slice (some ⟨W6.heap.size, 0, none⟩) 2 2] 47))
        have hz6 : w2.heap.size ≤ ((W6.alloc (.cells #[.int .i64 u, .int .i64 v] 3)).alloc (.cells #[.slice (some ⟨W6.heap.size, 0, none⟩) 2 2] 47)).heap.size := by have := BW6.size; simp <;> omega
        have hb6 : w2.heap.size ≤ W6.heap.size := by have := BW6.size; omega
        clear BW6 BA eW6 fW60 hP1 own1 HR c0 c1 c2 c3
        go_wp2_with (at_builtin; go_loud (refine wpList_append_own _ rfl (.tmp 17) (.tmp 25) 30 rfl w2.heap.size 47 t0 (.slice none 0 0) 1 24 Try.underlying30 HI.out.1 HI.out.2.1 HI.out.2.2.1 HI.out.2.2.2 rfl (by decide) vv m.length (slM q) rfl HO6.out ⟨W6.heap.size + 1, 0, none⟩ 1 1 [.slice (some ⟨W6.heap.size, 0, none⟩) 2 2] rfl rfl (wm_cells (by go_simp)) (wm_one _ _ _) (by unfold maxLen; omega) (by omega) hz6 ?_))
        intro v10 w10 own10 hg10 _
        have R10 := Lib.hid (rowM_snoc hb6 hPW.out HO6.out hg10 own10)
        have B10 := HBA.out.grown hg10 HBA.out.size (fun g' hg' => (World.ownsRow.lt HO6.out g' hg').1)
        clear own10 hg10 HO6 hPW HBA hz6 hb6
        go_wp2_with fail
        go_roundg (n - (m.length + 1))
        case measure => have := HGK.out; omega
        case rel => exact ⟨m.length + 1, _, rfl, by omega, rfl, by go_num, B10, Lib.hid (by rw [HS1.out, HPT.out]; exact R10.out)⟩
      · obtain rfl : k = n := by omega
        have R := Lib.hid (show RowM wo w.heap.size vv s by rw [← HTA.out]; exact rowM_base HR.out B2.size)
        clear HR
        go_wp2_with fail
        go_ret2
        exact ⟨⟨_, rfl, R.out⟩, B2.trans (hB.mono B2.size)⟩
  · have hgf : goodB l = false := by simpa using hg
    have hlw : dwS l = [] := by unfold dwS; rw [hgf]; rfl
    rw [hlw, hgf]
    rw [hgf] at K
    clear hlw hg hgf hR
    go_enter Try.func21, Try.ntmps21
    go_wp2_with fail
    refine K.out.mono ?_; rintro e w1 ⟨rfl, hb1⟩
    go_wp2_with fail
    go_ret2
    exact ⟨⟨_, rfl, rowM_nil _ _⟩, hb1⟩
end Go.Proofs.Ytheddoinnakneaa
/- contracts: points that are marked, marks that are held -/
namespace Go.Proofs.Ytheddoinnakneaa
open Go.ChangeShapes Go.WideShapes Go.ChangeAt Go.RowKit Go.Joins
set_option linter.unusedVariables false
set_option linter.unusedSimpArgs false
set_option maxRecDepth 4000
/-- what marks write: number after number -/
def mk (k : Int) (i : Nat) : Int × Int := (k + 2 * (i : Int), k + 2 * (i : Int) + 1)
def mix (k : Int) (i : Nat) (f : Nat → Int × Int) (j : Nat) : Int × Int := if j < i then mk k j else f j
theorem mix_step (k : Int) (i : Nat) (f : Nat → Int × Int) : (fun j => if j = i then mk k i else mix k i f j) = mix k (i + 1) f := by
  funext j
  unfold mix
  by_cases h : j = i
  · subst h; rw [if_pos rfl, if_pos (by omega)]
  · rw [if_neg h]
    by_cases h2 : j < i
    · rw [if_pos h2, if_pos (by omega)]
    · rw [if_neg h2, if_neg (by omega)]
/-- behind a mark -/
structure Marked (w w' : World) (lo B : Nat) (A : Option Addr) (n : Nat) (k : Int) (i : Nat) (f : Nat → Int × Int) : Prop where
  only : Only lo B w w'
  row : Rw w' lo B A n (mix k i f)
theorem marked_step {w w' : World} {lo B b off n i : Nat} {k : Int} {f : Nat → Int × Int} (h : Marked w w' lo B (some ⟨b, off, none⟩) n k i f) (hi : i < n) (hb : lo ≤ b) (hB : b < B) :
    Marked w ((w'.setCell ⟨b, off + i * 2, none⟩ (.int .i64 (k + 2 * (i : Int)))).setCell ⟨b, off + i * 2 + 1, none⟩ (.int .i64 (k + 2 * (i : Int) + 1))) lo B (some ⟨b, off, none⟩) n k (i + 1) f :=
  ⟨(h.only.set hb hB _).set hb hB _, by
    have := rw_store h.row hi (k + 2 * (i : Int)) (k + 2 * (i : Int) + 1)
    rw [show (fun j => if j = i then (k + 2 * (i : Int), k + 2 * (i : Int) + 1) else mix k i f j) = mix k (i + 1) f from mix_step k i f] at this
    exact this⟩
set_option maxHeartbeats 1000000 in
theorem markPegS_any (A : Option Addr) (c n : Nat) (k : Int) (lo B : Nat) (f : Nat → Int × Int) (w : World) (hn : n ≤ 1048576) (hk1 : 1 ≤ k) (hk2 : k ≤ 1000000000) (hR : Rw w lo B A n f) :
    Calls Try.prog 23 #[.slice A n c, .int .i64 k] w fun e w' => e = .returned (.int .i64 (k + 2 * (n : Int))) ∧ Only lo B w w' ∧ Rw w' lo B A n (mk k) := by
  have HM := Lib.hid (show Marked w w lo B A n k 0 f from ⟨Only.refl _ _ _, rw_same hR fun i hi => by unfold mix; rw [if_neg (by omega)]⟩)
  clear hR
  go_enter Try.func23, Try.ntmps23
  go_wp2_with fail
  go_loopg [1, 5] n (fun g u i wr => ∃ j : Nat, j ≤ n ∧ g = n - j ∧ i = .int .i64 j ∧ u = .int .i64 (k + 2 * (j : Int)) ∧ Hid (Marked w wr lo B A n k j f))
  case atStart => exact ⟨0, Nat.zero_le _, rfl, rfl, by simp, HM⟩
  case round =>
    obtain ⟨j, hj, hg, rfl, rfl, hM⟩ := hrel
    rename World => wo
    have HGK := Lib.hid hg
    clear hg HM
    by_cases hlt : j < n
    · obtain ⟨b, off, hA, hb1, hb2, hc⟩ := hM.out.row (by omega)
      subst hA
      obtain ⟨⟨c1, c2⟩, z1, z2⟩ := hc j hlt
      have M2 := Lib.hid (marked_step hM.out hlt hb1 hb2)
      clear hc hM
      have e1 : IntKind.i64.wrap (k + 2 * (j : Int) + 1) = k + 2 * (j : Int) + 1 := IntWalk.i64_in _ (by omega)
      go_wp2_with fail
      go_roundg (n - (j + 1))
      case measure => have := HGK.out; omega
      case rel => exact ⟨j + 1, by omega, rfl, by go_num, by go_num, M2⟩
    · have hjn : n = j := by omega
      subst hjn
      go_wp2_with fail
      go_ret
      exact ⟨rfl, hM.out.only, rw_same hM.out.row fun i hi => by unfold mix; rw [if_pos hi]⟩
end Go.Proofs.Ytheddoinnakneaa
/- what the laws look at in their arguments, step by step -/
namespace Go.Proofs.Ytheddoinnakneaa
open Go.ChangeShapes Go.WideShapes Go.ChangeAt Go.RowKit Go.Joins
set_option linter.unusedVariables false
set_option linter.unusedSimpArgs false
set_option maxRecDepth 4000
theorem law_eqX (l : List (Int × Int)) (hl : l.length ≤ 1048576) (W : World) (g g' c c' : Nat) (h : Set W g l.length l.length l) (h' : Set W g' l.length l.length l) :
    Calls Try.prog 19 #[.slice (some ⟨g, 0, none⟩) l.length c, .slice (some ⟨g', 0, none⟩) l.length c'] W fun e w' => e = .returned (.bool true) ∧ Below W.heap.size W w' :=
  (eqPegS_any _ _ c c' l l W hl hl (rd_of_set h) (rd_of_set h')).mono fun e w' hh => ⟨hh.1.trans (ret_bool (by simp)), hh.2⟩
theorem law_mark (l : List (Int × Int)) (hl : l.length ≤ 1048576) (W : World) (g c : Nat) (h : Set W g l.length l.length l) :
    Calls Try.prog 23 #[.slice (some ⟨g, 0, none⟩) l.length c, .int .i64 1] W fun e w' => e = .returned (.int .i64 (1 + 2 * (l.length : Int))) ∧ Only g (g + 1) W w' :=
  (markPegS_any _ c l.length 1 g (g + 1) (pt l) W hl (by omega) (by omega) (rw_of_set h)).mono fun e w' hh => ⟨hh.1, hh.2.1⟩
theorem only_grow {w W W' : World} {lo B : Nat} (h : Below w.heap.size w W) (ho : Only lo B W W') (hl : w.heap.size ≤ lo) : Below w.heap.size w W' := h.trans (ho.below.mono hl)
theorem below_grow {w W W' : World} (h : Below w.heap.size w W) (hb : Below W.heap.size W W') : Below w.heap.size w W' := h.trans (hb.mono h.size)
end Go.Proofs.Ytheddoinnakneaa
/- contract: marks that are held -/
namespace Go.Proofs.Ytheddoinnakneaa
open Go.ChangeShapes Go.WideShapes Go.ChangeAt Go.RowKit Go.Joins
set_option linter.unusedVariables false
set_option linter.unusedSimpArgs false
set_option maxRecDepth 4000
set_option maxHeartbeats 1000000 in
theorem heldPegS_any (A : Option Addr) (c n : Nat) (k : Int) (lo B : Nat) (w : World) (hn : n ≤ 1048576) (hk1 : 1 ≤ k) (hk2 : k ≤ 1000000000) (hR : Rw w lo B A n (mk k)) :
    Calls Try.prog 35 #[.slice A n c, .int .i64 k] w fun e w' => e = .returned (.int .i64 (k + 2 * (n : Int))) ∧ w = w' := by
  have HR := Lib.hid hR
  clear hR
  go_enter Try.func35, Try.ntmps35
  go_wp2_with fail
  go_loopg [1, 5] n (fun g u i wr => ∃ j : Nat, j ≤ n ∧ g = n - j ∧ i = .int .i64 j ∧ u = .int .i64 (k + 2 * (j : Int)) ∧ w = wr)
  case atStart => exact ⟨0, Nat.zero_le _, rfl, rfl, by simp, rfl⟩
  case round =>
    obtain ⟨j, hj, hg, rfl, rfl, rfl⟩ := hrel
    have HGK := Lib.hid hg
    clear hg
    by_cases hlt : j < n
    · obtain ⟨b, off, hA, hb1, hb2, hc⟩ := HR.out (by omega)
      subst hA
      obtain ⟨⟨c1, c2⟩, z1, z2⟩ := hc j hlt
      have c1' : w.cell? ⟨b, off + j * 2, none⟩ = some (.int .i64 (k + 2 * (j : Int))) := c1
      have c2' : w.cell? ⟨b, off + j * 2 + 1, none⟩ = some (.int .i64 (k + 2 * (j : Int) + 1)) := c2
      clear hc c1 c2
      go_wp2_with fail
      go_roundg (n - (j + 1))
      case measure => have := HGK.out; omega
      case rel => exact ⟨j + 1, by omega, rfl, by go_num, by go_num, rfl⟩
    · have hjn : n = j := by omega
      subst hjn
      go_wp2_with fail
      go_ret
      exact ⟨rfl, rfl⟩
end Go.Proofs.Ytheddoinnakneaa
/- what the laws of functions that give a list of points look at, step by step -/
namespace Go.Proofs.Ytheddoinnakneaa
open Go.ChangeShapes Go.WideShapes Go.ChangeAt Go.RowKit Go.Joins
set_option linter.unusedVariables false
set_option linter.unusedSimpArgs false
set_option maxRecDepth 4000
/-- a call that gives p points F and says whether there are such -/
def RetN (w : World) (p : Nat) (F : Nat → Int × Int) (b : Bool) (e : Ending) (w' : World) : Prop :=
  ∃ A c, e = .returned (.tuple #[.slice A p c, .bool b]) ∧ Below w.heap.size w w' ∧ Rw w' w.heap.size w'.heap.size A p F
theorem retN_of_L {w w' : World} {m : List (Int × Int)} {b : Bool} {e : Ending} (h : RetL w m b e w') : RetN w m.length (pt m) b e w' := by
  obtain ⟨A, c, h1, _, _, h4, h5⟩ := h
  exact ⟨A, c, h1, h4, h5⟩
theorem law_eq (m : List (Int × Int)) (hm : m.length ≤ 1048576) (W : World) (lo B lo' B' c c' : Nat) (A A' : Option Addr) (h : Rw W lo B A m.length (pt m)) (hB : B ≤ W.heap.size) (h' : Rw W lo' B' A' m.length (pt m)) (hB' : B' ≤ W.heap.size) :
    Calls Try.prog 19 #[.slice A m.length c, .slice A' m.length c'] W fun e w' => e = .returned (.bool true) ∧ Below W.heap.size W w' :=
  (eqPegS_any A A' c c' m m W hm hm (rd_more (rw_rd h) hB) (rd_more (rw_rd h') hB')).mono fun e w' hh => ⟨hh.1.trans (ret_bool (by simp)), hh.2⟩
end Go.Proofs.Ytheddoinnakneaa
/- an argument that is a list of points, opened -/
namespace Go.Proofs.Ytheddoinnakneaa
open Go.ChangeShapes Go.WideShapes Go.ChangeAt Go.RowKit Go.Joins
set_option linter.unusedVariables false
set_option linter.unusedSimpArgs false
set_option maxRecDepth 4000
open Go.Deep
theorem lt_of_cell {w : World} {a : Addr} {u : Value} (h : w.cell? a = some u) : a.block < w.heap.size := by
  rcases Nat.lt_or_ge a.block w.heap.size with h1 | h1
  · exact h1
  · unfold World.cell? at h
    rw [Array.getElem?_eq_none h1] at h
    simp at h
section
variable {H : Type} {enc : TypeId × Value → H}
/-- a point of the laws' package, read from two cells -/
theorem read_peg {w : World} {base : Nat} {spare : Nat → Bool} {held : Bool} {fuel : Nat} {c0 c1 : Value} {x : DataW H × List MemPlace}
    (h : DataW.trod enc Try.prog w base spare held fuel 64 [c0, c1] = some x) : ∃ a b : Int, c0 = .int .i64 a ∧ c1 = .int .i64 b := by
  obtain ⟨xs, n, _, _, _, hlen, hg⟩ := DataW.trod_struct Try.underlying64 h
  have g0 : DataW.trod enc Try.prog w base spare held n 3 ((List.drop 0 [c0, c1]).take (Try.prog.cellsOf 3)) = xs[0]? := hg 0 _ rfl
  have g1 : DataW.trod enc Try.prog w base spare held n 3 ((List.drop 1 [c0, c1]).take (Try.prog.cellsOf 3)) = xs[1]? := hg 1 _ rfl
  have k3 : Try.prog.cellsOf 3 = 1 := by kernel_rfl
  rw [k3] at g0 g1
  match xs, hlen with
  | [y0, y1], _ =>
    simp only [List.drop_zero, List.drop_succ_cons, List.take_succ_cons, List.take_zero, List.getElem?_cons_zero, List.getElem?_cons_succ] at g0 g1
    obtain ⟨a, e0, _, _⟩ := DataW.trod_int Try.underlying3 g0
    obtain ⟨b, e1, _, _⟩ := DataW.trod_int Try.underlying3 g1
    simp only [List.cons.injEq, and_true] at e0 e1
    exact ⟨a, b, e0, e1⟩
/-- an argument that is a list of points -/
theorem open_pegs {w : World} {r : Reach} {b0 base : Nat} {spare : Nat → Bool} {v : Value} {d : DataW H} {p : List MemPlace} (hv : Value.okWide Try.prog w r b0 22 v)
    (h : DataW.Trod enc Try.prog w base spare true 22 v d p) : ∃ (A : Option Addr) (c : Nat) (l : List (Int × Int)), v = .slice A l.length c ∧ l.length ≤ c ∧ c ≤ maxLen ∧ Rd w w.heap.size A l := by
  obtain ⟨a0, len, cap, rfl⟩ := okWide_slice Try.underlying22 hv
  obtain ⟨fuel, hf⟩ := h
  rcases open_slice Try.underlying22 hf with ⟨hcs, _⟩ | ⟨a, len', cap', m, n, D, Pl, hcs, _, hl, hm, hmm, _, hi⟩
  · simp [Value.cells] at hcs
    obtain ⟨rfl, rfl, rfl⟩ := hcs
    exact ⟨none, 0, [], rfl, by simp, by simp, fun h => absurd h (by simp)⟩
  · simp [Value.cells] at hcs
    obtain ⟨rfl, rfl, rfl⟩ := hcs
    have hml : len ≤ m := by rw [hmm]; split <;> omega
    have hC : Try.prog.cellsOf 64 = 2 := cells64
    have key : ∀ i, ∃ q : Int × Int, i < len → w.cell? (a.add (i * 2)) = some (.int .i64 q.1) ∧ w.cell? ((a.add (i * 2)).add 1) = some (.int .i64 q.2) := fun i => by
      by_cases hlt : i < len
      · obtain ⟨cs', hc, ht⟩ := hi i (by omega)
        rw [hC] at hc
        obtain ⟨_, hcl, hat⟩ := World.cells?_some hc
        match cs', hcl with
        | [c0, c1], _ =>
          obtain ⟨x, y, rfl, rfl⟩ := read_peg ht
          have h0 := hat 0 (by omega)
          have h1 := hat 1 (by omega)
          refine ⟨(x, y), fun _ => ⟨?_, h1⟩⟩
          have : (a.add (i * 2)).add 0 = a.add (i * 2) := by unfold Addr.add; simp
          rw [this] at h0
          exact h0
      · exact ⟨(0, 0), fun h => absurd h hlt⟩
    refine ⟨some a, cap, (List.range len).map fun i => Classical.choose (key i), by simp, by simpa using hl, hm, fun hpos => ?_⟩
    have hpos' : 0 < len := by simpa using hpos
    have k0 := (Classical.choose_spec (key 0) hpos').1
    obtain ⟨b, off, spot⟩ := a
    have hspot : spot = none := by simpa [Addr.add] using World.cell?_spot k0
    subst hspot
    refine ⟨b, off, rfl, ?_, fun i q hq => ?_⟩
    · have := lt_of_cell k0
      rw [add_plain] at this
      exact this
    · have hlt : i < len := by
        have := (List.getElem?_eq_some_iff.1 hq).1
        simpa using this
      have e : q = Classical.choose (key i) := by
        rw [List.getElem?_map, List.getElem?_range hlt] at hq
        simpa using hq.symm
      have hs := Classical.choose_spec (key i) hlt
      rw [← e] at hs
      rw [add_plain, add_plain] at hs
      exact hs
end
end Go.Proofs.Ytheddoinnakneaa

