/- The law FnExactPegOfParts returns true at every list of points and every list of numbers, whatever their lengths and numbers, and changes nothing: the program tells the peg with parts as its model does. -/
import Derived.Test.YtgjegildeejghaaZPegOfParts5
namespace Go.Proofs.Ytgjegildeejghaa
open Go.ChangeShapes Go.WideShapes Go.ChangeAt Go.RowKit Go.Joins
set_option linter.unusedVariables false
set_option linter.unusedSimpArgs false
set_option maxRecDepth 4000
theorem fineL : Try.prog.readableRec 22 = true ∧ 22 < Try.prog.types.size := ⟨by kernel_rfl, of_decide_eq_true (by kernel_rfl)⟩
theorem fineI : Try.prog.readableRec 30 = true ∧ 30 < Try.prog.types.size := ⟨by kernel_rfl, of_decide_eq_true (by kernel_rfl)⟩
set_option maxHeartbeats 4000000 in
theorem pegOfParts_walk (A : Option Addr) (c : Nat) (l : List (Int × Int)) (A' : Option Addr) (c' n : Nat) (f : Nat → Int) (w : World) (hcap : l.length ≤ c) (hc2 : c ≤ 9223372036854775807) (hR : Rd w w.heap.size A l) (hcap' : n ≤ c') (hc2' : c' ≤ 9223372036854775807) (hR' : RdI w w.heap.size A' n f) :
    Calls Try.prog 13 #[.slice A l.length c, .slice A' n c'] w fun e w' => e = .returned (.bool true) ∧ Below w.heap.size w w' := by
  have K0 := Lib.hid (szPegS_any A l.length c 1048576 w (by omega) (by omega) (by omega))
  by_cases hbn : 1048576 < n
  · have hbi : (1048576 : Int) < (n : Int) := by omega
    clear hR hR' K0
    go_enter Try.func13, Try.ntmps13
    go_wp2_with fail
    go_ret
    exact ⟨rfl, Below.refl _ _⟩
  have hni : ¬ (1048576 : Int) < (n : Int) := by omega
  have hn' : n ≤ 1048576 := by omega
  by_cases hbig : 1048576 < l.length
  · rw [if_pos (by omega)] at K0
    clear hR hR'
    go_enter Try.func13, Try.ntmps13
    go_wp2_with fail
    refine K0.out.mono ?_; rintro e _ ⟨rfl, rfl⟩
    go_wp2_with fail
    go_ret
    exact ⟨rfl, Below.refl _ _⟩
  · rw [if_neg (by omega)] at K0
    have hle : l.length ≤ 1048576 := by omega
    have hz : (0 : Int) ≤ 1048576 - (l.length : Int) := by omega
    have KT := Lib.hid (fun W (hb : Below w.heap.size w W) => toPegS_any A c l W hle (rd_more (rd_below hR hb (Nat.le_refl _)) hb.size))
    have KU := Lib.hid (fun W (hb : Below w.heap.size w W) => toIntS_any A' c' n f W hn' (rdi_below hR' hb (Nat.le_refl _)))
    have KS := Lib.hid (fun W g lo g2 (h : Set W g l.length l.length l) (h2 : RwI W lo W.heap.size (some ⟨g2, 0, none⟩) n f) => specPegOfParts_any (some ⟨g, 0, none⟩) l.length l (some ⟨g2, 0, none⟩) n n f W hle hn' (Nat.le_refl _) (by omega) (rd_of_set h) (rdi_of_rw h2 (Nat.le_refl _)))
    have KI := Lib.hid (fun W g lo g2 (h : Set W g l.length l.length l) (h2 : RwI W lo W.heap.size (some ⟨g2, 0, none⟩) n f) => implPegOfParts_any (some ⟨g, 0, none⟩) l.length l (some ⟨g2, 0, none⟩) n n f W hle hn' (rd_of_set h) (rdi_of_rw h2 (Nat.le_refl _)))
    have KE := Lib.hid (fun W g g' (h : Set W g l.length l.length l) (h' : Set W g' l.length l.length l) => (eqPegS_any (some ⟨g, 0, none⟩) (some ⟨g', 0, none⟩) l.length l.length l l W hle hle (rd_of_set h) (rd_of_set h')).mono fun e w' hh => (show e = .returned (.bool true) ∧ Below W.heap.size W w' from ⟨hh.1.trans (ret_bool (by simp)), hh.2⟩))
    have KP := Lib.hid (fun x y W => (eqPeg_any x y x y W).mono fun e w' hh => (show e = .returned (.bool true) ∧ Below W.heap.size W w' from ⟨hh.1.trans (ret_bool (by simp)), hh.2⟩))
    have KV := Lib.hid (fun W g g' lo B lo' B' (h : RwI W lo B (some ⟨g, 0, none⟩) n f) (hB : B ≤ W.heap.size) (h' : RwI W lo' B' (some ⟨g', 0, none⟩) n f) (hB' : B' ≤ W.heap.size) => eqIntS_same (some ⟨g, 0, none⟩) (some ⟨g', 0, none⟩) n n n lo B lo' B' f W hn' h hB h' hB')
    clear hR hR' hbig hle
    generalize isel (ptB l n f) ((ptX l f).tdiv (areaN l)) = v1 at *
    generalize isel (ptB l n f) ((ptY l f).tdiv (areaN l)) = v2 at *
    generalize ptB l n f = gg at *
    go_enter Try.func13, Try.ntmps13
    go_wp2_with fail
    refine K0.out.mono ?_; rintro e _ ⟨rfl, rfl⟩
    go_wp2_with fail
    refine (KT.out w (Below.refl _ _)).mono ?_; rintro e w1 ⟨rfl, hb1, hs1⟩
    go_wp2_with fail
    refine (KU.out w1 hb1).mono ?_; rintro e w2 ⟨rfl, hb2, hr2⟩
    have B2 : Below w.heap.size w w2 := hb1.trans (hb2.mono hb1.size)
    have hs2 := set_below hs1 hb2
    clear hb1 hb2 hs1
    go_wp2_with fail
    refine (KS.out w2 _ _ _ hs2 hr2).mono ?_; rintro e w3 ⟨rfl, hb3⟩
    have B3 : Below w.heap.size w w3 := B2.trans (hb3.mono B2.size)
    clear hb3 hs2 hr2 B2
    go_wp2_with fail
    obtain ⟨Wa, hWa⟩ : ∃ Wa, Wa = (w3.alloc (.cells #[.int .i64 v1, .int .i64 v2] 46)) := ⟨_, rfl⟩
    rw [← hWa]
    have yWa0_0 : Wa.cell? ⟨w3.heap.size, 0, none⟩ = some (.int .i64 v1) := by rw [hWa]; go_simp
    have yWa0_1 : Wa.cell? ⟨w3.heap.size, 1, none⟩ = some (.int .i64 v2) := by rw [hWa]; go_simp
    have fWa0 : ∀ o, Wa.frozen? ⟨w3.heap.size, o, none⟩ = false := by intro o; rw [hWa]; (repeat rw [frozen?_alloc_cells]); simp [World.frozen?]
    have zWa0 : w3.heap.size < Wa.heap.size := by rw [hWa]; simp <;> omega
    have BWa : Below w3.heap.size w3 Wa := by rw [hWa]; exact (Below.alloc (Below.refl _ _) (by simp <;> omega) _)
    have eWa : Hid (Wa.heap.size = w3.heap.size + 1) := Lib.hid (by rw [hWa]; simp)
    clear hWa
    have BA : Below w.heap.size w Wa := B3.trans (BWa.mono B3.size)
    refine (KT.out Wa BA).mono ?_; rintro e w4 ⟨rfl, hb4, hs4⟩
    have B4 : Below w.heap.size w w4 := BA.trans (hb4.mono BA.size)
    have y0 := ((bcell hb4).1 _ _ zWa0).trans yWa0_0
    have y1 := ((bcell hb4).1 _ _ zWa0).trans yWa0_1
    have z4 : w3.heap.size < w4.heap.size := Nat.lt_of_lt_of_le zWa0 hb4.size
    generalize Wa.heap.size = g at *
    clear hb4 BA BWa B3 yWa0_0 yWa0_1 fWa0 zWa0 eWa
    go_wp2_with fail
    refine (KU.out w4 B4).mono ?_; rintro e w5 ⟨rfl, hb5, hr5⟩
    have B5 : Below w.heap.size w w5 := B4.trans (hb5.mono B4.size)
    have hs5 := set_below hs4 hb5
    have x0 := ((bcell hb5).1 _ _ z4).trans y0
    have x1 := ((bcell hb5).1 _ _ z4).trans y1
    have z5 : w3.heap.size < w5.heap.size := Nat.lt_of_lt_of_le z4 hb5.size
    generalize w4.heap.size = g2 at *
    clear hb5 B4 hs4 y0 y1 z4
    go_wp2_with fail
    refine (KI.out w5 _ _ _ hs5 hr5).mono ?_; rintro e w6 ⟨rfl, hb6⟩
    have B6 : Below w.heap.size w w6 := B5.trans (hb6.mono B5.size)
    have hs6 := set_below hs5 hb6
    have HR6 := Lib.hid (rwi_below hr5 hb6 (Nat.le_refl _))
    have y0 := ((bcell hb6).1 _ _ z5).trans x0
    have y1 := ((bcell hb6).1 _ _ z5).trans x1
    have z6 : w3.heap.size < w6.heap.size := Nat.lt_of_lt_of_le z5 hb6.size
    have zu := hb6.size
    generalize w5.heap.size = u5 at *
    clear hb6 B5 hs5 hr5 x0 x1 z5
    go_wp2_with fail
    obtain ⟨Wb, hWb⟩ : ∃ Wb, Wb = (w6.alloc (.cells #[.int .i64 v1, .int .i64 v2] 46)) := ⟨_, rfl⟩
    rw [← hWb]
    have yWb0_0 : Wb.cell? ⟨w6.heap.size, 0, none⟩ = some (.int .i64 v1) := by rw [hWb]; go_simp
    have yWb0_1 : Wb.cell? ⟨w6.heap.size, 1, none⟩ = some (.int .i64 v2) := by rw [hWb]; go_simp
    have fWb0 : ∀ o, Wb.frozen? ⟨w6.heap.size, o, none⟩ = false := by intro o; rw [hWb]; (repeat rw [frozen?_alloc_cells]); simp [World.frozen?]
    have zWb0 : w6.heap.size < Wb.heap.size := by rw [hWb]; simp <;> omega
    have BWb : Below w6.heap.size w6 Wb := by rw [hWb]; exact (Below.alloc (Below.refl _ _) (by simp <;> omega) _)
    have eWb : Hid (Wb.heap.size = w6.heap.size + 1) := Lib.hid (by rw [hWb]; simp)
    clear hWb
    have hs7 := set_below hs6 BWb
    have HR7 := Lib.hid (rwi_below HR6.out BWb zu)
    have B7 := B6.trans (BWb.mono B6.size)
    have zv : u5 ≤ Wb.heap.size := Nat.le_trans zu BWb.size
    clear BWb hs6 HR6 B6 yWb0_0 yWb0_1 fWb0 zWb0 eWb y0 y1 z6 zu
    refine (KP.out _ _ _).mono ?_; rintro e w7 ⟨rfl, hb7⟩
    have hs8 := set_below hs7 hb7
    have HR8 := Lib.hid (rwi_below HR7.out hb7 zv)
    have B8 := B7.trans (hb7.mono B7.size)
    have zw : u5 ≤ w7.heap.size := Nat.le_trans zv hb7.size
    clear hb7 hs7 HR7 B7 zv
    go_wp2_with fail
    refine (KT.out w7 B8).mono ?_; rintro e w8 ⟨rfl, hb8, hs9⟩
    have hsA := set_below hs8 hb8
    have HR9 := Lib.hid (rwi_below HR8.out hb8 zw)
    have B9 := B8.trans (hb8.mono B8.size)
    have zx : u5 ≤ w8.heap.size := Nat.le_trans zw hb8.size
    generalize w7.heap.size = g3 at *
    clear hb8 hs8 HR8 B8 zw
    go_wp2_with fail
    refine (KE.out w8 _ _ hsA hs9).mono ?_; rintro e w9 ⟨rfl, hb9⟩
    have HRA := Lib.hid (rwi_below HR9.out hb9 zx)
    have BA := B9.trans (hb9.mono B9.size)
    have zy : u5 ≤ w9.heap.size := Nat.le_trans zx hb9.size
    clear hb9 hsA hs9 HR9 B9 zx
    go_wp2_with fail
    refine (KU.out w9 BA).mono ?_; rintro e w10 ⟨rfl, hb10, hr10⟩
    have HRB := Lib.hid (rwi_below HRA.out hb10 zy)
    have BB := BA.trans (hb10.mono BA.size)
    have zz : u5 ≤ w10.heap.size := Nat.le_trans zy hb10.size
    have HRC := Lib.hid hr10
    generalize w9.heap.size = g4 at *
    clear hb10 HRA BA zy hr10
    go_wp2_with fail
    refine (KV.out w10 _ _ _ _ _ _ HRB.out zz HRC.out (Nat.le_refl _)).mono ?_; rintro e w11 ⟨rfl, hb11⟩
    have BC := BB.trans (hb11.mono BB.size)
    go_wp2_with fail
    go_ret
    exact ⟨rfl, BC⟩
set_option maxRecDepth 100000 in
theorem pegOfParts_lifted (os : Os) (started : os.Started) (H : Type) (enc : TypeId × Value → H) :
    ReturnsInHanded {} Try.checked os 13 .any (Rows.fnExactPegOfPartsSpec.pre6 enc Try.prog Try.f13 Rows.fnExactPegOfPartsRow.domain false) (Rows.fnExactPegOfPartsSpec.post enc Try.prog Try.f13 false true false false) := by
  refine returnsInHanded_of_change (C := Try.checked) own started (by kernel_rfl) Try.func13
    (ChangeSpec.witness6 (enc := enc) (C := Try.checked) false ⟨#[], #[.slice none 0 0, .slice none 0 0], []⟩ 8 (by kernel_rfl) (by kernel_rfl) (by kernel_rfl) (by kernel_rfl)) ?_
  intro W base args ds gs before hval0 hW hcnd _
  have hval : ∀ (j : Nat) t v, Try.f13.params[j]? = some t → args[j]? = some v → Value.okWide Try.prog W .any base t v := hval0
  have hW' := hW
  obtain ⟨p, q, hA0, hV, rfl, hfz, hnd⟩ := hW
  have hA : DataW.TrodAll enc Try.prog W 0 (fun _ => true) true Try.f13.params.toList args.toList ds p := hA0
  rw [Try.params13] at hA hval
  obtain ⟨v0, vs0, d0, ds0, p0, q0, hargs, rfl, rfl, h0, r0⟩ := trodAll_cons hA
  obtain ⟨v1, vs1, d1, ds1, p1, q1, rfl, rfl, rfl, h1, r1⟩ := trodAll_cons r0
  obtain ⟨rfl, rfl, rfl⟩ := trodAll_nil r1
  obtain rfl : args = #[v0, v1] := by cases args; simp_all
  obtain ⟨A0, c0, l0, rfl, hlc0, hcm0, hR0⟩ := open_pegs (hval 0 22 v0 rfl rfl) h0
  unfold maxLen at hcm0
  obtain ⟨A1, c1, n1, f1, rfl, hlc1, hcm1, hR1⟩ := open_numbers (hval 1 30 v1 rfl rfl) h1
  unfold maxLen at hcm1
  refine (pegOfParts_walk A0 c0 l0 A1 c1 n1 f1 W hlc0 hcm0 hR0 hlc1 hcm1 hR1).mono fun e W' ⟨he, hb⟩ => ?_
  subst he
  exact ⟨_, rfl, law_done hW' rfl (by kernel_rfl) (fun t ht => by rw [Try.params13] at ht; simp at ht; first | (rcases ht with rfl | rfl <;> first | exact fineL | exact fineI)) rfl hb⟩
theorem pegOfParts_over : Rows.fnExactPegOfPartsRow.holds Try.pinned (OpenSpec.ofChange Rows.fnExactPegOfPartsSpec) :=
  OpenClaim.holds_of_wide 13 Try.f13 rfl rfl rfl rfl rfl rfl rfl ⟨rfl, rfl, rfl, rfl, rfl⟩ rfl rfl rfl rfl rfl (by kernel_rfl) Try.func13 (by kernel_rfl)
    (of_decide_eq_true (by kernel_rfl)) (by unfold Func.isWrapper; rw [if_neg (of_decide_eq_false (by kernel_rfl))]; exact ⟨rfl, rfl⟩)
    (fun os started H enc _ => pegOfParts_lifted os started H enc)
theorem pegOfParts_proved : Rows.FnExactPegOfPartsSaid := pegOfParts_over
end Go.Proofs.Ytgjegildeejghaa
