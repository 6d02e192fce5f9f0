/- The law FnExactFirstDesk returns true and changes nothing: the program's first desk is its model's, in new memory each time. -/
import Derived.Test.YtieimijkkjhegaaDc
import Derived.Test.YtieimijkkjhegaaZ
namespace Go.Proofs.Ytieimijkkjhegaa
open Go.ChangeShapes Go.WideShapes Go.ChangeAt Go.RowKit Go.Joins
set_option linter.unusedVariables false
set_option linter.unusedSimpArgs false
set_option maxRecDepth 4000
set_option maxHeartbeats 2000000 in
theorem firstDesk_walk (w : World) :
    Calls Try.prog 11 #[] w fun e w' => e = .returned (.bool true) ∧ Below w.heap.size w w' := by
  have KS := Lib.hid specFirstDesk_any
  have KI := Lib.hid implFirstDesk_any
  have KE := Lib.hid eqDesk_3
  have KM := Lib.hid (fun W g1 g2 h => markDesk_3 W g1 g2 fdF fdF h)
  have KH := Lib.hid heldDesk_3
  go_enter Try.func11, Try.ntmps11
  go_wp2_with fail
  refine (KS.out _).mono ?_; rintro e w1 ⟨s1, s2, rfl, B1, hs, DS⟩
  go_wp2_with fail
  obtain ⟨W2, hW2⟩ : ∃ W2, W2 = w1.alloc (.cells #[.slice (some ⟨s1, 0, none⟩) 3 3, .slice (some ⟨s2, 0, none⟩) 3 3] 53) := ⟨_, rfl⟩
  have bW2 : Below w1.heap.size w1 W2 := by rw [hW2]; exact Below.alloc (Below.refl _ _) (Nat.le_refl _) _
  have xW2 : Bx2 W2 w1.heap.size s1 s2 := by rw [hW2]; exact bx2_new _ _ _
  rw [← hW2]
  clear hW2
  have B2 := B1.trans (bW2.mono B1.size)
  have DS2 := dk3_below DS bW2
  have hs2 := DS2.up
  obtain ⟨p1, hp1⟩ : ∃ g, g = w1.heap.size := ⟨_, rfl⟩
  rw [← hp1] at xW2 ⊢
  have zp1 := xW2.z
  have X2 := Lib.hid xW2
  clear hp1 B1 DS bW2 xW2
  refine (KI.out _).mono ?_; rintro e w3 ⟨g1, g2, rfl, b3, hg, DG⟩
  have B3 := B2.trans (b3.mono B2.size)
  have DS3 := dk3_below DS2 b3
  have X3 := Lib.hid (bx2_below X2.out b3)
  have hlt := DG.lt
  have hg2 := DG.up
  have c0 := X3.out.c0
  have c1 := X3.out.c1
  have cz := X3.out.z
  clear DS2 X2
  go_wp2_with fail
  obtain ⟨W4, hW4⟩ : ∃ W4, W4 = w3.alloc (.cells #[.slice (some ⟨g1, 0, none⟩) 3 3, .slice (some ⟨g2, 0, none⟩) 3 3] 53) := ⟨_, rfl⟩
  have bW4 : Below w3.heap.size w3 W4 := by rw [hW4]; exact Below.alloc (Below.refl _ _) (Nat.le_refl _) _
  have xW4 : Bx2 W4 w3.heap.size g1 g2 := by rw [hW4]; exact bx2_new _ _ _
  rw [← hW4]
  clear hW4
  have B4 := B3.trans (bW4.mono B3.size)
  have DS4 := dk3_below DS3 bW4
  have DG4 := dk3_below DG bW4
  have X4 := Lib.hid (bx2_below X3.out bW4)
  obtain ⟨p2, hp2⟩ : ∃ g, g = w3.heap.size := ⟨_, rfl⟩
  rw [← hp2] at xW4 ⊢
  have n1 : p2 ≠ g1 := by omega
  have n2 : p2 ≠ g2 := by omega
  have m1 : p1 ≠ g1 := by omega
  have m2 : p1 ≠ g2 := by omega
  have s2g : s2 < g1 := by omega
  have gw : w.heap.size ≤ g1 := by have := B2.size; omega
  have Y4 := Lib.hid xW4
  clear hp2 bW4 xW4 B3 DS3 DG X3 b3 hs hg hs2 hg2 zp1 B2 c0 c1 cz
  refine (KE.out _ _ _ _ _ DG4 DS4).mono ?_; rintro e w5 ⟨rfl, b5⟩
  have B5 := B4.trans (b5.mono B4.size)
  have DS5 := dk3_below DS4 b5
  have DG5 := dk3_below DG4 b5
  have X5 := Lib.hid (bx2_below X4.out b5)
  have Y5 := Lib.hid (bx2_below Y4.out b5)
  have c0 := Y5.out.c0
  have c1 := Y5.out.c1
  have cz := Y5.out.z
  clear b5 B4 DS4 DG4 X4 Y4
  go_wp2_with fail
  refine (KM.out _ _ _ DG5).mono ?_; rintro e w6 ⟨rfl, DG6, b6, C6⟩
  have z6 := b6.size
  have B6 : Below w.heap.size w w6 := B5.trans (b6.mono gw)
  have DS6 := dk3_belowg DS5 b6 s2g
  have X6 : Hid (Bx2 w6 p1 s1 s2) := Lib.hid ⟨Nat.lt_of_lt_of_le X5.out.z z6, (C6 _ _ X5.out.z m1 m2).trans X5.out.c0, (C6 _ _ X5.out.z m1 m2).trans X5.out.c1⟩
  have Y6 : Hid (Bx2 w6 p2 g1 g2) := Lib.hid ⟨Nat.lt_of_lt_of_le Y5.out.z z6, (C6 _ _ Y5.out.z n1 n2).trans Y5.out.c0, (C6 _ _ Y5.out.z n1 n2).trans Y5.out.c1⟩
  clear c0 c1 cz b6 C6 z6 B5 DS5 DG5 X5 Y5
  have c0 := Y6.out.c0
  have c1 := Y6.out.c1
  have cz := Y6.out.z
  go_wp2_with fail
  refine (KH.out _ _ _ DG6).mono ?_; rintro e w7 ⟨rfl, b7⟩
  have B7 := B6.trans (b7.mono B6.size)
  have DS7 := dk3_below DS6 b7
  have DG7 := dk3_below DG6 b7
  have X7 := Lib.hid (bx2_below X6.out b7)
  have Y7 := Lib.hid (bx2_below Y6.out b7)
  clear b7 B6 DS6 DG6 X6 Y6 c0 c1 cz
  go_wp2_with fail
  refine (KI.out _).mono ?_; rintro e w8 ⟨g3, g4, rfl, b8, hg8, DH⟩
  have B8 := B7.trans (b8.mono B7.size)
  have DS8 := dk3_below DS7 b8
  have DG8 := dk3_below DG7 b8
  have X8 := Lib.hid (bx2_below X7.out b8)
  have Y8 := Lib.hid (bx2_below Y7.out b8)
  have c0 := X8.out.c0
  have c1 := X8.out.c1
  have cz := X8.out.z
  clear b8 B7 DS7 DG7 X7 Y7 hg8
  go_wp2_with fail
  obtain ⟨W9, hW9⟩ : ∃ W9, W9 = w8.alloc (.cells #[.slice (some ⟨g3, 0, none⟩) 3 3, .slice (some ⟨g4, 0, none⟩) 3 3] 53) := ⟨_, rfl⟩
  have bW9 : Below w8.heap.size w8 W9 := by rw [hW9]; exact Below.alloc (Below.refl _ _) (Nat.le_refl _) _
  have xW9 : Bx2 W9 w8.heap.size g3 g4 := by rw [hW9]; exact bx2_new _ _ _
  rw [← hW9]
  clear hW9
  have B9 := B8.trans (bW9.mono B8.size)
  have DS9 := dk3_below DS8 bW9
  have DG9 := dk3_below DG8 bW9
  have DH9 := dk3_below DH bW9
  have Y9 := Lib.hid (bx2_below Y8.out bW9)
  clear bW9 xW9 B8 DS8 DG8 DH X8 Y8 c0 c1 cz
  refine (KE.out _ _ _ _ _ DH9 DS9).mono ?_; rintro e w10 ⟨rfl, b10⟩
  have B10 := B9.trans (b10.mono B9.size)
  have DG10 := dk3_below DG9 b10
  have Y10 := bx2_below Y9.out b10
  have c0 := Y10.c0
  have c1 := Y10.c1
  have cz := Y10.z
  clear b10 B9 DS9 DG9 DH9 Y9 Y10
  go_wp2_with fail
  refine (KH.out _ _ _ DG10).mono ?_; rintro e w11 ⟨rfl, b11⟩
  go_wp2_with fail
  go_ret
  exact ⟨rfl, B10.trans (b11.mono B10.size)⟩
set_option maxRecDepth 100000 in
theorem firstDesk_lifted (os : Os) (started : os.Started) (H : Type) (enc : TypeId × Value → H) :
    ReturnsInHanded {} Try.checked os 11 .any (Rows.fnExactFirstDeskSpec.pre6 enc Try.prog Try.f11 Rows.fnExactFirstDeskRow.domain false) (Rows.fnExactFirstDeskSpec.post enc Try.prog Try.f11 false true false false) := by
  refine returnsInHanded_of_change (C := Try.checked) own started (by kernel_rfl) Try.func11
    (ChangeSpec.witness6 (enc := enc) (C := Try.checked) false ⟨#[], #[], []⟩ 8 (by kernel_rfl) (by kernel_rfl) (by kernel_rfl) (by kernel_rfl)) ?_
  intro W base args ds gs before hval0 hW hcnd _
  have hval : ∀ (j : Nat) t v, Try.f11.params[j]? = some t → args[j]? = some v → Value.okWide Try.prog W .any base t v := hval0
  have hW' := hW
  obtain ⟨p, q, hA0, hV, rfl, hfz, hnd⟩ := hW
  have hA : DataW.TrodAll enc Try.prog W 0 (fun _ => true) true Try.f11.params.toList args.toList ds p := hA0
  rw [Try.params11] at hA hval
  obtain ⟨ha, rfl, rfl⟩ := trodAll_nil hA
  obtain rfl : args = #[] := by cases args; simp_all
  refine (firstDesk_walk W).mono fun e W' ⟨he, hb⟩ => ?_
  subst he
  exact ⟨_, rfl, law_done hW' rfl (by kernel_rfl) (fun t ht => by rw [Try.params11] at ht; simp at ht) rfl hb⟩
theorem firstDesk_over : Rows.fnExactFirstDeskRow.holds Try.pinned (OpenSpec.ofChange Rows.fnExactFirstDeskSpec) :=
  OpenClaim.holds_of_wide 11 Try.f11 rfl rfl rfl rfl rfl rfl rfl ⟨rfl, rfl, rfl, rfl, rfl⟩ rfl rfl rfl rfl rfl (by kernel_rfl) Try.func11 (by kernel_rfl)
    (of_decide_eq_true (by kernel_rfl)) (by unfold Func.isWrapper; rw [if_neg (of_decide_eq_false (by kernel_rfl))]; exact ⟨rfl, rfl⟩)
    (fun os started H enc _ => firstDesk_lifted os started H enc)
theorem firstDesk_proved : Rows.FnExactFirstDeskSaid := firstDesk_over
end Go.Proofs.Ytieimijkkjhegaa
