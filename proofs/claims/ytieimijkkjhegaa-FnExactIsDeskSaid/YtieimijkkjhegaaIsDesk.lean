/- The law FnExactIsDesk returns true at every two lists of points, whatever their length and numbers, and changes nothing: the program tells whether they are a desk as its model does. -/
import Derived.Test.YtieimijkkjhegaaDa
import Derived.Test.YtieimijkkjhegaaDb
import Derived.Deep.CutRange
import Derived.Deep.RegionWith
import Derived.Deep.DeepMust
namespace Go.Proofs.Ytieimijkkjhegaa
open Go.ChangeShapes Go.WideShapes Go.ChangeAt Go.RowKit Go.Joins
set_option linter.unusedVariables false
set_option linter.unusedSimpArgs false
set_option maxRecDepth 4000
open Go.Deep
section
variable {H : Type} {enc : TypeId × Value → H}
theorem pegs_of_trod {w : World} {base : Nat} {spare : Nat → Bool} {fuel : Nat} {v : Value} {x : DataW H × List MemPlace}
    (hf : DataW.trod enc Try.prog w base spare true fuel 22 [v] = some x) : ∃ (A : Option Addr) (c : Nat) (l : List (Int × Int)), v = .slice A l.length c ∧ l.length ≤ c ∧ c ≤ maxLen ∧ Rd w w.heap.size A l := by
  rcases open_slice Try.underlying22 hf with ⟨hcs, _⟩ | ⟨a, len, cap, m, n, D, Pl, hcs, _, hl, hm, hmm, _, hi⟩
  · obtain rfl : v = .slice none 0 0 := by simpa using hcs
    exact ⟨none, 0, [], rfl, by simp, by simp, fun h => absurd h (by simp)⟩
  · obtain rfl : v = .slice (some a) len cap := by simpa using hcs
    have hml : len ≤ m := by rw [hmm]; split <;> omega
    have hC : Try.prog.cellsOf 74 = 2 := cells74
    have key : ∀ i, ∃ q : Int × Int, i < len → w.cell? (a.add (i * 2)) = some (.int .i64 q.1) ∧ w.cell? ((a.add (i * 2)).add 1) = some (.int .i64 q.2) := fun i => by
      by_cases hlt : i < len
      · obtain ⟨cs', hc, ht⟩ := hi i (by omega)
        rw [hC] at hc
        obtain ⟨_, hcl, hat⟩ := World.cells?_some hc
        match cs', hcl with
        | [c0, c1], _ =>
          obtain ⟨x, y, rfl, rfl⟩ := read_peg ht
          have h0 := hat 0 (by omega)
          have h1 := hat 1 (by omega)
          refine ⟨(x, y), fun _ => ⟨?_, h1⟩⟩
          have : (a.add (i * 2)).add 0 = a.add (i * 2) := by unfold Addr.add; simp
          rw [this] at h0
          exact h0
      · exact ⟨(0, 0), fun h => absurd h hlt⟩
    refine ⟨some a, cap, (List.range len).map fun i => Classical.choose (key i), by simp, by simpa using hl, hm, fun hpos => ?_⟩
    have hpos' : 0 < len := by simpa using hpos
    have k0 := (Classical.choose_spec (key 0) hpos').1
    obtain ⟨b, off, spot⟩ := a
    have hspot : spot = none := by simpa [Addr.add] using World.cell?_spot k0
    subst hspot
    refine ⟨b, off, rfl, ?_, fun i q hq => ?_⟩
    · have := lt_of_cell k0
      rw [add_plain] at this
      exact this
    · have hlt : i < len := by
        have := (List.getElem?_eq_some_iff.1 hq).1
        simpa using this
      have e : q = Classical.choose (key i) := by
        rw [List.getElem?_map, List.getElem?_range hlt] at hq
        simpa using hq.symm
      have hs := Classical.choose_spec (key i) hlt
      rw [← e] at hs
      rw [add_plain, add_plain] at hs
      exact hs
theorem open_desk {w : World} {r : Reach} {b0 base : Nat} {spare : Nat → Bool} {v : Value} {d : DataW H} {p : List MemPlace} (hv : Value.okWide Try.prog w r b0 49 v)
    (h : DataW.Trod enc Try.prog w base spare true 49 v d p) : ∃ (A1 : Option Addr) (c1 : Nat) (l1 : List (Int × Int)) (A2 : Option Addr) (c2 : Nat) (l2 : List (Int × Int)), v = .agg #[.slice A1 l1.length c1, .slice A2 l2.length c2] ∧ l1.length ≤ c1 ∧ c1 ≤ maxLen ∧ l2.length ≤ c2 ∧ c2 ≤ maxLen ∧ Rd w w.heap.size A1 l1 ∧ Rd w w.heap.size A2 l2 := by
  obtain ⟨cs, rfl, hsz⟩ := okWide_struct Try.underlying49 hv
  have hsz2 : cs.size = 2 := hsz.trans (by kernel_rfl)
  obtain ⟨fuel, hf⟩ := h
  obtain ⟨xs, n, _, _, hl, hlen, hg⟩ := DataW.trod_struct Try.underlying49 hf
  obtain ⟨k0, k1, rfl⟩ : ∃ k0 k1, cs = #[k0, k1] := by
    obtain ⟨l⟩ := cs
    match l, hsz2 with
    | [a, b], _ => exact ⟨a, b, rfl⟩
  match xs, hlen with
  | [y0, y1], _ =>
    have h0 := hg 0 _ rfl
    have h1 := hg 1 _ rfl
    have hC : Try.prog.cellsOf 22 = 1 := by kernel_rfl
    simp [Value.cells, hC] at h0 h1
    obtain ⟨A1, c1, l1, rfl, q1, q2, q3⟩ := pegs_of_trod h0
    obtain ⟨A2, c2, l2, rfl, q4, q5, q6⟩ := pegs_of_trod h1
    exact ⟨A1, c1, l1, A2, c2, l2, rfl, q1, q2, q4, q5, q3, q6⟩
end
theorem fineD : Try.prog.readableRec 49 = true ∧ 49 < Try.prog.types.size := ⟨by kernel_rfl, of_decide_eq_true (by kernel_rfl)⟩
set_option maxHeartbeats 4000000 in
theorem isDesk_walk (A1 A2 : Option Addr) (c1 c2 : Nat) (l1 l2 : List (Int × Int)) (w : World) (hc1 : l1.length ≤ c1) (hm1 : c1 ≤ 9223372036854775807) (hc2 : l2.length ≤ c2) (hm2 : c2 ≤ 9223372036854775807) (hR1 : Rd w w.heap.size A1 l1) (hR2 : Rd w w.heap.size A2 l2) :
    Calls Try.prog 10 #[.agg #[.slice A1 l1.length c1, .slice A2 l2.length c2]] w fun e w' => e = .returned (.bool true) ∧ Below w.heap.size w w' := by
  have KZ := Lib.hid (fun W => szDesk_any A1 A2 l1.length c1 l2.length c2 W (by omega) (by omega))
  have HB := Lib.hid (Below.alloc (Below.refl w.heap.size w) (Nat.le_refl _) (.cells #[.slice A1 l1.length c1, .slice A2 l2.length c2] 49))
  by_cases hbig : (l1.length : Int) + l2.length ≤ 1048576
  · rw [if_pos hbig] at KZ
    have hz : ¬ (1048576 : Int) - l1.length - l2.length < 0 := by omega
    have hn1 : l1.length ≤ 1048576 := by omega
    have hn2 : l2.length ≤ 1048576 := by omega
    have KT := Lib.hid (fun W (hb : Below w.heap.size w W) => toDesk_any A1 A2 c1 c2 l1 l2 W hn1 hn2 (rd_more (rd_below hR1 hb (Nat.le_refl _)) hb.size) (rd_more (rd_below hR2 hb (Nat.le_refl _)) hb.size))
    have KS := Lib.hid (fun W g1 g2 (h1 : Set W g1 l1.length l1.length l1) (h2 : Set W g2 l2.length l2.length l2) => specIsDesk_any (some ⟨g1, 0, none⟩) (some ⟨g2, 0, none⟩) l1.length l2.length l1 l2 W hn1 hn2 (Nat.le_refl _) (by omega) (Nat.le_refl _) (by omega) (rd_of_set h1) (rd_of_set h2))
    have KI := Lib.hid (fun W g1 g2 (h1 : Set W g1 l1.length l1.length l1) (h2 : Set W g2 l2.length l2.length l2) => implIsDesk_any (some ⟨g1, 0, none⟩) (some ⟨g2, 0, none⟩) l1.length l2.length l1 l2 W hn1 hn2 (rd_of_set h1) (rd_of_set h2))
    have KE := Lib.hid (fun W g1 g2 g3 g4 (h1 : Set W g1 l1.length l1.length l1) (h2 : Set W g2 l2.length l2.length l2) (h3 : Set W g3 l1.length l1.length l1) (h4 : Set W g4 l2.length l2.length l2) => eqDesk_same (some ⟨g1, 0, none⟩) (some ⟨g2, 0, none⟩) (some ⟨g3, 0, none⟩) (some ⟨g4, 0, none⟩) l1.length l2.length l1.length l2.length l1 l2 W hn1 hn2 (rd_of_set h1) (rd_of_set h2) (rd_of_set h3) (rd_of_set h4))
    clear hR1 hR2 hc1 hm1 hc2 hm2 hbig hn1 hn2
    generalize (goodB l1 && goodB l2) = gb at *
    generalize hq1 : l1.length = n1 at *
    generalize hq2 : l2.length = n2 at *
    clear hq1 hq2
    go_enter Try.func10, Try.ntmps10
    go_wp2_with fail
    refine (KZ.out _).mono ?_; rintro e w0 ⟨rfl, hb0⟩
    have B0 := HB.out.trans (hb0.mono HB.out.size)
    have y0 : w0.cell? ⟨w.heap.size, 0, none⟩ = some (.slice A1 n1 c1) := ((bcell hb0).1 w.heap.size 0 (by simp)).trans (by go_simp)
    have y1 : w0.cell? ⟨w.heap.size, 1, none⟩ = some (.slice A2 n2 c2) := ((bcell hb0).1 w.heap.size 1 (by simp)).trans (by go_simp)
    have z0 : w.heap.size < w0.heap.size := by have := hb0.size; simp at this; omega
    clear hb0 KZ HB
    go_wp2_with fail
    refine (KT.out _ B0).mono ?_; rintro e w1 ⟨g1, g2, rfl, hb1, s1, s2⟩
    have B1 := B0.trans (hb1.mono B0.size)
    have y0' := ((bcell hb1).1 _ 0 z0).trans y0
    have y1' := ((bcell hb1).1 _ 1 z0).trans y1
    have z1 := Nat.lt_of_lt_of_le z0 hb1.size
    clear hb1 y0 y1 z0 B0
    go_wp2_with fail
    refine (KS.out _ _ _ s1 s2).mono ?_; rintro e w2 ⟨rfl, hb2⟩
    have B2 := B1.trans (hb2.mono B1.size)
    have y0 := ((bcell hb2).1 _ 0 z1).trans y0'
    have y1 := ((bcell hb2).1 _ 1 z1).trans y1'
    have z2 := Nat.lt_of_lt_of_le z1 hb2.size
    clear hb2 y0' y1' z1 B1 s1 s2
    go_wp2_with fail
    refine (KT.out _ B2).mono ?_; rintro e w3 ⟨g3, g4, rfl, hb3, s3, s4⟩
    have B3 := B2.trans (hb3.mono B2.size)
    have y0' := ((bcell hb3).1 _ 0 z2).trans y0
    have y1' := ((bcell hb3).1 _ 1 z2).trans y1
    have z3 := Nat.lt_of_lt_of_le z2 hb3.size
    clear hb3 y0 y1 z2 B2
    go_wp2_with fail
    obtain ⟨W4, hW4⟩ : ∃ W4, W4 = w3.alloc (.cells #[.slice (some ⟨g3, 0, none⟩) n1 n1, .slice (some ⟨g4, 0, none⟩) n2 n2] 53) := ⟨_, rfl⟩
    rw [← hW4]
    have BW : Below w3.heap.size w3 W4 := by rw [hW4]; exact Below.alloc (Below.refl _ _) (Nat.le_refl _) _
    have x0 : W4.cell? ⟨w3.heap.size, 0, none⟩ = some (.slice (some ⟨g3, 0, none⟩) n1 n1) := by rw [hW4]; go_simp
    have x1 : W4.cell? ⟨w3.heap.size, 1, none⟩ = some (.slice (some ⟨g4, 0, none⟩) n2 n2) := by rw [hW4]; go_simp
    have zx : w3.heap.size < W4.heap.size := by rw [hW4]; simp
    clear hW4
    have B4 := B3.trans (BW.mono B3.size)
    have s5 := set_below s3 BW
    have s6 := set_below s4 BW
    have y0 := ((bcell BW).1 _ 0 z3).trans y0'
    have y1 := ((bcell BW).1 _ 1 z3).trans y1'
    have z4 := Nat.lt_of_lt_of_le z3 BW.size
    obtain ⟨gx, hgx⟩ : ∃ g, g = w3.heap.size := ⟨_, rfl⟩
    rw [← hgx] at x0 x1 zx ⊢
    clear hgx BW y0' y1' z3 B3 s3 s4
    refine (KI.out _ _ _ s5 s6).mono ?_; rintro e w5 ⟨rfl, hb5⟩
    have B5 := B4.trans (hb5.mono B4.size)
    have y0' := ((bcell hb5).1 _ 0 z4).trans y0
    have y1' := ((bcell hb5).1 _ 1 z4).trans y1
    have z5 := Nat.lt_of_lt_of_le z4 hb5.size
    have x0' := ((bcell hb5).1 _ 0 zx).trans x0
    have x1' := ((bcell hb5).1 _ 1 zx).trans x1
    have zx' := Nat.lt_of_lt_of_le zx hb5.size
    have s7 := Lib.hid (set_below s5 hb5)
    have s8 := Lib.hid (set_below s6 hb5)
    have E8 : Hid (∀ W ga gb, Below w5.heap.size w5 W → Set W ga n1 n1 l1 → Set W gb n2 n2 l2 → Calls Try.prog 40 #[.agg #[.slice (some ⟨g3, 0, none⟩) n1 n1, .slice (some ⟨g4, 0, none⟩) n2 n2], .agg #[.slice (some ⟨ga, 0, none⟩) n1 n1, .slice (some ⟨gb, 0, none⟩) n2 n2]] W fun e w' => e = .returned (.bool true) ∧ Below W.heap.size W w') :=
      Lib.hid (fun W ga gb hb h3 h4 => KE.out W g3 g4 ga gb (set_below s7.out hb) (set_below s8.out hb) h3 h4)
    clear hb5 y0 y1 z4 x0 x1 zx s5 s6 B4 KE KS KI s7 s8
    go_upto_region 10 with fail
    go_region_with (first
      | (go_at_call 38; go_loud (refine (KT.out _ (by first | exact B5 | exact B5.drew)).mono ?_); rintro e wA ⟨ga, gb, rfl, hbA, sA1, sA2⟩;
         have kA : Below w5.heap.size w5 wA := (by first | exact hbA | exact (Below.refl _ _).drew.trans hbA);
         have xA0 := ((bcell kA).1 _ 0 zx').trans x0';
         have xA1 := ((bcell kA).1 _ 1 zx').trans x1';
         have zA := Nat.lt_of_lt_of_le zx' kA.size;
         have BA := B5.trans (kA.mono B5.size);
         clear hbA)
      | (go_at_call 40; go_loud (refine (E8.out _ _ _ kA sA1 sA2).mono ?_); rintro e wB ⟨rfl, hbB⟩;
         have BB := BA.trans (hbB.mono BA.size); clear hbB))
    all_goals
      go_wp2_with fail
      go_ret
      exact ⟨rfl, by first | exact BB | exact BB.drew⟩
  · rw [if_neg hbig] at KZ
    clear hR1 hR2 hc1 hm1 hc2 hm2 hbig
    generalize l1.length = n1 at *
    generalize l2.length = n2 at *
    go_enter Try.func10, Try.ntmps10
    go_wp2_with fail
    refine (KZ.out _).mono ?_; rintro e w0 ⟨rfl, hb0⟩
    go_wp2_with fail
    go_ret
    exact ⟨rfl, HB.out.trans (hb0.mono HB.out.size)⟩
set_option maxRecDepth 100000 in
theorem isDesk_lifted (os : Os) (started : os.Started) (H : Type) (enc : TypeId × Value → H) :
    ReturnsInHanded {} Try.checked os 10 .any (Rows.fnExactIsDeskSpec.pre6 enc Try.prog Try.f10 Rows.fnExactIsDeskRow.domain false) (Rows.fnExactIsDeskSpec.post enc Try.prog Try.f10 false true false false) := by
  refine returnsInHanded_of_change (C := Try.checked) own started (by kernel_rfl) Try.func10
    (ChangeSpec.witness6 (enc := enc) (C := Try.checked) false ⟨#[], #[.agg #[.slice none 0 0, .slice none 0 0]], []⟩ 8 (by kernel_rfl) (by kernel_rfl) (by kernel_rfl) (by kernel_rfl)) ?_
  intro W base args ds gs before hval0 hW hcnd _
  have hval : ∀ (j : Nat) t v, Try.f10.params[j]? = some t → args[j]? = some v → Value.okWide Try.prog W .any base t v := hval0
  have hW' := hW
  obtain ⟨p, q, hA0, hV, rfl, hfz, hnd⟩ := hW
  have hA : DataW.TrodAll enc Try.prog W 0 (fun _ => true) true Try.f10.params.toList args.toList ds p := hA0
  rw [Try.params10] at hA hval
  obtain ⟨v0, vs0, d0, ds0, p0, q0, hargs, rfl, rfl, h0, r0⟩ := trodAll_cons hA
  obtain ⟨rfl, rfl, rfl⟩ := trodAll_nil r0
  obtain rfl : args = #[v0] := by cases args; simp_all
  obtain ⟨A0, c0, l0, A00, c00, l00, rfl, hlc0, hcm0, hlc00, hcm00, hR0, hR00⟩ := open_desk (hval 0 49 v0 rfl rfl) h0
  unfold maxLen at hcm0 hcm00
  refine (isDesk_walk A0 A00 c0 c00 l0 l00 W hlc0 hcm0 hlc00 hcm00 hR0 hR00).mono fun e W' ⟨he, hb⟩ => ?_
  subst he
  exact ⟨_, rfl, law_done hW' rfl (by kernel_rfl) (fun t ht => by rw [Try.params10] at ht; simp at ht; first | (subst ht; exact fineD)) rfl hb⟩
theorem isDesk_over : Rows.fnExactIsDeskRow.holds Try.pinned (OpenSpec.ofChange Rows.fnExactIsDeskSpec) :=
  OpenClaim.holds_of_wide 10 Try.f10 rfl rfl rfl rfl rfl rfl rfl ⟨rfl, rfl, rfl, rfl, rfl⟩ rfl rfl rfl rfl rfl (by kernel_rfl) Try.func10 (by kernel_rfl)
    (of_decide_eq_true (by kernel_rfl)) (by unfold Func.isWrapper; rw [if_neg (of_decide_eq_false (by kernel_rfl))]; exact ⟨rfl, rfl⟩)
    (fun os started H enc _ => isDesk_lifted os started H enc)
theorem isDesk_proved : Rows.FnExactIsDeskSaid := isDesk_over
end Go.Proofs.Ytieimijkkjhegaa
