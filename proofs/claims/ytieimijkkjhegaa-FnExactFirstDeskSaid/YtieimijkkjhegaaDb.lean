/- desks of the laws: laid anew, compared -/
import Derived.Test.YtieimijkkjhegaaO
import Derived.Test.YtieimijkkjhegaaZ
import Derived.Test.YtieimijkkjhegaaSax
import Derived.OneCell
namespace Go.Proofs.Ytieimijkkjhegaa
open Go.ChangeShapes Go.WideShapes Go.ChangeAt Go.RowKit Go.Joins
set_option linter.unusedVariables false
set_option linter.unusedSimpArgs false
set_option maxRecDepth 4000
theorem set_set {W : World} {g n k : Nat} {l : List (Int × Int)} {a : Addr} (h : Set W g n k l) (u : Value) (ha : a.block ≠ g) : Set (W.setCell a u) g n k l := by
  obtain ⟨h1, h2, h3⟩ := h
  have hc : ∀ o, (W.setCell a u).cell? ⟨g, o, none⟩ = W.cell? ⟨g, o, none⟩ := fun o => World.cell?_setCell_other _ _ _ _ (fun e => ha (by rw [e]))
  refine ⟨by simpa [World.setCell] using h1, fun i hi => ?_, fun i p hi hp => ?_⟩
  · rw [hc, hc, World.frozen?_setCell, World.frozen?_setCell]
    exact h2 i hi
  · rw [hc, hc]
    exact h3 i p hi hp
/-- the boxes of toDesk -/
structure Tdk (w W : World) (h : Nat) (A1 A2 : Option Addr) (n1 c1 n2 c2 : Nat) (s1 s2 : Value) : Prop where
  below : Below w.heap.size w W
  lo : w.heap.size ≤ h
  up : h + 1 + 1 < W.heap.size
  a0 : W.cell? ⟨h, 0, none⟩ = some (.slice A1 n1 c1)
  a1 : W.cell? ⟨h, 1, none⟩ = some (.slice A2 n2 c2)
  r0 : W.cell? ⟨h + 1, 0, none⟩ = some (.slice none 0 0)
  r1 : W.cell? ⟨h + 1, 1, none⟩ = some (.slice none 0 0)
  o0 : W.cell? ⟨h + 1 + 1, 0, none⟩ = some s1
  o1 : W.cell? ⟨h + 1 + 1, 1, none⟩ = some s2
  fr : ∀ o, W.frozen? ⟨h + 1, o, none⟩ = false
  fo : ∀ o, W.frozen? ⟨h + 1 + 1, o, none⟩ = false
theorem tdk_below {w W W' : World} {h : Nat} {A1 A2 : Option Addr} {n1 c1 n2 c2 : Nat} {s1 s2 : Value} (t : Tdk w W h A1 A2 n1 c1 n2 c2 s1 s2) (hb : Below W.heap.size W W') : Tdk w W' h A1 A2 n1 c1 n2 c2 s1 s2 := by
  obtain ⟨t1, t2, t3, t4, t5, t6, t7, t8, t9, t10, t11⟩ := t
  have hc := (bcell hb).1
  have hf := (bcell hb).2
  have hz := hb.size
  exact ⟨t1.trans (hb.mono t1.size), t2, by omega, (hc _ _ (by omega)).trans t4, (hc _ _ (by omega)).trans t5, (hc _ _ (by omega)).trans t6, (hc _ _ (by omega)).trans t7, (hc _ _ (by omega)).trans t8, (hc _ _ (by omega)).trans t9, fun o => (hf _ _ (by omega)).trans (t10 o), fun o => (hf _ _ (by omega)).trans (t11 o)⟩
theorem tdk_set0 {w W : World} {h : Nat} {A1 A2 : Option Addr} {n1 c1 n2 c2 : Nat} {s1 s2 : Value} (t : Tdk w W h A1 A2 n1 c1 n2 c2 s1 s2) (u : Value) : Tdk w (W.setCell ⟨h + 1 + 1, 0, none⟩ u) h A1 A2 n1 c1 n2 c2 u s2 := by
  obtain ⟨t1, t2, t3, t4, t5, t6, t7, t8, t9, t10, t11⟩ := t
  have o : ∀ b k, (b, k) ≠ (h + 1 + 1, 0) → (W.setCell ⟨h + 1 + 1, 0, none⟩ u).cell? ⟨b, k, none⟩ = W.cell? ⟨b, k, none⟩ := fun b k hk => World.cell?_setCell_other _ _ _ _ (fun e => hk (by injection e with e1 e2; rw [e1, e2]))
  exact ⟨t1.setCell (by show _ ≤ h + 1 + 1; omega) _, t2, by simpa [World.setCell] using t3, (o _ _ (by simp <;> omega)).trans t4, (o _ _ (by simp <;> omega)).trans t5, (o _ _ (by simp <;> omega)).trans t6, (o _ _ (by simp <;> omega)).trans t7, World.cell?_setCell_same _ _ _ t8, (o _ _ (by simp <;> omega)).trans t9, fun k => by rw [World.frozen?_setCell]; exact t10 k, fun k => by rw [World.frozen?_setCell]; exact t11 k⟩
theorem tdk_set1 {w W : World} {h : Nat} {A1 A2 : Option Addr} {n1 c1 n2 c2 : Nat} {s1 s2 : Value} (t : Tdk w W h A1 A2 n1 c1 n2 c2 s1 s2) (u : Value) : Tdk w (W.setCell ⟨h + 1 + 1, 1, none⟩ u) h A1 A2 n1 c1 n2 c2 s1 u := by
  obtain ⟨t1, t2, t3, t4, t5, t6, t7, t8, t9, t10, t11⟩ := t
  have o : ∀ b k, (b, k) ≠ (h + 1 + 1, 1) → (W.setCell ⟨h + 1 + 1, 1, none⟩ u).cell? ⟨b, k, none⟩ = W.cell? ⟨b, k, none⟩ := fun b k hk => World.cell?_setCell_other _ _ _ _ (fun e => hk (by injection e with e1 e2; rw [e1, e2]))
  exact ⟨t1.setCell (by show _ ≤ h + 1 + 1; omega) _, t2, by simpa [World.setCell] using t3, (o _ _ (by simp <;> omega)).trans t4, (o _ _ (by simp <;> omega)).trans t5, (o _ _ (by simp <;> omega)).trans t6, (o _ _ (by simp <;> omega)).trans t7, (o _ _ (by simp <;> omega)).trans t8, World.cell?_setCell_same _ _ _ t9, fun k => by rw [World.frozen?_setCell]; exact t10 k, fun k => by rw [World.frozen?_setCell]; exact t11 k⟩
theorem tdk_new (w : World) (A1 A2 : Option Addr) (n1 c1 n2 c2 : Nat) : Tdk w (((w.alloc (.cells #[.slice A1 n1 c1, .slice A2 n2 c2] 49)).alloc (.cells #[.slice none 0 0, .slice none 0 0] 53)).alloc (.cells #[.slice none 0 0, .slice none 0 0] 53)) w.heap.size A1 A2 n1 c1 n2 c2 (.slice none 0 0) (.slice none 0 0) := by
  refine ⟨Below.alloc (Below.alloc (Below.alloc (Below.refl _ _) (Nat.le_refl _) _) (by simp) _) (by simp; omega) _, Nat.le_refl _, by simp, by go_simp, by go_simp, by go_simp, by go_simp, by go_simp, by go_simp, fun o => ?_, fun o => ?_⟩
  · have e : w.heap[w.heap.size + 1]? = none := Array.getElem?_eq_none (by omega)
    rw [frozen?_alloc_cells, frozen?_alloc_cells, frozen?_alloc_cells]; simp [World.frozen?, e]
  · have e : w.heap[w.heap.size + 1 + 1]? = none := Array.getElem?_eq_none (by omega)
    rw [frozen?_alloc_cells, frozen?_alloc_cells, frozen?_alloc_cells]; simp [World.frozen?, e]
set_option maxHeartbeats 1000000 in
theorem toDesk_any (A1 A2 : Option Addr) (c1 c2 : Nat) (l1 l2 : List (Int × Int)) (w : World) (hn1 : l1.length ≤ 1048576) (hn2 : l2.length ≤ 1048576) (hR1 : Rd w w.heap.size A1 l1) (hR2 : Rd w w.heap.size A2 l2) :
    Calls Try.prog 38 #[.agg #[.slice A1 l1.length c1, .slice A2 l2.length c2]] w fun e w' => ∃ g1 g2, e = .returned (.agg #[.slice (some ⟨g1, 0, none⟩) l1.length l1.length, .slice (some ⟨g2, 0, none⟩) l2.length l2.length]) ∧ Below w.heap.size w w' ∧ Set w' g1 l1.length l1.length l1 ∧ Set w' g2 l2.length l2.length l2 := by
  have K1 := Lib.hid (fun W (hb : Below w.heap.size w W) => toPegS_any A1 c1 l1 W hn1 (rd_more (rd_below hR1 hb (Nat.le_refl _)) hb.size))
  have K2 := Lib.hid (fun W (hb : Below w.heap.size w W) => toPegS_any A2 c2 l2 W hn2 (rd_more (rd_below hR2 hb (Nat.le_refl _)) hb.size))
  have T0 := Lib.hid (tdk_new w A1 A2 l1.length c1 l2.length c2)
  clear hR1 hR2 hn1 hn2
  generalize hq1 : l1.length = n1 at *
  generalize hq2 : l2.length = n2 at *
  clear hq1 hq2
  go_enter Try.func38, Try.ntmps38
  go_wp2_with fail
  have TT := T0.out
  obtain ⟨W0, hW0⟩ : ∃ W0, W0 = (((w.alloc (.cells #[.slice A1 n1 c1, .slice A2 n2 c2] 49)).alloc (.cells #[.slice none 0 0, .slice none 0 0] 53)).alloc (.cells #[.slice none 0 0, .slice none 0 0] 53)) := ⟨_, rfl⟩
  rw [← hW0] at TT ⊢
  clear hW0 T0
  refine (K1.out _ TT.below).mono ?_; rintro e w1 ⟨rfl, hb1, s1⟩
  have T1 := Lib.hid (tdk_below TT hb1)
  have g1lo : w.heap.size + 1 + 1 < W0.heap.size := TT.up
  obtain ⟨ga, hga⟩ : ∃ g, g = W0.heap.size := ⟨_, rfl⟩
  rw [← hga] at s1 g1lo ⊢
  have S1 := Lib.hid s1
  clear hga hb1 TT s1
  have q1 := T1.out.o0
  have q2 := T1.out.fo 0
  have q3 := T1.out.up
  have q4 := T1.out.a1
  go_wp2_with fail
  have T2 := Lib.hid (tdk_set0 T1.out (.slice (some ⟨ga, 0, none⟩) n1 n1))
  have S2 := Lib.hid (set_set (a := ⟨w.heap.size + 1 + 1, 0, none⟩) S1.out (.slice (some ⟨ga, 0, none⟩) n1 n1) (by show w.heap.size + 1 + 1 ≠ ga; omega))
  clear T1 S1 q1 q2 q3 q4
  generalize w1.setCell ⟨w.heap.size + 1 + 1, 0, none⟩ (.slice (some ⟨ga, 0, none⟩) n1 n1) = w2 at *
  have q3 := T2.out.up
  refine (K2.out _ T2.out.below).mono ?_; rintro e w3 ⟨rfl, hb3, s3⟩
  have T3 := Lib.hid (tdk_below T2.out hb3)
  have S3 := Lib.hid (set_below S2.out hb3)
  obtain ⟨gb, hgb⟩ : ∃ g, g = w2.heap.size := ⟨_, rfl⟩
  rw [← hgb] at s3 q3 ⊢
  have S4 := Lib.hid s3
  clear hgb hb3 T2 s3 S2
  obtain ⟨t1, t2, t3, t4, t5, t6, t7, t8, t9, t10, t11⟩ := T3.out
  have f0 := t10 0
  have f1 := t10 1
  have f2 := t11 1
  have BZ := t1
  clear t10 t11 t1
  go_wp2_with fail
  have X1 := set_set (a := ⟨w.heap.size + 1, 1, none⟩) (set_set (a := ⟨w.heap.size + 1, 0, none⟩) (set_set (a := ⟨w.heap.size + 1 + 1, 1, none⟩) S3.out (.slice (some ⟨gb, 0, none⟩) n2 n2) (by show w.heap.size + 1 + 1 ≠ ga; omega)) (.slice (some ⟨ga, 0, none⟩) n1 n1) (by show w.heap.size + 1 ≠ ga; omega)) (.slice (some ⟨gb, 0, none⟩) n2 n2) (by show w.heap.size + 1 ≠ ga; omega)
  have X2 := set_set (a := ⟨w.heap.size + 1, 1, none⟩) (set_set (a := ⟨w.heap.size + 1, 0, none⟩) (set_set (a := ⟨w.heap.size + 1 + 1, 1, none⟩) S4.out (.slice (some ⟨gb, 0, none⟩) n2 n2) (by show w.heap.size + 1 + 1 ≠ gb; omega)) (.slice (some ⟨ga, 0, none⟩) n1 n1) (by show w.heap.size + 1 ≠ gb; omega)) (.slice (some ⟨gb, 0, none⟩) n2 n2) (by show w.heap.size + 1 ≠ gb; omega)
  refine bodyPost_ret (v := .agg #[.slice (some ⟨ga, 0, none⟩) n1 n1, .slice (some ⟨gb, 0, none⟩) n2 n2]) (by simp [results, Try.results38, go_sem, t6, t7, t3]) rfl ⟨ga, gb, rfl, ?_, X1, X2⟩
  exact ((BZ.setCell (p := ⟨w.heap.size + 1 + 1, 1, none⟩) (by show _ ≤ w.heap.size + 1 + 1; omega) _).setCell (p := ⟨w.heap.size + 1, 0, none⟩) (by show _ ≤ w.heap.size + 1; omega) _).setCell (p := ⟨w.heap.size + 1, 1, none⟩) (by show _ ≤ w.heap.size + 1; omega) _
theorem szDesk_any (A1 A2 : Option Addr) (n1 c1 n2 c2 : Nat) (w : World) (h1 : n1 ≤ 9223372036854775807) (h2 : n2 ≤ 9223372036854775807) :
    Calls Try.prog 36 #[.agg #[.slice A1 n1 c1, .slice A2 n2 c2], .int .i64 1048576] w fun e w' => e = .returned (.int .i64 (if (n1 : Int) + n2 ≤ 1048576 then 1048576 - n1 - n2 else -1)) ∧ Below w.heap.size w w' := by
  have K1 := Lib.hid (fun W => szPegS_any A1 n1 c1 1048576 W h1 (by omega) (by omega))
  have HB := Lib.hid (Below.alloc (Below.refl w.heap.size w) (Nat.le_refl _) (.cells #[.slice A1 n1 c1, .slice A2 n2 c2] 49))
  by_cases hb : (1048576 : Int) - n1 < 0
  · rw [if_pos hb] at K1
    rw [if_neg (by omega)]
    clear hb
    go_enter Try.func36, Try.ntmps36
    go_wp2_with fail
    refine (K1.out _).mono ?_; rintro e _ ⟨rfl, rfl⟩
    go_wp2_with fail
    go_ret
    exact ⟨rfl, HB.out⟩
  · rw [if_neg hb] at K1
    have K2 := Lib.hid (fun W => szPegS_any A2 n2 c2 (1048576 - (n1 : Int)) W h2 (by omega) (by omega))
    by_cases hb2 : (1048576 : Int) - n1 - n2 < 0
    · rw [if_pos hb2] at K2
      rw [if_neg (by omega)]
      clear hb2
      go_enter Try.func36, Try.ntmps36
      go_wp2_with fail
      refine (K1.out _).mono ?_; rintro e _ ⟨rfl, rfl⟩
      go_wp2_with fail
      refine (K2.out _).mono ?_; rintro e _ ⟨rfl, rfl⟩
      go_wp2_with fail
      go_ret
      exact ⟨rfl, HB.out⟩
    · rw [if_neg hb2] at K2
      rw [if_pos (by omega)]
      go_enter Try.func36, Try.ntmps36
      go_wp2_with fail
      refine (K1.out _).mono ?_; rintro e _ ⟨rfl, rfl⟩
      go_wp2_with fail
      refine (K2.out _).mono ?_; rintro e _ ⟨rfl, rfl⟩
      go_wp2_with fail
      go_ret
      exact ⟨rfl, HB.out⟩
theorem eqDesk_same (A1 A2 B1 B2 : Option Addr) (c1 c2 d1 d2 : Nat) (l1 l2 : List (Int × Int)) (w : World) (hn1 : l1.length ≤ 1048576) (hn2 : l2.length ≤ 1048576) (hA1 : Rd w w.heap.size A1 l1) (hA2 : Rd w w.heap.size A2 l2) (hB1 : Rd w w.heap.size B1 l1) (hB2 : Rd w w.heap.size B2 l2) :
    Calls Try.prog 40 #[.agg #[.slice A1 l1.length c1, .slice A2 l2.length c2], .agg #[.slice B1 l1.length d1, .slice B2 l2.length d2]] w fun e w' => e = .returned (.bool true) ∧ Below w.heap.size w w' := by
  have K1 := Lib.hid (fun W (hb : Below w.heap.size w W) => (eqPegS_any A1 B1 c1 d1 l1 l1 W hn1 hn1 (rd_more (rd_below hA1 hb (Nat.le_refl _)) hb.size) (rd_more (rd_below hB1 hb (Nat.le_refl _)) hb.size)).mono fun e w' hh => (show e = .returned (.bool true) ∧ Below W.heap.size W w' from ⟨hh.1.trans (ret_bool (by simp)), hh.2⟩))
  have K2 := Lib.hid (fun W (hb : Below w.heap.size w W) => (eqPegS_any A2 B2 c2 d2 l2 l2 W hn2 hn2 (rd_more (rd_below hA2 hb (Nat.le_refl _)) hb.size) (rd_more (rd_below hB2 hb (Nat.le_refl _)) hb.size)).mono fun e w' hh => (show e = .returned (.bool true) ∧ Below W.heap.size W w' from ⟨hh.1.trans (ret_bool (by simp)), hh.2⟩))
  have HB := Lib.hid (Below.alloc (Below.alloc (Below.refl w.heap.size w) (Nat.le_refl _) (.cells #[.slice A1 l1.length c1, .slice A2 l2.length c2] 53)) (by simp) (.cells #[.slice B1 l1.length d1, .slice B2 l2.length d2] 53))
  clear hA1 hA2 hB1 hB2
  generalize l1.length = n1 at *
  generalize l2.length = n2 at *
  go_enter Try.func40, Try.ntmps40
  go_wp2_with fail
  refine (K1.out _ HB.out).mono ?_; rintro e w1 ⟨rfl, hb1⟩
  have B1 := HB.out.trans (hb1.mono HB.out.size)
  have y1 : w1.cell? ⟨w.heap.size, 1, none⟩ = some (.slice A2 n2 c2) := ((bcell hb1).1 w.heap.size 1 (by simp <;> omega)).trans (by go_simp)
  have y2 : w1.cell? ⟨w.heap.size + 1, 1, none⟩ = some (.slice B2 n2 d2) := ((bcell hb1).1 (w.heap.size + 1) 1 (by simp <;> omega)).trans (by go_simp)
  have z1 : w.heap.size < w1.heap.size := by have := hb1.size; simp at this; omega
  have z2 : w.heap.size + 1 < w1.heap.size := by have := hb1.size; simp at this; omega
  clear hb1
  go_wp2_with fail
  refine (K2.out _ B1).mono ?_; rintro e w2 ⟨rfl, hb2⟩
  go_wp2_with fail
  go_ret
  exact ⟨rfl, B1.trans (hb2.mono B1.size)⟩
end Go.Proofs.Ytieimijkkjhegaa
