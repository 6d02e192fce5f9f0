/- joined: Va Vc Wa Wb Wc Wd -/
import Derived.Test.YtheddoinnakneaaMA
import Derived.Test.YtheddoinnakneaaTwx
import Derived.Test.YtheddoinnakneaaMS
import Derived.Test.YtheddoinnakneaaBc
import Derived.Test.YtheddoinnakneaaTb00
import Derived.Deep.CutRange
import Derived.Deep.RegionWith
import Derived.Deep.DeepMust
import Derived.Test.YtheddoinnakneaaBf
import Derived.Test.YtheddoinnakneaaSax
import Derived.Test.YtheddoinnakneaaX
import Derived.Test.YtheddoinnakneaaQg
/- plain: the two points of a list that are farthest apart -/
namespace Go.Proofs.Ytheddoinnakneaa
open Go.ChangeShapes Go.WideShapes Go.ChangeAt Go.RowKit Go.Joins
set_option linter.unusedVariables false
set_option linter.unusedSimpArgs false
set_option maxRecDepth 4000
abbrev Fa3 := (Int × Int) × (Int × Int) × Int
def farStep (p : Int × Int) (a : Fa3) (q : Int × Int) : Fa3 := if a.2.2 < MH.sq q p then (p, q, MH.sq q p) else a
def farRow (s : List (Int × Int)) (i : Nat) (a : Fa3) : Nat → Fa3
  | 0 => a
  | m + 1 => farStep (pt s i) (farRow s i a m) (pt s (i + 1 + m))
def farAll (s : List (Int × Int)) (a : Fa3) : Nat → Fa3
  | 0 => a
  | k + 1 => farRow s k (farAll s a k) (s.length - (k + 1))
theorem sq_nn (p q : Int × Int) : 0 ≤ MH.sq p q := by
  unfold MH.sq
  have h1 : 0 ≤ (p.1 - q.1) * (p.1 - q.1) := by rcases Int.le_total 0 (p.1 - q.1) with h | h; exact Int.mul_nonneg h h; exact Int.mul_nonneg_of_nonpos_of_nonpos h h
  have h2 : 0 ≤ (p.2 - q.2) * (p.2 - q.2) := by rcases Int.le_total 0 (p.2 - q.2) with h | h; exact Int.mul_nonneg h h; exact Int.mul_nonneg_of_nonpos_of_nonpos h h
  omega
theorem sq_pos {p q : Int × Int} (h : p ≠ q) : 0 < MH.sq p q := by
  have h0 := sq_nn p q
  rcases Int.lt_or_eq_of_le h0 with h1 | h1
  · exact h1
  · exfalso
    apply h
    unfold MH.sq at h1
    have a1 : 0 ≤ (p.1 - q.1) * (p.1 - q.1) := by rcases Int.le_total 0 (p.1 - q.1) with h | h; exact Int.mul_nonneg h h; exact Int.mul_nonneg_of_nonpos_of_nonpos h h
    have a2 : 0 ≤ (p.2 - q.2) * (p.2 - q.2) := by rcases Int.le_total 0 (p.2 - q.2) with h | h; exact Int.mul_nonneg h h; exact Int.mul_nonneg_of_nonpos_of_nonpos h h
    have b1 : (p.1 - q.1) * (p.1 - q.1) = 0 := by omega
    have b2 : (p.2 - q.2) * (p.2 - q.2) = 0 := by omega
    have c1 : p.1 - q.1 = 0 := by rcases Int.mul_eq_zero.1 b1 with h | h <;> exact h
    have c2 : p.2 - q.2 = 0 := by rcases Int.mul_eq_zero.1 b2 with h | h <;> exact h
    exact Prod.ext (by omega) (by omega)
theorem sq_comm (p q : Int × Int) : MH.sq p q = MH.sq q p := by unfold MH.sq; grind
theorem far_row_same {s : List (Int × Int)} (h : pt s 0 ≠ pt s 1) : ∀ m, farRow s 0 ((0, 0), (0, 0), 0) (m + 1) = farRow s 0 (pt s 0, pt s 1, MH.sq (pt s 1) (pt s 0)) (m + 1)
  | 0 => by
    have := sq_pos (Ne.symm h)
    unfold farRow farRow farStep
    rw [if_pos (by simpa using this), if_neg (by simp)]
  | m + 1 => by
    rw [farRow, far_row_same h m, ← farRow]
theorem far_same {s : List (Int × Int)} (h2 : 2 ≤ s.length) (h : pt s 0 ≠ pt s 1) : ∀ k, farAll s ((0, 0), (0, 0), 0) (k + 1) = farAll s (pt s 0, pt s 1, MH.sq (pt s 1) (pt s 0)) (k + 1)
  | 0 => by
    unfold farAll farAll
    obtain ⟨m, hm⟩ : ∃ m, s.length - (0 + 1) = m + 1 := ⟨s.length - 2, by omega⟩
    rw [hm]
    exact far_row_same h m
  | k + 1 => by rw [farAll, far_same h2 h k, ← farAll]
/-- what is told so far: two points of the list, and the square of how far they are apart; or nothing -/
def FarOk (a : Fa3) : Prop := isPg a.1 = true ∧ isPg a.2.1 = true ∧ 0 ≤ a.2.2 ∧ a.2.2 ≤ 12800
theorem sq_le {p q : Int × Int} (hp : isPg p = true) (hq : isPg q = true) : MH.sq p q ≤ 12800 := by
  have h1 : -40 ≤ p.1 ∧ p.1 ≤ 40 ∧ -40 ≤ p.2 ∧ p.2 ≤ 40 := by unfold isPg isPegB at hp; simp at hp; omega
  have h2 : -40 ≤ q.1 ∧ q.1 ≤ 40 ∧ -40 ≤ q.2 ∧ q.2 ≤ 40 := by unfold isPg isPegB at hq; simp at hq; omega
  unfold MH.sq
  have a1 := mul_bd (x := p.1 - q.1) (y := p.1 - q.1) (m := 80) (n := 80) (by omega) (by omega) (by omega) (by omega)
  have a2 := mul_bd (x := p.2 - q.2) (y := p.2 - q.2) (m := 80) (n := 80) (by omega) (by omega) (by omega) (by omega)
  omega
theorem far_step_ok {p q : Int × Int} {a : Fa3} (hp : isPg p = true) (hq : isPg q = true) (h : FarOk a) : FarOk (farStep p a q) := by
  unfold farStep
  split
  · exact ⟨hp, hq, sq_nn _ _, sq_le hq hp⟩
  · exact h
theorem far_row_ok {s : List (Int × Int)} {i : Nat} {a : Fa3} (hs : ∀ x ∈ s, isPg x = true) (hi : i < s.length) (h : FarOk a) : ∀ m, i + 1 + m ≤ s.length → FarOk (farRow s i a m)
  | 0, _ => h
  | m + 1, hm => far_step_ok (hs _ (pt_mem hi)) (hs _ (pt_mem (by omega))) (far_row_ok hs hi h m (by omega))
theorem far_all_ok {s : List (Int × Int)} {a : Fa3} (hs : ∀ x ∈ s, isPg x = true) (h : FarOk a) : ∀ k, k ≤ s.length → FarOk (farAll s a k)
  | 0, _ => h
  | k + 1, hk => far_row_ok hs (by omega) (far_all_ok hs h k (by omega)) _ (by omega)
theorem far_zero : FarOk ((0, 0), (0, 0), 0) := ⟨rfl, rfl, by decide, by decide⟩
theorem far_first {s : List (Int × Int)} (hs : ∀ x ∈ s, isPg x = true) (h2 : 2 ≤ s.length) : FarOk (pt s 0, pt s 1, MH.sq (pt s 1) (pt s 0)) :=
  ⟨hs _ (pt_mem (by omega)), hs _ (pt_mem (by omega)), sq_nn _ _, sq_le (hs _ (pt_mem (by omega))) (hs _ (pt_mem (by omega)))⟩
/-- the last number belongs to the two points -/
def FarSq (a : Fa3) : Prop := a.2.2 = MH.sq a.2.1 a.1
theorem far_step_sq {p q : Int × Int} {a : Fa3} (h : FarSq a) : FarSq (farStep p a q) := by
  unfold farStep
  split
  · rfl
  · exact h
theorem far_row_sq {s : List (Int × Int)} {i : Nat} {a : Fa3} (h : FarSq a) : ∀ m, FarSq (farRow s i a m)
  | 0 => h
  | m + 1 => far_step_sq (far_row_sq h m)
theorem far_all_sq {s : List (Int × Int)} {a : Fa3} (h : FarSq a) : ∀ k, FarSq (farAll s a k)
  | 0 => h
  | k + 1 => far_row_sq (far_all_sq h k) _
theorem srt_two {l : List (Int × Int)} (hd : l.Nodup) (h2 : 2 ≤ l.length) : pt (srt l) 0 ≠ pt (srt l) 1 := by
  have hs := srt_sorted hd
  have hl := srt_len l
  intro e
  have h0 := pt_get (l := srt l) (i := 0) (by omega)
  have h1 := pt_get (l := srt l) (i := 1) (by omega)
  have := (List.pairwise_iff_getElem.1 hs) 0 1 (by omega) (by omega) (by omega)
  rw [List.getElem?_eq_getElem (by omega)] at h0 h1
  injection h0 with h0
  injection h1 with h1
  rw [h0, h1, ← e] at this
  unfold lxP at this
  omega
/-- what the call tells: two points and a number, or nothing -/
noncomputable def fzB (l : List (Int × Int)) : Bool := difB l && decide (2 ≤ l.length)
noncomputable def fzV (l : List (Int × Int)) : Fa3 := if fzB l = true then farAll (srt l) ((0, 0), (0, 0), 0) l.length else ((0, 0), (0, 0), 0)
end Go.Proofs.Ytheddoinnakneaa
/- contract: the two points of a list that are farthest apart, the program -/
namespace Go.Proofs.Ytheddoinnakneaa
open Go.ChangeShapes Go.WideShapes Go.ChangeAt Go.RowKit Go.Joins
set_option linter.unusedVariables false
set_option linter.unusedSimpArgs false
set_option maxRecDepth 4000
/-- how memory stands while the farthest ones are sought: two boxes, and the list in order -/
structure FarW (w W : World) (ga gb gs n : Nat) (s : List (Int × Int)) (a b : Int × Int) : Prop where
  two : Two w W ga gb a b
  row : ∀ i, i < n → W.cell? ⟨gs, i * 2, none⟩ = some (.int .i64 (pt s i).1) ∧ W.cell? ⟨gs, i * 2 + 1, none⟩ = some (.int .i64 (pt s i).2)
  zs : gs < W.heap.size
  na : gs ≠ ga
  nb : gs ≠ gb
theorem FarW.up {w W W' : World} {ga gb gs n : Nat} {s : List (Int × Int)} {a b : Int × Int} (h : FarW w W ga gb gs n s a b) (hb : Below W.heap.size W W') : FarW w W' ga gb gs n s a b :=
  ⟨two_below h.two hb, fun i hi => ⟨((bcell hb).1 _ _ h.zs).trans (h.row i hi).1, ((bcell hb).1 _ _ h.zs).trans (h.row i hi).2⟩, Nat.lt_of_lt_of_le h.zs hb.size, h.na, h.nb⟩
theorem FarW.store {w W : World} {ga gb gs n : Nat} {s : List (Int × Int)} {a b : Int × Int} (h : FarW w W ga gb gs n s a b) (p1 p2 r1 r2 : Int) :
    FarW w ((((W.setCell ⟨ga, 0, none⟩ (.int .i64 p1)).setCell ⟨ga, 1, none⟩ (.int .i64 p2)).setCell ⟨gb, 0, none⟩ (.int .i64 r1)).setCell ⟨gb, 1, none⟩ (.int .i64 r2)) ga gb gs n s (p1, p2) (r1, r2) := by
  have ne : ∀ (V : World) (b b' o o' : Nat) (v : Value), b ≠ b' → (V.setCell ⟨b, o, none⟩ v).cell? ⟨b', o', none⟩ = V.cell? ⟨b', o', none⟩ := fun V b b' o o' v h => World.cell?_setCell_other V _ _ _ (fun e => h (by injection e))
  have na := Ne.symm h.na
  have nb := Ne.symm h.nb
  refine ⟨two_high (two_low h.two p1 p2) r1 r2, fun i hi => ?_, by simpa [World.setCell] using h.zs, h.na, h.nb⟩
  rw [ne _ _ _ _ _ _ nb, ne _ _ _ _ _ _ nb, ne _ _ _ _ _ _ na, ne _ _ _ _ _ _ na, ne _ _ _ _ _ _ nb, ne _ _ _ _ _ _ nb, ne _ _ _ _ _ _ na, ne _ _ _ _ _ _ na]
  exact h.row i hi
set_option maxHeartbeats 8000000 in
theorem implFarthest_yes (A : Option Addr) (c : Nat) (l : List (Int × Int)) (w : World) (hn : l.length ≤ 1048576) (hcap : l.length ≤ c) (hc2 : c ≤ 9223372036854775807) (hd : Dif l) (h2 : 2 ≤ l.length) (hR : Rd w w.heap.size A l) :
    Calls Try.prog 78 #[.slice A l.length c] w fun e w' => e = .returned (.tuple #[.agg #[.int .i64 (farAll (srt l) ((0, 0), (0, 0), 0) l.length).1.1, .int .i64 (farAll (srt l) ((0, 0), (0, 0), 0) l.length).1.2], .agg #[.int .i64 (farAll (srt l) ((0, 0), (0, 0), 0) l.length).2.1.1, .int .i64 (farAll (srt l) ((0, 0), (0, 0), 0) l.length).2.1.2], .int .i64 (farAll (srt l) ((0, 0), (0, 0), 0) l.length).2.2, .bool true]) ∧ Below w.heap.size w w' := by
  have K := Lib.hid (fun W (hb : Below w.heap.size w W) => implAreDifferent_any A c l W hn hcap hc2 (rd_more (rd_below hR hb (Nat.le_refl _)) hb.size))
  rw [difB_true hd] at K
  have h30 := hd.few.2
  have K2 := Lib.hid (fun W (hb : Below w.heap.size w W) => inOrder_any A c l.length l W rfl (by omega) (by omega) (dif_nodup hd) (rd_more (rd_below hR hb (Nat.le_refl _)) hb.size))
  have hsl := srt_len l
  have hpg : ∀ x ∈ srt l, isPg x = true := fun x hx => dif_pegs hd x (srt_mem.1 hx)
  clear hd hR
  generalize srt l = s at *
  generalize hN : l.length = n at *
  have HSL := Lib.hid hsl
  have HPG : Hid (∀ i, i < n → isPg (pt s i) = true) := Lib.hid (fun i hi => hpg _ (pt_mem (by omega)))
  obtain ⟨a0, ha0⟩ : ∃ a0 : Fa3, a0 = ((0, 0), (0, 0), 0) := ⟨_, rfl⟩
  have HA0 := Lib.hid ha0
  have HOK : Hid (∀ k, k ≤ n → FarOk (farAll s a0 k)) := Lib.hid (fun k hk => far_all_ok hpg (by rw [ha0]; exact far_zero) k (by omega))
  have HRO : Hid (∀ k m, k < n → k + 1 + m ≤ n → FarOk (farRow s k (farAll s a0 k) m)) := Lib.hid (fun k m hk hm => far_row_ok hpg (by omega) (HOK.out k (by omega)) m (by omega))
  rw [← ha0]
  clear ha0 hpg hsl hN
  go_enter Try.func78, Try.ntmps78
  go_wp2_with fail
  obtain ⟨W0, hW0⟩ : ∃ W0, W0 = ((w.alloc (.cells #[.int .i64 0, .int .i64 0] 56)).alloc (.cells #[.int .i64 0, .int .i64 0] 56)) := ⟨_, rfl⟩
  rw [← hW0]
  have yW00_0 : W0.cell? ⟨w.heap.size, 0, none⟩ = some (.int .i64 0) := by rw [hW0]; go_simp
  have yW00_1 : W0.cell? ⟨w.heap.size, 1, none⟩ = some (.int .i64 0) := by rw [hW0]; go_simp
  have fW00 : ∀ o, W0.frozen? ⟨w.heap.size, o, none⟩ = false := by intro o; rw [hW0]; (repeat rw [frozen?_alloc_cells]); simp [World.frozen?]
  have zW00 : w.heap.size < W0.heap.size := by rw [hW0]; simp <;> omega
  have yW01_0 : W0.cell? ⟨w.heap.size + 1, 0, none⟩ = some (.int .i64 0) := by rw [hW0]; go_simp
  have yW01_1 : W0.cell? ⟨w.heap.size + 1, 1, none⟩ = some (.int .i64 0) := by rw [hW0]; go_simp
  have fW01 : ∀ o, W0.frozen? ⟨w.heap.size + 1, o, none⟩ = false := by intro o; rw [hW0]; (repeat rw [frozen?_alloc_cells]); simp [World.frozen?]
  have zW01 : w.heap.size + 1 < W0.heap.size := by rw [hW0]; simp <;> omega
  have BW0 : Below w.heap.size w W0 := by rw [hW0]; exact (Below.alloc (Below.alloc (Below.refl _ _) (by simp <;> omega) _) (by simp <;> omega) _)
  have eW0 : Hid (W0.heap.size = w.heap.size + 2) := Lib.hid (by rw [hW0]; simp)
  clear hW0
  refine (K.out W0 BW0).mono ?_; rintro e w1 ⟨rfl, hb1⟩
  have B1 := BW0.trans (hb1.mono BW0.size)
  have HR1 : Hid (w.heap.size + 1 < w1.heap.size ∧ (w1.cell? ⟨w.heap.size, 0, none⟩ = some (.int .i64 0) ∧ w1.cell? ⟨w.heap.size, 1, none⟩ = some (.int .i64 0) ∧ w1.cell? ⟨w.heap.size + 1, 0, none⟩ = some (.int .i64 0) ∧ w1.cell? ⟨w.heap.size + 1, 1, none⟩ = some (.int .i64 0)) ∧ (∀ o, w1.frozen? ⟨w.heap.size, o, none⟩ = false) ∧ ∀ o, w1.frozen? ⟨w.heap.size + 1, o, none⟩ = false) := Lib.hid (by
    obtain ⟨hc, hf⟩ := bcell hb1
    exact ⟨Nat.lt_of_lt_of_le zW01 hb1.size, ⟨(hc _ _ zW00).trans yW00_0, (hc _ _ zW00).trans yW00_1, (hc _ _ zW01).trans yW01_0, (hc _ _ zW01).trans yW01_1⟩, fun o => (hf _ _ zW00).trans (fW00 o), fun o => (hf _ _ zW01).trans (fW01 o)⟩)
  clear yW00_0 yW00_1 yW01_0 yW01_1 fW00 fW01 zW00 zW01 eW0 BW0 hb1
  have hlt2 : ¬ ((n : Int) < 2) := by omega
  go_wp2_with fail
  have T0 := Lib.hid (two_new (p := (0, 0)) (t := 56) (Below.refl w1.heap.size w1))
  have BA : Below w.heap.size w ((w1.alloc (.cells #[.int .i64 0, .int .i64 0] 56)).alloc (.cells #[.int .i64 0, .int .i64 0] 56)) := Below.alloc (Below.alloc B1 B1.size _) (by have := B1.size; simp; omega) _
  refine (K2.out _ BA).mono ?_; rintro e w2 ⟨⟨gs, cap, rfl, ho⟩, hb2⟩
  have hnc : n ≤ cap ∧ cap ≤ maxLen ∧ ((w1.alloc (.cells #[.int .i64 0, .int .i64 0] 56)).alloc (.cells #[.int .i64 0, .int .i64 0] 56)).heap.size ≤ gs ∧ gs < w2.heap.size := by
    rcases own_val ho with ⟨hv, h⟩ | ⟨g', cap', hv, h1, h2, h3, h4⟩
    · cases hv
    · injection hv with hv1 _ hv3
      injection hv1 with hv1
      injection hv1 with hv1
      subst hv1 hv3
      exact ⟨h1, h2, h3, h4⟩
  obtain ⟨hnc, hcm, hgl, zs⟩ := hnc
  unfold maxLen at hcm
  simp only [World.size_alloc] at hgl
  have HF0 : Hid (FarW w1 w2 w1.heap.size (w1.heap.size + 1) gs n s (farAll s a0 0).1 (farAll s a0 0).2.1) := Lib.hid (by
    have h0 : (farAll s a0 0).1 = (0, 0) ∧ (farAll s a0 0).2.1 = (0, 0) := by
      have := HA0.out
      subst this
      exact ⟨rfl, rfl⟩
    rw [h0.1, h0.2]
    refine ⟨two_below T0.out hb2, fun i hi => ?_, zs, by omega, by omega⟩
    have hrd := own_pt ho HSL.out i hi
    exact hrd)
  have B2 := BA.trans (hb2.mono BA.size)
  have hb2s := hb2.size
  simp only [World.size_alloc] at hb2s
  have HB2 : Hid (Below w1.heap.size w1 w2) := Lib.hid ((Below.alloc (Below.alloc (Below.refl _ _) (Nat.le_refl _) _) (by simp) _).trans (hb2.mono (by simp; omega)))
  clear ho hb2 BA K K2 B2 T0 hgl
  have hF0 : ∃ f0, f0 = (farAll s a0 0).2.2 := ⟨_, rfl⟩
  have hz0 : (0 : Int) = (farAll s a0 0).2.2 := by have := HA0.out; subst this; rfl
  have HZ0 := Lib.hid hz0
  clear hF0 hz0
  go_wp2_with fail
  go_loopg [8, 29] n (fun g f i wr => ∃ k : Nat, k ≤ n ∧ g = n - k ∧ i = .int .i64 k ∧ f = .int .i64 (farAll s a0 k).2.2 ∧ Hid (FarW w1 wr w1.heap.size (w1.heap.size + 1) gs n s (farAll s a0 k).1 (farAll s a0 k).2.1))
  case atStart => exact ⟨0, Nat.zero_le _, rfl, rfl, by rw [← HZ0.out], HF0⟩
  case round =>
    clear HF0
    obtain ⟨k, hk, hg, rfl, rfl, hF⟩ := hrel
    rename World => wo
    have HGK := Lib.hid hg
    clear hg
    have zs2 := hF.out.zs
    have zga := hF.out.two.up1
    have zgb := hF.out.two.up2
    have nga := hF.out.na
    have ngb := hF.out.nb
    by_cases hlt : k < n
    · obtain ⟨q1, q2⟩ := hF.out.row k hlt
      have hpk := HPG.out k hlt
      have hk1 : k + 1 ≤ n := by omega
      have hkc : k + 1 ≤ cap := by omega
      obtain ⟨p1, p2, hpe⟩ : ∃ p1 p2, pt s k = (p1, p2) := ⟨_, _, rfl⟩
      have HPE := Lib.hid hpe
      rw [hpe] at q1 q2 hpk
      have HPK := Lib.hid hpk
      clear hpe hpk
      have HAN : Hid (farAll s a0 (k + 1) = farRow s k (farAll s a0 k) (n - (k + 1))) := Lib.hid (by rw [farAll, HSL.out])
      have HRO2 := Lib.hid (fun m hm => HRO.out k m hlt hm)
      have hF1 : Hid (FarW w1 wo w1.heap.size (w1.heap.size + 1) gs n s (farRow s k (farAll s a0 k) 0).1 (farRow s k (farAll s a0 k) 0).2.1) := hF
      clear hF
      generalize farAll s a0 k = A at *
      by_cases hlast : k + 1 = n
      · have hnk : n - (k + 1) = 0 := by omega
        by_cases hce : n = cap
        · subst hce
          go_wp2_with fail
          go_loopg [8, 39] 0 (fun g2 f j wi => j = .int .i64 0 ∧ f = .int .i64 (farRow s k A 0).2.2 ∧ Hid (FarW w1 wi w1.heap.size (w1.heap.size + 1) gs n s (farRow s k A 0).1 (farRow s k A 0).2.1))
          case atStart => exact ⟨rfl, rfl, Lib.hid (hF1.out.up (Below.alloc (Below.refl _ _) (Nat.le_refl _) _))⟩
          case round =>
            obtain ⟨rfl, rfl, hTi⟩ := hrel
            go_wp2_with fail
            go_roundg (n - (k + 1))
            case measure => have := HGK.out; omega
            case rel => exact ⟨k + 1, by omega, rfl, by go_num, by rw [HAN.out, hnk], Lib.hid (by rw [HAN.out, hnk]; exact hTi.out)⟩
        · have hcn : ¬ cap = k + 1 := by omega
          go_wp2_with fail
          go_loopg [8, 39] 0 (fun g2 f j wi => j = .int .i64 0 ∧ f = .int .i64 (farRow s k A 0).2.2 ∧ Hid (FarW w1 wi w1.heap.size (w1.heap.size + 1) gs n s (farRow s k A 0).1 (farRow s k A 0).2.1))
          case atStart => exact ⟨rfl, rfl, Lib.hid (hF1.out.up (Below.alloc (Below.refl _ _) (Nat.le_refl _) _))⟩
          case round =>
            obtain ⟨rfl, rfl, hTi⟩ := hrel
            go_wp2_with fail
            go_roundg (n - (k + 1))
            case measure => have := HGK.out; omega
            case rel => exact ⟨k + 1, by omega, rfl, by go_num, by rw [HAN.out, hnk], Lib.hid (by rw [HAN.out, hnk]; exact hTi.out)⟩
      · have hcn : ¬ cap = k + 1 := by omega
        go_wp2_with fail
        go_loopg [8, 39] (n - (k + 1)) (fun g2 f j wi => ∃ m : Nat, m ≤ n - (k + 1) ∧ g2 = n - (k + 1) - m ∧ j = .int .i64 m ∧ f = .int .i64 (farRow s k A m).2.2 ∧ Hid (FarW w1 wi w1.heap.size (w1.heap.size + 1) gs n s (farRow s k A m).1 (farRow s k A m).2.1) ∧ wo.heap.size < wi.heap.size ∧ wi.cell? ⟨wo.heap.size, 0, none⟩ = some (.int .i64 p1) ∧ wi.cell? ⟨wo.heap.size, 1, none⟩ = some (.int .i64 p2))
        case atStart => exact ⟨0, Nat.zero_le _, rfl, rfl, rfl, Lib.hid (hF1.out.up (Below.alloc (Below.refl _ _) (Nat.le_refl _) _)), by simp, by go_simp, by go_simp⟩
        case round =>
          clear hF1 q1 q2
          obtain ⟨m, hm, hg2, rfl, rfl, hTi, hzi, y1, y2⟩ := hrel
          rename World => wi
          have HGM := Lib.hid hg2
          clear hg2
          by_cases hlm : m < n - (k + 1)
          · obtain ⟨q3, q4⟩ := hTi.out.row (k + 1 + m) (by omega)
            rw [show (k + 1 + m) * 2 = (k + 1) * 2 + m * 2 by omega] at q3 q4
            have hmi : (m : Int) < (n : Int) - ((k : Int) + 1) := by omega
            have hrk := HPG.out (k + 1 + m) (by omega)
            have hok := HRO2.out m (by omega)
            have HST : Hid (farRow s k A (m + 1) = farStep (pt s k) (farRow s k A m) (pt s (k + 1 + m))) := Lib.hid rfl
            rw [HPE.out] at HST
            obtain ⟨r1, r2, hre⟩ : ∃ r1 r2, pt s (k + 1 + m) = (r1, r2) := ⟨_, _, rfl⟩
            rw [hre] at q3 q4 hrk HST
            clear hre
            obtain ⟨⟨a1, a2⟩, ⟨b1, b2⟩, d0, hAe⟩ : ∃ (a b : Int × Int) (d : Int), farRow s k A m = (a, b, d) := ⟨_, _, _, rfl⟩
            rw [hAe] at HST hTi hok ⊢
            clear hAe
            have bp : (-40 ≤ p1 ∧ p1 ≤ 40) ∧ (-40 ≤ p2 ∧ p2 ≤ 40) := isPg_bd HPK.out
            have br : (-40 ≤ r1 ∧ r1 ≤ 40) ∧ (-40 ≤ r2 ∧ r2 ≤ 40) := isPg_bd hrk
            have KM := Lib.hid (fun W => minus_any r1 r2 p1 p2 W (by unfold Mid; omega) (by unfold Mid; omega) (by unfold Mid; omega) (by unfold Mid; omega))
            have KS := Lib.hid (fun W => square_any (r1 - p1) (r2 - p2) W (by omega) (by omega))
            have HD1 : Hid (MH.sq (r1, r2) (p1, p2) = (r1 - p1) * (r1 - p1) + (r2 - p2) * (r2 - p2)) := Lib.hid rfl
            clear hrk hok bp br
            generalize (r1 - p1) * (r1 - p1) + (r2 - p2) * (r2 - p2) = d1 at *
            generalize r1 - p1 = e1 at *
            generalize r2 - p2 = e2 at *
            have hzi2 := hTi.out.zs
            go_wp2_with fail
            obtain ⟨Wq, hWq⟩ : ∃ Wq, Wq = (wi.alloc (.cells #[.int .i64 r1, .int .i64 r2] 56)) := ⟨_, rfl⟩
            rw [← hWq]
            have yWq0_0 : Wq.cell? ⟨wi.heap.size, 0, none⟩ = some (.int .i64 r1) := by rw [hWq]; go_simp
            have yWq0_1 : Wq.cell? ⟨wi.heap.size, 1, none⟩ = some (.int .i64 r2) := by rw [hWq]; go_simp
            have fWq0 : ∀ o, Wq.frozen? ⟨wi.heap.size, o, none⟩ = false := by intro o; rw [hWq]; (repeat rw [frozen?_alloc_cells]); simp [World.frozen?]
            have zWq0 : wi.heap.size < Wq.heap.size := by rw [hWq]; simp <;> omega
            have BWq : Below wi.heap.size wi Wq := by rw [hWq]; exact (Below.alloc (Below.refl _ _) (by simp <;> omega) _)
            have eWq : Hid (Wq.heap.size = wi.heap.size + 1) := Lib.hid (by rw [hWq]; simp)
            clear hWq
            refine (KM.out _).mono ?_; rintro e w3 ⟨rfl, hb3⟩
            go_wp2_with fail
            refine (KS.out _).mono ?_; rintro e w4 ⟨rfl, hb4⟩
            have B4 := (BWq.trans (hb3.mono BWq.size)).trans (hb4.mono (BWq.trans (hb3.mono BWq.size)).size)
            have F4 := Lib.hid (hTi.out.up B4)
            have u1 := ((bcell B4).1 _ 0 hzi).trans y1
            have u2 := ((bcell B4).1 _ 1 hzi).trans y2
            have u5 := ((bcell hb4).1 _ 0 (Nat.lt_of_lt_of_le zWq0 hb3.size)).trans (((bcell hb3).1 _ 0 zWq0).trans yWq0_0)
            have u6 := ((bcell hb4).1 _ 1 (Nat.lt_of_lt_of_le zWq0 hb3.size)).trans (((bcell hb3).1 _ 1 zWq0).trans yWq0_1)
            have z6 : wi.heap.size < w4.heap.size := Nat.lt_of_lt_of_le (Nat.lt_of_lt_of_le zWq0 hb3.size) hb4.size
            have z5 : wo.heap.size < w4.heap.size := Nat.lt_of_lt_of_le hzi B4.size
            have g1 := F4.out.two.g0
            have g2 := F4.out.two.g1
            have g3 := F4.out.two.h0
            have g4 := F4.out.two.h1
            have g5 := F4.out.two.gf 0
            have g6 := F4.out.two.gf 1
            have g7 := F4.out.two.hf 0
            have g8 := F4.out.two.hf 1
            simp only at g1 g2 g3 g4
            have z3 := F4.out.two.up1
            have z4 := F4.out.two.up2
            have hwi := hTi.out.two.up2
            have n1 : w1.heap.size ≠ wo.heap.size := by omega
            have n2 : w1.heap.size + 1 ≠ wo.heap.size := by omega
            have n4 : w1.heap.size ≠ wi.heap.size := by omega
            have n5 : w1.heap.size + 1 ≠ wi.heap.size := by omega
            clear y1 y2 q3 q4 hTi yWq0_0 yWq0_1 zWq0 fWq0 eWq BWq hb3 hb4 B4 KM KS hwi hzi
            by_cases hdd : d0 < d1
            · have HN : Hid (farRow s k A (m + 1) = ((p1, p2), (r1, r2), d1)) := Lib.hid (by rw [HST.out]; unfold farStep; simp only; rw [if_pos (by rw [HD1.out]; exact hdd), HD1.out])
              have T5 := Lib.hid (F4.out.store p1 p2 r1 r2)
              go_wp2_with fail
              go_region
              all_goals
                go_wp2_with fail
                go_roundg (n - (k + 1) - (m + 1))
                case measure => have := HGM.out; omega
                case rel => exact ⟨m + 1, by omega, rfl, by go_num, by rw [HN.out], Lib.hid (by rw [HN.out]; exact T5.out.up (by repeat (first | with_reducible assumption | with_reducible exact Below.refl _ _ | with_reducible apply Below.drew | ((with_reducible refine Below.setCell ?_ ?_ _); rotate_left; (first | exact Nat.le_refl _ | omega | (simp <;> omega))) | ((with_reducible refine Below.alloc ?_ ?_ _); rotate_left; (first | omega | (simp <;> omega)))))), by simp [World.setCell]; omega, by go_simp, by go_simp⟩
            · have HN : Hid (farRow s k A (m + 1) = ((a1, a2), (b1, b2), d0)) := Lib.hid (by rw [HST.out]; unfold farStep; simp only; rw [if_neg (by rw [HD1.out]; exact hdd)])
              go_wp2_with fail
              go_roundg (n - (k + 1) - (m + 1))
              case measure => have := HGM.out; omega
              case rel => exact ⟨m + 1, by omega, rfl, by go_num, by rw [HN.out], Lib.hid (by rw [HN.out]; exact F4.out), z5, u1, u2⟩
          · have hme : m = n - (k + 1) := by omega
            subst hme
            have HE : Hid (FarW w1 wi w1.heap.size (w1.heap.size + 1) gs n s (farAll s a0 (k + 1)).1 (farAll s a0 (k + 1)).2.1) := Lib.hid (by rw [HAN.out]; exact hTi.out)
            have hnl : ¬ (((n - (k + 1) : Nat) : Int) < ((n - (k + 1) : Nat) : Int)) := by omega
            clear hTi
            go_wp2_with fail
            go_roundg (n - (k + 1))
            case measure => have := HGK.out; omega
            case rel => exact ⟨k + 1, by omega, rfl, by go_num, by rw [HAN.out], HE⟩
    · have hkn : k = n := by omega
      subst hkn
      obtain ⟨⟨a1, a2⟩, ⟨b1, b2⟩, d0, hAe⟩ : ∃ (a b : Int × Int) (d : Int), farAll s a0 k = (a, b, d) := ⟨_, _, _, rfl⟩
      have HAE := Lib.hid hAe
      have hd0 : (farAll s a0 k).2.2 = d0 := by rw [hAe]
      have HT : Hid (Two w1 wo w1.heap.size (w1.heap.size + 1) (a1, a2) (b1, b2)) := Lib.hid (by have := hF.out.two; rw [hAe] at this; exact this)
      have hb := HT.out.below
      obtain ⟨r0, ⟨r1, r2, r3, r4⟩, f1, f2⟩ := HR1.out
      have x1 := (hb.cell (p := ⟨w.heap.size, 0, none⟩) (show w.heap.size < w1.heap.size by omega)).trans r1
      have x2 := (hb.cell (p := ⟨w.heap.size, 1, none⟩) (show w.heap.size < w1.heap.size by omega)).trans r2
      have x3 := (hb.cell (p := ⟨w.heap.size + 1, 0, none⟩) r0).trans r3
      have x4 := (hb.cell (p := ⟨w.heap.size + 1, 1, none⟩) r0).trans r4
      have g1 := (hb.frozen (p := ⟨w.heap.size, 0, none⟩) (show w.heap.size < w1.heap.size by omega)).trans (f1 0)
      have g2 := (hb.frozen (p := ⟨w.heap.size, 1, none⟩) (show w.heap.size < w1.heap.size by omega)).trans (f1 1)
      have g3 := (hb.frozen (p := ⟨w.heap.size + 1, 0, none⟩) r0).trans (f2 0)
      have g4 := (hb.frozen (p := ⟨w.heap.size + 1, 1, none⟩) r0).trans (f2 1)
      have zr1 : w.heap.size + 1 < wo.heap.size := by omega
      have zr0 : w.heap.size < wo.heap.size := by omega
      have n1 : w1.heap.size ≠ w.heap.size := by omega
      have n2 : w1.heap.size ≠ w.heap.size + 1 := by omega
      have n3 : w1.heap.size + 1 ≠ w.heap.size := by omega
      have n5 := Ne.symm n1
      have n6 := Ne.symm n2
      have n7 := Ne.symm n3
      have t1 := HT.out.g0
      have t2 := HT.out.g1
      have t3 := HT.out.h0
      have t4 := HT.out.h1
      simp only at t1 t2 t3 t4
      have B3 := B1.trans (hb.mono B1.size)
      clear r0 r1 r2 r3 r4 f1 f2 hb hF hAe HOK HRO HPG HR1 B1 zs HB2 HT
      rw [hd0]
      clear hd0
      go_wp2_with fail
      go_region
      all_goals
        go_wp2_with fail
        refine bodyPost_ret (v := .tuple #[.agg #[.int .i64 a1, .int .i64 a2], .agg #[.int .i64 b1, .int .i64 b2], .int .i64 d0, .bool true]) (by simp [results, Try.results78, go_sem, zr0, zr1, x1, x2, x3, x4]) rfl ⟨by rw [HAE.out], ?_⟩
        repeat (first | with_reducible assumption | with_reducible exact Below.refl _ _ | with_reducible apply Below.drew | ((with_reducible refine Below.setCell ?_ ?_ _); rotate_left; (first | exact Nat.le_refl _ | omega | (simp <;> omega))) | ((with_reducible refine Below.alloc ?_ ?_ _); rotate_left; (first | omega | (simp <;> omega))))
end Go.Proofs.Ytheddoinnakneaa
/- plain: of several pairs of points that are farthest apart the first one, sought in any order or in order -/
namespace Go.Proofs.Ytheddoinnakneaa
open Go.ChangeShapes Go.WideShapes Go.ChangeAt Go.RowKit Go.Joins
set_option linter.unusedVariables false
set_option linter.unusedSimpArgs false
set_option maxRecDepth 4000
instance (a b : Int × Int) : Decidable (lxP a b) := by unfold lxP; infer_instance
def pbP (p q p' q' : Int × Int) : Prop := lxP p p' ∨ (p = p' ∧ lxP q q')
instance (p q p' q' : Int × Int) : Decidable (pbP p q p' q') := by unfold pbP; infer_instance
def wfStep (p : Int × Int) (a : Fa3) (q : Int × Int) : Fa3 :=
  if lxP p q ∧ a.2.2 ≤ MH.sq p q ∧ (a.2.2 < MH.sq p q ∨ pbP p q a.1 a.2.1) then (p, q, MH.sq p q) else a
def InvF (P : Int × Int → Int × Int → Prop) (a : Fa3) : Prop :=
  (a = ((0, 0), (0, 0), 0) ∧ ∀ p q, P p q → ¬ lxP p q) ∨ (P a.1 a.2.1 ∧ lxP a.1 a.2.1 ∧ a.2.2 = MH.sq a.1 a.2.1 ∧ ∀ p q, P p q → lxP p q → MH.sq p q < a.2.2 ∨ (MH.sq p q = a.2.2 ∧ ¬ pbP p q a.1 a.2.1))
theorem lxP_ne {p q : Int × Int} (h : lxP p q) : p ≠ q := by rintro rfl; unfold lxP at h; omega
theorem lxP_tr {p q r : Int × Int} (h : lxP p q) (h' : lxP q r) : lxP p r := by unfold lxP at *; omega
theorem lxP_ir {p : Int × Int} : ¬ lxP p p := by unfold lxP; omega
theorem lxP_tot {p q : Int × Int} (h : ¬ lxP p q) (h' : ¬ lxP q p) : p = q := by unfold lxP at *; exact Prod.ext (by omega) (by omega)
theorem pbP_ir {p q : Int × Int} : ¬ pbP p q p q := by
  rintro (h | ⟨_, h⟩) <;> exact lxP_ir h
theorem pbP_as {p q p' q' : Int × Int} (h : pbP p q p' q') : ¬ pbP p' q' p q := by
  rintro (h2 | ⟨e2, h2⟩) <;> rcases h with h1 | ⟨e1, h1⟩
  · exact lxP_ir (lxP_tr h1 h2)
  · subst e1; exact lxP_ir h2
  · subst e2; exact lxP_ir h1
  · exact lxP_ir (lxP_tr h1 h2)
theorem pbP_tot {p q p' q' : Int × Int} (h : ¬ pbP p q p' q') (h' : ¬ pbP p' q' p q) : p = p' ∧ q = q' := by
  unfold pbP at *
  have e : p = p' := lxP_tot (fun x => h (Or.inl x)) (fun x => h' (Or.inl x))
  subst e
  exact ⟨rfl, lxP_tot (fun x => h (Or.inr ⟨rfl, x⟩)) (fun x => h' (Or.inr ⟨rfl, x⟩))⟩
theorem pbP_tr {p q p' q' p'' q'' : Int × Int} (h : ¬ pbP p q p' q') (h' : pbP p'' q'' p' q') : ¬ pbP p q p'' q'' := by
  intro g
  apply h
  rcases g with g | ⟨e, g⟩ <;> rcases h' with h1 | ⟨e1, h1⟩
  · exact Or.inl (lxP_tr g h1)
  · subst e1; exact Or.inl g
  · subst e; exact Or.inl h1
  · subst e; subst e1; exact Or.inr ⟨rfl, lxP_tr g h1⟩
theorem inv_wf {P P' : Int × Int → Int × Int → Prop} {a : Fa3} {p q : Int × Int} (h : InvF P a) (hP : ∀ x y, P' x y ↔ P x y ∨ (x = p ∧ y = q)) : InvF P' (wfStep p a q) := by
  obtain ⟨u, v, n⟩ := a
  unfold wfStep
  simp only
  split
  · rename_i hc
    obtain ⟨c1, c2, c3⟩ := hc
    right
    refine ⟨(hP _ _).2 (Or.inr ⟨rfl, rfl⟩), c1, rfl, fun x y hxy hl => ?_⟩
    simp only
    rcases (hP x y).1 hxy with hp | ⟨rfl, rfl⟩
    · rcases h with ⟨h0, h1⟩ | ⟨h0, h1, h2, h3⟩
      · exact absurd hl (h1 _ _ hp)
      · simp only at h2 h3
        rcases h3 x y hp hl with g | ⟨g1, g2⟩
        · left; omega
        · rcases c3 with c3 | c3
          · left; omega
          · rcases Int.lt_or_eq_of_le c2 with c4 | c4
            · left; omega
            · right; exact ⟨by omega, pbP_tr g2 c3⟩
    · right; exact ⟨rfl, pbP_ir⟩
  · rename_i hc
    rcases h with ⟨h0, h1⟩ | ⟨h0, h1, h2, h3⟩
    · left
      refine ⟨h0, fun x y hxy hl => ?_⟩
      rcases (hP x y).1 hxy with hp | ⟨rfl, rfl⟩
      · exact h1 _ _ hp hl
      · injection h0 with e1 e2
        injection e2 with e2 e3
        have := sq_pos (lxP_ne hl)
        exact hc ⟨hl, by omega, Or.inl (by omega)⟩
    · right
      simp only at h0 h1 h2 h3 ⊢
      refine ⟨(hP _ _).2 (Or.inl h0), h1, h2, fun x y hxy hl => ?_⟩
      rcases (hP x y).1 hxy with hp | ⟨rfl, rfl⟩
      · exact h3 _ _ hp hl
      · rcases Int.lt_trichotomy (MH.sq x y) n with g | g | g
        · left; exact g
        · right; exact ⟨g, fun hb => hc ⟨hl, by omega, Or.inr hb⟩⟩
        · exact absurd ⟨hl, by omega, Or.inl g⟩ hc
theorem inv_far {P P' : Int × Int → Int × Int → Prop} {a : Fa3} {p q : Int × Int} (h : InvF P a) (hP : ∀ x y, P' x y ↔ P x y ∨ (x = p ∧ y = q)) (hl : lxP p q) (hb : ∀ x y, P x y → pbP x y p q) : InvF P' (farStep p a q) := by
  obtain ⟨u, v, n⟩ := a
  unfold farStep
  simp only
  have hs : 0 < MH.sq q p := sq_pos (fun e => lxP_ne hl e.symm)
  split
  · rename_i hc
    right
    refine ⟨(hP _ _).2 (Or.inr ⟨rfl, rfl⟩), hl, sq_comm _ _, fun x y hxy hl2 => ?_⟩
    simp only
    rcases (hP x y).1 hxy with hp | ⟨rfl, rfl⟩
    · rcases h with ⟨h0, h1⟩ | ⟨h0, h1, h2, h3⟩
      · exact absurd hl2 (h1 _ _ hp)
      · simp only at h2 h3
        rcases h3 x y hp hl2 with g | ⟨g1, g2⟩ <;> left <;> omega
    · right; exact ⟨sq_comm _ _, pbP_ir⟩
  · rename_i hc
    rcases h with ⟨h0, h1⟩ | ⟨h0, h1, h2, h3⟩
    · injection h0 with e1 e2
      injection e2 with e2 e3
      omega
    · right
      simp only at h0 h1 h2 h3 ⊢
      refine ⟨(hP _ _).2 (Or.inl h0), h1, h2, fun x y hxy hl2 => ?_⟩
      rcases (hP x y).1 hxy with hp | ⟨rfl, rfl⟩
      · exact h3 _ _ hp hl2
      · rw [sq_comm]
        rcases Int.lt_or_eq_of_le (Int.not_lt.1 hc) with g | g
        · left; exact g
        · right; exact ⟨g, pbP_as (hb _ _ h0)⟩
theorem inv_same {P : Int × Int → Int × Int → Prop} {a b : Fa3} (ha : InvF P a) (hb : InvF P b) : a = b := by
  obtain ⟨u, v, n⟩ := a
  obtain ⟨u', v', n'⟩ := b
  rcases ha with ⟨h0, h1⟩ | ⟨h0, h1, h2, h3⟩ <;> rcases hb with ⟨g0, g1⟩ | ⟨g0, g1, g2, g3⟩
  · rw [h0, g0]
  · exact absurd g1 (h1 _ _ g0)
  · exact absurd h1 (g1 _ _ h0)
  · simp only at *
    have e1 := h3 _ _ g0 g1
    have e2 := g3 _ _ h0 h1
    have : n = n' ∧ ¬ pbP u' v' u v ∧ ¬ pbP u v u' v' := by
      rcases e1 with e1 | ⟨e1, f1⟩ <;> rcases e2 with e2 | ⟨e2, f2⟩
      · omega
      · omega
      · omega
      · exact ⟨by omega, f1, f2⟩
    obtain ⟨r1, r2, r3⟩ := this
    obtain ⟨r4, r5⟩ := pbP_tot r2 r3
    rw [r1, r4, r5]

def wfRow (l : List (Int × Int)) (p : Int × Int) (a : Fa3) : Nat → Fa3
  | 0 => a
  | m + 1 => wfStep p (wfRow l p a m) (pt l m)
def wfAll (l : List (Int × Int)) (a : Fa3) : Nat → Fa3
  | 0 => a
  | k + 1 => wfRow l (pt l k) (wfAll l a k) l.length
theorem inv_more {P Q : Int × Int → Int × Int → Prop} {a : Fa3} (h : InvF P a) (hP : ∀ x y, Q x y ↔ P x y) : InvF Q a := by
  have : P = Q := by funext x y; exact propext (hP x y).symm
  rw [← this]; exact h
theorem wfrow_inv {l : List (Int × Int)} {P : Int × Int → Int × Int → Prop} {a : Fa3} {p : Int × Int} (h : InvF P a) : ∀ m, InvF (fun x y => P x y ∨ (x = p ∧ ∃ j, j < m ∧ y = pt l j)) (wfRow l p a m)
  | 0 => inv_more h (fun x y => by simp)
  | m + 1 => inv_wf (wfrow_inv h m) (fun x y => by
      constructor
      · rintro (g | ⟨g1, j, g2, g3⟩)
        · exact Or.inl (Or.inl g)
        · rcases Nat.lt_or_ge j m with g4 | g4
          · exact Or.inl (Or.inr ⟨g1, j, g4, g3⟩)
          · exact Or.inr ⟨g1, by rw [g3, show j = m by omega]⟩
      · rintro ((g | ⟨g1, j, g2, g3⟩) | ⟨g1, g2⟩)
        · exact Or.inl g
        · exact Or.inr ⟨g1, j, by omega, g3⟩
        · exact Or.inr ⟨g1, m, by omega, g2⟩)
theorem wfall_inv {l : List (Int × Int)} : ∀ k, InvF (fun x y => ∃ i, i < k ∧ x = pt l i ∧ ∃ j, j < l.length ∧ y = pt l j) (wfAll l ((0, 0), (0, 0), 0) k)
  | 0 => Or.inl ⟨rfl, by simp⟩
  | k + 1 => inv_more (wfrow_inv (wfall_inv k) l.length) (fun x y => by
      constructor
      · rintro ⟨i, h1, h2, h3⟩
        rcases Nat.lt_or_ge i k with g4 | g4
        · exact Or.inl ⟨i, g4, h2, h3⟩
        · exact Or.inr ⟨by rw [h2, show i = k by omega], h3⟩
      · rintro (⟨i, h1, h2, h3⟩ | ⟨h1, h2⟩)
        · exact ⟨i, by omega, h2, h3⟩
        · exact ⟨k, by omega, h1, h2⟩)
theorem pt_lt {s : List (Int × Int)} (hs : s.Pairwise lxP) {i j : Nat} (h : i < j) (hj : j < s.length) : lxP (pt s i) (pt s j) := by
  have := (List.pairwise_iff_getElem.1 hs) i j (by omega) hj h
  have e1 := pt_get (l := s) (i := i) (by omega)
  have e2 := pt_get (l := s) (i := j) hj
  rw [List.getElem?_eq_getElem (by omega)] at e1 e2
  injection e1 with e1
  injection e2 with e2
  rw [e1, e2] at this
  exact this
theorem farrow_inv {s : List (Int × Int)} (hs : s.Pairwise lxP) {P : Int × Int → Int × Int → Prop} {a : Fa3} {i : Nat} (hi : i < s.length) (h : InvF P a) (hb : ∀ x y, P x y → ∃ k, k < i ∧ x = pt s k) : ∀ m, i + 1 + m ≤ s.length → InvF (fun x y => P x y ∨ (x = pt s i ∧ ∃ j, j < m ∧ y = pt s (i + 1 + j))) (farRow s i a m)
  | 0, _ => inv_more h (fun x y => by simp)
  | m + 1, hm => inv_far (farrow_inv hs hi h hb m (by omega)) (fun x y => by
      constructor
      · rintro (g | ⟨g1, j, g2, g3⟩)
        · exact Or.inl (Or.inl g)
        · rcases Nat.lt_or_ge j m with g4 | g4
          · exact Or.inl (Or.inr ⟨g1, j, g4, g3⟩)
          · exact Or.inr ⟨g1, by rw [g3, show j = m by omega]⟩
      · rintro ((g | ⟨g1, j, g2, g3⟩) | ⟨g1, g2⟩)
        · exact Or.inl g
        · exact Or.inr ⟨g1, j, by omega, g3⟩
        · exact Or.inr ⟨g1, m, by omega, g2⟩) (pt_lt hs (by omega) (by omega)) (fun x y hxy => by
      rcases hxy with g | ⟨g1, j, g2, g3⟩
      · obtain ⟨k, hk, rfl⟩ := hb _ _ g
        exact Or.inl (pt_lt hs hk hi)
      · right
        rw [g1, g3]
        exact ⟨rfl, pt_lt hs (by omega) (by omega)⟩)
theorem farall_inv {s : List (Int × Int)} (hs : s.Pairwise lxP) : ∀ k, k ≤ s.length → InvF (fun x y => ∃ i, i < k ∧ x = pt s i ∧ ∃ j, i < j ∧ j < s.length ∧ y = pt s j) (farAll s ((0, 0), (0, 0), 0) k)
  | 0, _ => Or.inl ⟨rfl, by simp⟩
  | k + 1, hk => inv_more (farrow_inv hs (by omega) (farall_inv hs k (by omega)) (by rintro x y ⟨i, h1, h2, _⟩; exact ⟨i, h1, h2⟩) (s.length - (k + 1)) (by omega)) (fun x y => by
      constructor
      · rintro ⟨i, h1, h2, j, h3, h4, h5⟩
        rcases Nat.lt_or_ge i k with g4 | g4
        · exact Or.inl ⟨i, g4, h2, j, h3, h4, h5⟩
        · have : i = k := by omega
          subst this
          exact Or.inr ⟨h2, j - (i + 1), by omega, by rw [h5]; congr 1; omega⟩
      · rintro (⟨i, h1, h2, j, h3, h4, h5⟩ | ⟨h1, j, h2, h3⟩)
        · exact ⟨i, by omega, h2, j, h3, h4, h5⟩
        · exact ⟨k, by omega, h1, k + 1 + j, by omega, by omega, h3⟩)
theorem inv_lx {P Q : Int × Int → Int × Int → Prop} {a : Fa3} (h : InvF Q a) (hP : ∀ x y, Q x y ↔ P x y ∧ lxP x y) : InvF P a := by
  rcases h with ⟨h0, h1⟩ | ⟨h0, h1, h2, h3⟩
  · exact Or.inl ⟨h0, fun p q hp hl => h1 p q ((hP _ _).2 ⟨hp, hl⟩) hl⟩
  · exact Or.inr ⟨((hP _ _).1 h0).1, h1, h2, fun p q hp hl => h3 p q ((hP _ _).2 ⟨hp, hl⟩) hl⟩
theorem mem_pt {l : List (Int × Int)} {x : Int × Int} (h : x ∈ l) : ∃ i, i < l.length ∧ x = pt l i := by
  obtain ⟨i, hi⟩ := List.mem_iff_getElem?.1 h
  have hl : i < l.length := by
    rcases Nat.lt_or_ge i l.length with g | g
    · exact g
    · rw [List.getElem?_eq_none g] at hi; cases hi
  refine ⟨i, hl, ?_⟩
  rw [pt_get hl] at hi
  injection hi with hi
  exact hi.symm
theorem wf_is {l : List (Int × Int)} (hd : l.Nodup) : wfAll l ((0, 0), (0, 0), 0) l.length = farAll (srt l) ((0, 0), (0, 0), 0) l.length := by
  have hs := srt_sorted hd
  have hl := srt_len l
  have h1 := wfall_inv (l := l) l.length
  have h2 := farall_inv hs l.length (by omega)
  refine inv_same (P := fun x y => x ∈ l ∧ y ∈ l) (inv_more h1 (fun x y => ?_)) (inv_lx h2 (fun x y => ?_))
  · constructor
    · rintro ⟨hx, hy⟩
      obtain ⟨i, hi, rfl⟩ := mem_pt hx
      obtain ⟨j, hj, rfl⟩ := mem_pt hy
      exact ⟨i, hi, rfl, j, hj, rfl⟩
    · rintro ⟨i, hi, rfl, j, hj, rfl⟩
      exact ⟨pt_mem hi, pt_mem hj⟩
  · constructor
    · rintro ⟨i, hi, rfl, j, hj, hj2, rfl⟩
      exact ⟨⟨srt_mem.1 (pt_mem (by omega)), srt_mem.1 (pt_mem hj2)⟩, pt_lt hs hj hj2⟩
    · rintro ⟨⟨hx, hy⟩, hlx⟩
      obtain ⟨i, hi, rfl⟩ := mem_pt (srt_mem.2 hx)
      obtain ⟨j, hj, rfl⟩ := mem_pt (srt_mem.2 hy)
      refine ⟨i, by omega, rfl, j, ?_, hj, rfl⟩
      rcases Nat.lt_trichotomy i j with g | g | g
      · exact g
      · subst g; exact absurd hlx lxP_ir
      · exact absurd (lxP_tr hlx (pt_lt hs g hi)) lxP_ir
end Go.Proofs.Ytheddoinnakneaa
/- contracts: pairs of points in order; the two corners that are farthest apart, the model -/
namespace Go.Proofs.Ytheddoinnakneaa
open Go.ChangeShapes Go.WideShapes Go.ChangeAt Go.RowKit Go.Joins
set_option linter.unusedVariables false
set_option linter.unusedSimpArgs false
set_option maxRecDepth 4000
theorem pt_of_vx {l : List (Int × Int)} {i : Nat} (h : i < l.length) : vx l i = pt l i := by unfold vx pt; rw [Nat.mod_eq_of_lt h]
theorem sqT_any (a1 a2 b1 b2 : Int) (w : World) (ha : isPg (a1, a2) = true) (hb : isPg (b1, b2) = true) :
    Calls Try.prog 79 #[.agg #[.int .i64 a1, .int .i64 a2], .agg #[.int .i64 b1, .int .i64 b2]] w fun e w' => e = .returned (.int .i64 (MH.sq (a1, a2) (b1, b2))) ∧ Below w.heap.size w w' := by
  have h1 : -40 ≤ a1 ∧ a1 ≤ 40 ∧ -40 ≤ a2 ∧ a2 ≤ 40 := by unfold isPg isPegB at ha; simp at ha; omega
  have h2 : -40 ≤ b1 ∧ b1 ≤ 40 ∧ -40 ≤ b2 ∧ b2 ≤ 40 := by unfold isPg isPegB at hb; simp at hb; omega
  clear ha hb
  obtain ⟨x1, x2, x3, x4⟩ := h1
  obtain ⟨x5, x6, x7, x8⟩ := h2
  obtain ⟨p1, p2⟩ := mul_bd (x := a1 - b1) (y := a1 - b1) (m := 80) (n := 80) (by omega) (by omega) (by omega) (by omega)
  obtain ⟨p3, p4⟩ := mul_bd (x := a2 - b2) (y := a2 - b2) (m := 80) (n := 80) (by omega) (by omega) (by omega) (by omega)
  go_enter Try.func79, Try.ntmps79
  go_wp2
  go_ret
  exact ⟨ret_int rfl, (by repeat (first | exact Below.refl _ _ | assumption | apply Below.drew | refine Below.alloc ?_ (by simp <;> omega) _))⟩
set_option maxHeartbeats 4000000 in
theorem mvBefore_any (ga gb ca cb : Nat) (p1 p2 q1 q2 a1 a2 b1 b2 : Int) (w : World) (za : ga < w.heap.size) (zb : gb < w.heap.size)
    (c0 : w.cell? ⟨ga, 0, none⟩ = some (.int .i64 p1)) (c1 : w.cell? ⟨ga, 1, none⟩ = some (.int .i64 p2)) (c2 : w.cell? ⟨ga, 2, none⟩ = some (.int .i64 q1)) (c3 : w.cell? ⟨ga, 3, none⟩ = some (.int .i64 q2))
    (d0 : w.cell? ⟨gb, 0, none⟩ = some (.int .i64 a1)) (d1 : w.cell? ⟨gb, 1, none⟩ = some (.int .i64 a2)) (d2 : w.cell? ⟨gb, 2, none⟩ = some (.int .i64 b1)) (d3 : w.cell? ⟨gb, 3, none⟩ = some (.int .i64 b2)) :
    Calls Try.prog 119 #[.slice (some ⟨ga, 0, none⟩) 2 ca, .slice (some ⟨gb, 0, none⟩) 2 cb] w fun e w' => e = .returned (.bool (decide (pbP (p1, p2) (q1, q2) (a1, a2) (b1, b2)))) ∧ Below w.heap.size w w' := by
  have KL := Lib.hid (fun x1 x2 y1 y2 W => pgLess_lx x1 x2 y1 y2 W)
  have HL : Hid (∀ p q : Int × Int, decide (lxP p q) = lxB p q) := Lib.hid (fun p q => by
    cases h : lxB p q
    · rw [decide_eq_false_iff_not, ← lxB_iff, h]; simp
    · rw [decide_eq_true_eq, ← lxB_iff, h])
  have H1 : Hid ((p1, p2) ≠ (a1, a2) → lxB (p1, p2) (a1, a2) = decide (pbP (p1, p2) (q1, q2) (a1, a2) (b1, b2))) := Lib.hid (fun hne => by
    rw [← HL.out]
    exact decide_eq_decide.2 ⟨Or.inl, fun h => h.resolve_right (fun h2 => hne h2.1)⟩)
  have H2 : Hid ((p1, p2) = (a1, a2) → lxB (q1, q2) (b1, b2) = decide (pbP (p1, p2) (q1, q2) (a1, a2) (b1, b2))) := Lib.hid (fun he => by
    rw [← HL.out]
    exact decide_eq_decide.2 ⟨fun h => Or.inr ⟨he, h⟩, fun h => by
      rcases h with h | h
      · rw [he] at h; exact absurd h lxP_ir
      · exact h.2⟩)
  have H3 : Hid ((p1, p2) = (a1, a2) → (q1, q2) = (b1, b2) → false = decide (pbP (p1, p2) (q1, q2) (a1, a2) (b1, b2))) := Lib.hid (fun he hf => by
    rw [← H2.out he, ← HL.out, hf]
    exact (decide_eq_false lxP_ir).symm)
  clear HL
  by_cases h1 : p1 = a1 ∧ p2 = a2
  · obtain ⟨rfl, rfl⟩ := h1
    have G2 := Lib.hid (H2.out rfl)
    have G3 := Lib.hid (H3.out rfl)
    clear H1 H2 H3
    by_cases h2 : q1 = b1 ∧ q2 = b2
    · obtain ⟨rfl, rfl⟩ := h2
      have G4 := Lib.hid (G3.out rfl)
      clear G2 G3
      go_enter Try.func119, Try.ntmps119
      go_wp2_with fail
      go_loopg [8] 2 (fun g i wr => (g = 2 ∧ i = .int .i64 0 ∨ g = 1 ∧ i = .int .i64 1 ∨ g = 0 ∧ i = .int .i64 2) ∧ Below w.heap.size w wr)
      case atStart => exact ⟨Or.inl ⟨rfl, rfl⟩, Below.refl _ _⟩
      case round =>
        obtain ⟨hc, hB⟩ := hrel
        rename World => wo
        have y0 := ((bcell hB).1 _ 0 za).trans c0
        have y1 := ((bcell hB).1 _ 1 za).trans c1
        have y2 := ((bcell hB).1 _ 2 za).trans c2
        have y3 := ((bcell hB).1 _ 3 za).trans c3
        have z0 := ((bcell hB).1 _ 0 zb).trans d0
        have z1 := ((bcell hB).1 _ 1 zb).trans d1
        have z2 := ((bcell hB).1 _ 2 zb).trans d2
        have z3 := ((bcell hB).1 _ 3 zb).trans d3
        have zz := hB.size
        have za2 := Nat.lt_of_lt_of_le za zz
        have zb2 := Nat.lt_of_lt_of_le zb zz
        rcases hc with ⟨rfl, rfl⟩ | ⟨rfl, rfl⟩ | ⟨rfl, rfl⟩
        · go_wp2_with fail
          go_region
          all_goals
            go_wp2_with fail
            go_roundg 1
            case measure => omega
            case rel => exact ⟨Or.inr (Or.inl ⟨rfl, rfl⟩), by repeat (first | with_reducible assumption | with_reducible exact Below.refl _ _ | with_reducible apply Below.drew | ((with_reducible refine Below.setCell ?_ ?_ _); rotate_left; (first | exact Nat.le_refl _ | omega | (simp <;> omega))) | ((with_reducible refine Below.alloc ?_ ?_ _); rotate_left; (first | omega | (simp <;> omega))))⟩
        · go_wp2_with fail
          go_region
          all_goals
            go_wp2_with fail
            go_roundg 0
            case measure => omega
            case rel => exact ⟨Or.inr (Or.inr ⟨rfl, rfl⟩), by repeat (first | with_reducible assumption | with_reducible exact Below.refl _ _ | with_reducible apply Below.drew | ((with_reducible refine Below.setCell ?_ ?_ _); rotate_left; (first | exact Nat.le_refl _ | omega | (simp <;> omega))) | ((with_reducible refine Below.alloc ?_ ?_ _); rotate_left; (first | omega | (simp <;> omega))))⟩
        · go_wp2_with fail
          go_ret
          exact ⟨ret_bool G4.out, hB⟩
    · clear G3
      by_cases e1 : q1 = b1
      · subst e1
        have e2 : ¬ q2 = b2 := fun h => h2 ⟨rfl, h⟩
        clear h2
        go_enter Try.func119, Try.ntmps119
        go_wp2_with fail
        go_loopg [8] 2 (fun g i wr => (g = 2 ∧ i = .int .i64 0 ∨ g = 1 ∧ i = .int .i64 1) ∧ Below w.heap.size w wr)
        case atStart => exact ⟨Or.inl ⟨rfl, rfl⟩, Below.refl _ _⟩
        case round =>
          obtain ⟨hc, hB⟩ := hrel
          rename World => wo
          have y0 := ((bcell hB).1 _ 0 za).trans c0
          have y1 := ((bcell hB).1 _ 1 za).trans c1
          have y2 := ((bcell hB).1 _ 2 za).trans c2
          have y3 := ((bcell hB).1 _ 3 za).trans c3
          have z0 := ((bcell hB).1 _ 0 zb).trans d0
          have z1 := ((bcell hB).1 _ 1 zb).trans d1
          have z2 := ((bcell hB).1 _ 2 zb).trans d2
          have z3 := ((bcell hB).1 _ 3 zb).trans d3
          have zz := hB.size
          have za2 := Nat.lt_of_lt_of_le za zz
          have zb2 := Nat.lt_of_lt_of_le zb zz
          rcases hc with ⟨rfl, rfl⟩ | ⟨rfl, rfl⟩
          · go_wp2_with fail
            go_region
            all_goals
              go_wp2_with fail
              go_roundg 1
              case measure => omega
              case rel => exact ⟨Or.inr ⟨rfl, rfl⟩, by repeat (first | with_reducible assumption | with_reducible exact Below.refl _ _ | with_reducible apply Below.drew | ((with_reducible refine Below.setCell ?_ ?_ _); rotate_left; (first | exact Nat.le_refl _ | omega | (simp <;> omega))) | ((with_reducible refine Below.alloc ?_ ?_ _); rotate_left; (first | omega | (simp <;> omega))))⟩
          · have K1 := Lib.hid (fun W => KL.out q1 q2 q1 b2 W)
            rw [G2.out] at K1
            have BB := hB
            clear hB
            go_wp2_with fail
            go_region
            all_goals
              go_wp2_with fail
              go_region_with (first
                | (go_at_call 74; go_loud (refine (K1.out _).mono ?_); rintro e wA ⟨rfl, hbA⟩))
              all_goals
                go_wp2_with fail
                go_ret
                exact ⟨rfl, BB.trans ((show Below _ _ _ from (by first | exact hbA | exact (Below.refl _ _).drew.trans hbA | exact (Below.refl _ _).drew.drew.trans hbA)).mono BB.size)⟩
      · clear h2
        go_enter Try.func119, Try.ntmps119
        go_wp2_with fail
        go_loopg [8] 2 (fun g i wr => (g = 2 ∧ i = .int .i64 0 ∨ g = 1 ∧ i = .int .i64 1) ∧ Below w.heap.size w wr)
        case atStart => exact ⟨Or.inl ⟨rfl, rfl⟩, Below.refl _ _⟩
        case round =>
          obtain ⟨hc, hB⟩ := hrel
          rename World => wo
          have y0 := ((bcell hB).1 _ 0 za).trans c0
          have y1 := ((bcell hB).1 _ 1 za).trans c1
          have y2 := ((bcell hB).1 _ 2 za).trans c2
          have y3 := ((bcell hB).1 _ 3 za).trans c3
          have z0 := ((bcell hB).1 _ 0 zb).trans d0
          have z1 := ((bcell hB).1 _ 1 zb).trans d1
          have z2 := ((bcell hB).1 _ 2 zb).trans d2
          have z3 := ((bcell hB).1 _ 3 zb).trans d3
          have zz := hB.size
          have za2 := Nat.lt_of_lt_of_le za zz
          have zb2 := Nat.lt_of_lt_of_le zb zz
          rcases hc with ⟨rfl, rfl⟩ | ⟨rfl, rfl⟩
          · go_wp2_with fail
            go_region
            all_goals
              go_wp2_with fail
              go_roundg 1
              case measure => omega
              case rel => exact ⟨Or.inr ⟨rfl, rfl⟩, by repeat (first | with_reducible assumption | with_reducible exact Below.refl _ _ | with_reducible apply Below.drew | ((with_reducible refine Below.setCell ?_ ?_ _); rotate_left; (first | exact Nat.le_refl _ | omega | (simp <;> omega))) | ((with_reducible refine Below.alloc ?_ ?_ _); rotate_left; (first | omega | (simp <;> omega))))⟩
          · have K1 := Lib.hid (fun W => KL.out q1 q2 b1 b2 W)
            rw [G2.out] at K1
            have BB := hB
            clear hB
            go_wp2_with fail
            go_region
            all_goals
              go_wp2_with fail
              go_region_with (first
                | (go_at_call 74; go_loud (refine (K1.out _).mono ?_); rintro e wA ⟨rfl, hbA⟩))
              all_goals
                go_wp2_with fail
                go_ret
                exact ⟨rfl, BB.trans ((show Below _ _ _ from (by first | exact hbA | exact (Below.refl _ _).drew.trans hbA | exact (Below.refl _ _).drew.drew.trans hbA)).mono BB.size)⟩
  · have G1 := Lib.hid (H1.out (fun h => h1 (by injection h with h h'; exact ⟨h, h'⟩)))
    clear H1 H2 H3
    by_cases e1 : p1 = a1
    · subst e1
      have e2 : ¬ p2 = a2 := fun h => h1 ⟨rfl, h⟩
      clear h1
      go_enter Try.func119, Try.ntmps119
      go_wp2_with fail
      go_loopg [8] 2 (fun g i wr => i = .int .i64 0 ∧ Below w.heap.size w wr)
      case atStart => exact ⟨rfl, Below.refl _ _⟩
      case round =>
        obtain ⟨rfl, hB⟩ := hrel
        rename World => wo
        have y0 := ((bcell hB).1 _ 0 za).trans c0
        have y1 := ((bcell hB).1 _ 1 za).trans c1
        have y2 := ((bcell hB).1 _ 2 za).trans c2
        have y3 := ((bcell hB).1 _ 3 za).trans c3
        have z0 := ((bcell hB).1 _ 0 zb).trans d0
        have z1 := ((bcell hB).1 _ 1 zb).trans d1
        have z2 := ((bcell hB).1 _ 2 zb).trans d2
        have z3 := ((bcell hB).1 _ 3 zb).trans d3
        have zz := hB.size
        have za2 := Nat.lt_of_lt_of_le za zz
        have zb2 := Nat.lt_of_lt_of_le zb zz
        have K1 := Lib.hid (fun W => KL.out p1 p2 p1 a2 W)
        rw [G1.out] at K1
        have BB := hB
        clear hB
        go_wp2_with fail
        go_region
        all_goals
          go_wp2_with fail
          go_region_with (first
            | (go_at_call 74; go_loud (refine (K1.out _).mono ?_); rintro e wA ⟨rfl, hbA⟩))
          all_goals
            go_wp2_with fail
            go_ret
            exact ⟨rfl, BB.trans ((show Below _ _ _ from (by first | exact hbA | exact (Below.refl _ _).drew.trans hbA | exact (Below.refl _ _).drew.drew.trans hbA)).mono BB.size)⟩
    · clear h1
      go_enter Try.func119, Try.ntmps119
      go_wp2_with fail
      go_loopg [8] 2 (fun g i wr => i = .int .i64 0 ∧ Below w.heap.size w wr)
      case atStart => exact ⟨rfl, Below.refl _ _⟩
      case round =>
        obtain ⟨rfl, hB⟩ := hrel
        rename World => wo
        have y0 := ((bcell hB).1 _ 0 za).trans c0
        have y1 := ((bcell hB).1 _ 1 za).trans c1
        have y2 := ((bcell hB).1 _ 2 za).trans c2
        have y3 := ((bcell hB).1 _ 3 za).trans c3
        have z0 := ((bcell hB).1 _ 0 zb).trans d0
        have z1 := ((bcell hB).1 _ 1 zb).trans d1
        have z2 := ((bcell hB).1 _ 2 zb).trans d2
        have z3 := ((bcell hB).1 _ 3 zb).trans d3
        have zz := hB.size
        have za2 := Nat.lt_of_lt_of_le za zz
        have zb2 := Nat.lt_of_lt_of_le zb zz
        have K1 := Lib.hid (fun W => KL.out p1 p2 a1 a2 W)
        rw [G1.out] at K1
        have BB := hB
        clear hB
        go_wp2_with fail
        go_region
        all_goals
          go_wp2_with fail
          go_region_with (first
            | (go_at_call 74; go_loud (refine (K1.out _).mono ?_); rintro e wA ⟨rfl, hbA⟩))
          all_goals
            go_wp2_with fail
            go_ret
            exact ⟨rfl, BB.trans ((show Below _ _ _ from (by first | exact hbA | exact (Below.refl _ _).drew.trans hbA | exact (Below.refl _ _).drew.drew.trans hbA)).mono BB.size)⟩
end Go.Proofs.Ytheddoinnakneaa
/- contract: the two corners that are farthest apart, the model -/
namespace Go.Proofs.Ytheddoinnakneaa
open Go.ChangeShapes Go.WideShapes Go.ChangeAt Go.RowKit Go.Joins
set_option linter.unusedVariables false
set_option linter.unusedSimpArgs false
set_option maxRecDepth 4000
theorem wf_ok {l : List (Int × Int)} {p : Int × Int} {a : Fa3} {q : Int × Int} (hp : isPg p = true) (hq : isPg q = true) (h : FarOk a) : FarOk (wfStep p a q) := by
  unfold wfStep
  split
  · exact ⟨hp, hq, sq_nn _ _, sq_le hp hq⟩
  · exact h
theorem wfrow_ok {l : List (Int × Int)} {p : Int × Int} {a : Fa3} (hl : ∀ i, i < l.length → isPg (pt l i) = true) (hp : isPg p = true) (h : FarOk a) : ∀ m, m ≤ l.length → FarOk (wfRow l p a m)
  | 0, _ => h
  | m + 1, hm => wf_ok (l := l) hp (hl m (by omega)) (wfrow_ok hl hp h m (by omega))
theorem wfall_ok {l : List (Int × Int)} (hl : ∀ i, i < l.length → isPg (pt l i) = true) : ∀ k, k ≤ l.length → FarOk (wfAll l ((0, 0), (0, 0), 0) k)
  | 0, _ => far_zero
  | k + 1, hk => wfrow_ok hl (hl k (by omega)) (wfall_ok hl k (by omega)) _ (Nat.le_refl _)
theorem wf_not {p : Int × Int} {a : Fa3} {q : Int × Int} (h : lxB p q = false) : wfStep p a q = a := by
  unfold wfStep
  rw [if_neg]
  rintro ⟨h1, _⟩
  rw [← lxB_iff, h] at h1
  cases h1
theorem wf_less {p : Int × Int} {a : Fa3} {q : Int × Int} (h : MH.sq p q < a.2.2) : wfStep p a q = a := by
  unfold wfStep
  rw [if_neg]
  rintro ⟨_, h1, _⟩
  omega
theorem wf_more {p : Int × Int} {a : Fa3} {q : Int × Int} (h0 : lxB p q = true) (h : a.2.2 < MH.sq p q) : wfStep p a q = (p, q, MH.sq p q) := by
  unfold wfStep
  rw [if_pos ⟨lxB_iff.1 h0, by omega, Or.inl h⟩]
theorem wf_eq {p : Int × Int} {a : Fa3} {q : Int × Int} (h0 : lxB p q = true) (h : MH.sq p q = a.2.2) (hb : decide (pbP p q a.1 a.2.1) = true) : wfStep p a q = (p, q, MH.sq p q) := by
  unfold wfStep
  rw [if_pos ⟨lxB_iff.1 h0, by omega, Or.inr (of_decide_eq_true hb)⟩]
theorem wf_eqn {p : Int × Int} {a : Fa3} {q : Int × Int} (h : MH.sq p q = a.2.2) (hb : decide (pbP p q a.1 a.2.1) = false) : wfStep p a q = a := by
  unfold wfStep
  rw [if_neg]
  rintro ⟨_, _, h1 | h1⟩
  · omega
  · exact of_decide_eq_false hb h1
set_option maxHeartbeats 8000000 in
theorem wiFar_any (A : Option Addr) (c : Nat) (l : List (Int × Int)) (w : World) (hg : Good l) (hR : Rd w w.heap.size A l) :
    Calls Try.prog 77 #[.slice A l.length c] w fun e w' => e = .returned (.tuple #[.agg #[.int .i64 (wfAll l ((0, 0), (0, 0), 0) l.length).1.1, .int .i64 (wfAll l ((0, 0), (0, 0), 0) l.length).1.2], .agg #[.int .i64 (wfAll l ((0, 0), (0, 0), 0) l.length).2.1.1, .int .i64 (wfAll l ((0, 0), (0, 0), 0) l.length).2.1.2]]) ∧ Below w.heap.size w w' := by
  have hf := hg.few
  obtain ⟨b, off, rfl, hb, HC0⟩ := pts_of (by omega) hR
  have HC : Hid (∀ W, Below w.heap.size w W → ∀ i, i < l.length → W.cell? ⟨b, off + i * 2, none⟩ = some (.int .i64 (pt l i).1) ∧ W.cell? ⟨b, off + i * 2 + 1, none⟩ = some (.int .i64 (pt l i).2)) := Lib.hid (fun W hW i hi => by
    rw [← pt_of_vx hi]; exact HC0.out W hW i hi)
  have hpg : ∀ i, i < l.length → isPg (pt l i) = true := fun i hi => by rw [← pt_of_vx hi]; exact hg.pegs i hi
  have HPG := Lib.hid hpg
  obtain ⟨a0, ha0⟩ : ∃ a0 : Fa3, a0 = ((0, 0), (0, 0), 0) := ⟨_, rfl⟩
  have HA0 := Lib.hid ha0
  have HRO : Hid (∀ k m, k < l.length → m ≤ l.length → FarOk (wfRow l (pt l k) (wfAll l a0 k) m)) := Lib.hid (fun k m hk hm => wfrow_ok hpg (hpg k hk) (by rw [ha0]; exact wfall_ok hpg k (by omega)) m hm)
  have HS : Hid (∀ k, wfAll l a0 (k + 1) = wfRow l (pt l k) (wfAll l a0 k) l.length) := Lib.hid (fun k => rfl)
  have HT : Hid (∀ p a m, wfRow l p a (m + 1) = wfStep p (wfRow l p a m) (pt l m)) := Lib.hid (fun p a m => rfl)
  rw [← ha0]
  clear ha0 hpg hR hg HC0
  generalize hN : l.length = n at *
  obtain ⟨h3, h10⟩ := hf
  clear hN
  go_enter Try.func77, Try.ntmps77
  go_wp2_with fail
  obtain ⟨w1, hw1⟩ : ∃ w1, w1 = (w.alloc (.cells #[.int .i64 0, .int .i64 0] 56)).alloc (.cells #[.int .i64 0, .int .i64 0] 56) := ⟨_, rfl⟩
  have B1 : Below w.heap.size w w1 := by rw [hw1]; exact Below.alloc (Below.alloc (Below.refl _ _) (Nat.le_refl _) _) (by simp) _
  have HR1 : Hid (w.heap.size + 1 < w1.heap.size ∧ (w1.cell? ⟨w.heap.size, 0, none⟩ = some (.int .i64 0) ∧ w1.cell? ⟨w.heap.size, 1, none⟩ = some (.int .i64 0) ∧ w1.cell? ⟨w.heap.size + 1, 0, none⟩ = some (.int .i64 0) ∧ w1.cell? ⟨w.heap.size + 1, 1, none⟩ = some (.int .i64 0)) ∧ (∀ o, w1.frozen? ⟨w.heap.size, o, none⟩ = false) ∧ ∀ o, w1.frozen? ⟨w.heap.size + 1, o, none⟩ = false) := Lib.hid (by
    have f0 : ∀ o, w1.frozen? ⟨w.heap.size, o, none⟩ = false := fun o => by rw [hw1, frozen?_alloc_cells, frozen?_alloc_cells]; simp [World.frozen?]
    have f1 : ∀ o, w1.frozen? ⟨w.heap.size + 1, o, none⟩ = false := fun o => by rw [hw1, frozen?_alloc_cells, frozen?_alloc_cells]; simp [World.frozen?]
    refine ⟨by rw [hw1]; simp, ⟨by rw [hw1]; go_simp, by rw [hw1]; go_simp, by rw [hw1]; go_simp, by rw [hw1]; go_simp⟩, f0, f1⟩)
  have T0 := Lib.hid (two_new (p := (0, 0)) (t := 56) (Below.refl w1.heap.size w1))
  have hsz : w1.heap.size = w.heap.size + 1 + 1 := by rw [hw1]; simp
  rw [← hw1, ← hsz]
  clear hw1
  obtain ⟨ga, hga⟩ : ∃ g, g = w1.heap.size := ⟨_, rfl⟩
  rw [← hga] at T0 ⊢
  obtain ⟨gb, hgb⟩ : ∃ g, g = ga + 1 := ⟨_, rfl⟩
  rw [← hgb] at T0 ⊢
  have T1 : Hid (Two w1 ((w1.alloc (.cells #[.int .i64 0, .int .i64 0] 56)).alloc (.cells #[.int .i64 0, .int .i64 0] 56)) ga gb (wfAll l a0 0).1 (wfAll l a0 0).2.1) := Lib.hid (by
    have := HA0.out; subst this; exact T0.out)
  have hz0 : (0 : Int) = (wfAll l a0 0).2.2 := by have := HA0.out; subst this; rfl
  have HZ0 := Lib.hid hz0
  have hga1 : w1.heap.size ≤ ga := by omega
  have hgb1 : w1.heap.size ≤ gb := by omega
  clear hz0 T0 hsz hga hgb
  go_wp2_with fail
  go_loopg [6, 14] n (fun g f i wr => ∃ k : Nat, k ≤ n ∧ g = n - k ∧ i = .int .i64 k ∧ f = .int .i64 (wfAll l a0 k).2.2 ∧ Hid (Two w1 wr ga gb (wfAll l a0 k).1 (wfAll l a0 k).2.1))
  case atStart => exact ⟨0, Nat.zero_le _, rfl, rfl, by rw [← HZ0.out], T1⟩
  case round =>
    clear T1
    obtain ⟨k, hk, hg, rfl, rfl, hF⟩ := hrel
    rename World => wo
    have HGK := Lib.hid hg
    clear hg
    have hBo := B1.trans (hF.out.below.mono B1.size)
    have hzo := hBo.size
    have hbo : b < wo.heap.size := by omega
    by_cases hlt : k < n
    · obtain ⟨q1, q2⟩ := HC.out wo hBo k hlt
      have hpk := HPG.out k hlt
      obtain ⟨p1, p2, hpe⟩ : ∃ p1 p2, pt l k = (p1, p2) := ⟨_, _, rfl⟩
      have HAN := Lib.hid (HS.out k)
      have HRO2 := Lib.hid (fun m hm => HRO.out k m hlt hm)
      rw [hpe] at q1 q2 hpk HAN HRO2
      have HPK := Lib.hid hpk
      clear hpe hpk
      generalize wfAll l a0 k = A at *
      go_wp2_with fail
      obtain ⟨Wp, hWp⟩ : ∃ Wp, Wp = (wo.alloc (.cells #[.int .i64 p1, .int .i64 p2] 56)) := ⟨_, rfl⟩
      rw [← hWp]
      have yWp0_0 : Wp.cell? ⟨wo.heap.size, 0, none⟩ = some (.int .i64 p1) := by rw [hWp]; go_simp
      have yWp0_1 : Wp.cell? ⟨wo.heap.size, 1, none⟩ = some (.int .i64 p2) := by rw [hWp]; go_simp
      have fWp0 : ∀ o, Wp.frozen? ⟨wo.heap.size, o, none⟩ = false := by intro o; rw [hWp]; (repeat rw [frozen?_alloc_cells]); simp [World.frozen?]
      have zWp0 : wo.heap.size < Wp.heap.size := by rw [hWp]; simp <;> omega
      have BWp : Below wo.heap.size wo Wp := by rw [hWp]; exact (Below.alloc (Below.refl _ _) (by simp <;> omega) _)
      have eWp : Hid (Wp.heap.size = wo.heap.size + 1) := Lib.hid (by rw [hWp]; simp)
      clear hWp
      have TP : Hid (Two w1 Wp ga gb (wfRow l (p1, p2) A 0).1 (wfRow l (p1, p2) A 0).2.1) := Lib.hid (two_below hF.out BWp)
      have hF1 := hF.out.below.size
      have hF2 := hF.out.up1
      have hF3 := hF.out.up2
      clear hF q1 q2 hBo
      obtain ⟨gp, hgp⟩ : ∃ g, g = wo.heap.size := ⟨_, rfl⟩
      rw [← hgp] at yWp0_0 yWp0_1 zWp0 ⊢
      have hgp1 : w1.heap.size ≤ gp := by omega
      have hnap : ga ≠ gp := by omega
      have hnbp : gb ≠ gp := by omega
      clear hF1 hF2 hF3 hgp
      clear fWp0 eWp BWp
      go_wp2_with fail
      go_loopg [6, 20] n (fun g f i wi => ∃ m : Nat, m ≤ n ∧ g = n - m ∧ i = .int .i64 m ∧ f = .int .i64 (wfRow l (p1, p2) A m).2.2 ∧ Hid (Two w1 wi ga gb (wfRow l (p1, p2) A m).1 (wfRow l (p1, p2) A m).2.1) ∧ gp < wi.heap.size ∧ wi.cell? ⟨gp, 0, none⟩ = some (.int .i64 p1) ∧ wi.cell? ⟨gp, 1, none⟩ = some (.int .i64 p2))
      case atStart => exact ⟨0, Nat.zero_le _, rfl, rfl, rfl, TP, zWp0, yWp0_0, yWp0_1⟩
      case round =>
        clear TP yWp0_0 yWp0_1 zWp0
        obtain ⟨m, hm, hg2, rfl, rfl, hTi, hzi, y1, y2⟩ := hrel
        rename World => wi
        have HGM := Lib.hid hg2
        clear hg2
        have hBi := B1.trans (hTi.out.below.mono B1.size)
        have hbi : b < wi.heap.size := by have := hBi.size; omega
        by_cases hlm : m < n
        · obtain ⟨x1, x2⟩ := HC.out wi hBi m hlm
          have hrk := HPG.out m hlm
          have hok := HRO2.out m (by omega)
          have HST := Lib.hid (HT.out (p1, p2) A m)
          obtain ⟨r1, r2, hre⟩ : ∃ r1 r2, pt l m = (r1, r2) := ⟨_, _, rfl⟩
          rw [hre] at x1 x2 hrk HST
          clear hre
          obtain ⟨⟨a1, a2⟩, ⟨b1, b2⟩, d0, hAe⟩ : ∃ (a b : Int × Int) (d : Int), wfRow l (p1, p2) A m = (a, b, d) := ⟨_, _, _, rfl⟩
          rw [hAe] at HST hTi hok ⊢
          clear hAe
          have KS := Lib.hid (fun W => sqT_any p1 p2 r1 r2 W HPK.out hrk)
          have KL := Lib.hid (fun W => pgLess_lx p1 p2 r1 r2 W)
          have W1 := Lib.hid (fun h => wf_not (p := (p1, p2)) (a := ((a1, a2), (b1, b2), d0)) (q := (r1, r2)) h)
          have W2 := Lib.hid (fun h => wf_less (p := (p1, p2)) (a := ((a1, a2), (b1, b2), d0)) (q := (r1, r2)) h)
          have W3 := Lib.hid (fun h0 h => wf_more (p := (p1, p2)) (a := ((a1, a2), (b1, b2), d0)) (q := (r1, r2)) h0 h)
          have W4 := Lib.hid (fun h0 h hb => wf_eq (p := (p1, p2)) (a := ((a1, a2), (b1, b2), d0)) (q := (r1, r2)) h0 h hb)
          have W5 := Lib.hid (fun h hb => wf_eqn (p := (p1, p2)) (a := ((a1, a2), (b1, b2), d0)) (q := (r1, r2)) h hb)
          have H0 := Lib.hid hTi.out.below
          clear hok hrk
          generalize MH.sq (p1, p2) (r1, r2) = d1 at *
          generalize hlx : lxB (p1, p2) (r1, r2) = lx at *
          clear hlx
          go_wp2_with fail
          obtain ⟨Wq, hWq⟩ : ∃ Wq, Wq = (wi.alloc (.cells #[.int .i64 r1, .int .i64 r2] 56)) := ⟨_, rfl⟩
          rw [← hWq]
          have yWq0_0 : Wq.cell? ⟨wi.heap.size, 0, none⟩ = some (.int .i64 r1) := by rw [hWq]; go_simp
          have yWq0_1 : Wq.cell? ⟨wi.heap.size, 1, none⟩ = some (.int .i64 r2) := by rw [hWq]; go_simp
          have fWq0 : ∀ o, Wq.frozen? ⟨wi.heap.size, o, none⟩ = false := by intro o; rw [hWq]; (repeat rw [frozen?_alloc_cells]); simp [World.frozen?]
          have zWq0 : wi.heap.size < Wq.heap.size := by rw [hWq]; simp <;> omega
          have BWq : Below wi.heap.size wi Wq := by rw [hWq]; exact (Below.alloc (Below.refl _ _) (by simp <;> omega) _)
          have eWq : Hid (Wq.heap.size = wi.heap.size + 1) := Lib.hid (by rw [hWq]; simp)
          clear hWq
          have TQ := Lib.hid (two_below hTi.out BWq)
          have u1 := ((bcell BWq).1 _ 0 hzi).trans y1
          have u2 := ((bcell BWq).1 _ 1 hzi).trans y2
          have hzq := Nat.lt_of_lt_of_le hzi BWq.size
          obtain ⟨gq, hgq⟩ : ∃ g, g = wi.heap.size := ⟨_, rfl⟩
          rw [← hgq] at yWq0_0 yWq0_1 zWq0 ⊢
          have hgq1 : w1.heap.size ≤ gq := by have := hTi.out.below.size; omega
          have hnaq : ga ≠ gq := by have := hTi.out.up1; omega
          have hnbq : gb ≠ gq := by have := hTi.out.up2; omega
          have hpq : gp ≠ gq := by omega
          clear hgq
          clear hTi x1 x2 y1 y2 hBi fWq0 eWq BWq hzi
          go_wp2_with fail
          refine (KS.out _).mono ?_; rintro e w4 ⟨rfl, hb4⟩
          have T4 := Lib.hid (two_below TQ.out hb4)
          have v1 := ((bcell hb4).1 _ 0 hzq).trans u1
          have v2 := ((bcell hb4).1 _ 1 hzq).trans u2
          have v3 := ((bcell hb4).1 _ 0 zWq0).trans yWq0_0
          have v4 := ((bcell hb4).1 _ 1 zWq0).trans yWq0_1
          have z4 := Nat.lt_of_lt_of_le hzq hb4.size
          have z5 := Nat.lt_of_lt_of_le zWq0 hb4.size
          clear TQ u1 u2 yWq0_0 yWq0_1 zWq0 hzq hb4 KS
          go_wp2_with fail
          refine (KL.out _).mono ?_; rintro e w5 ⟨rfl, hb5⟩
          have T5 := Lib.hid (two_below T4.out hb5)
          have u1 := ((bcell hb5).1 _ 0 z4).trans v1
          have u2 := ((bcell hb5).1 _ 1 z4).trans v2
          have u3 := ((bcell hb5).1 _ 0 z5).trans v3
          have u4' := ((bcell hb5).1 _ 1 z5).trans v4
          have y4 := Nat.lt_of_lt_of_le z4 hb5.size
          have y5 := Nat.lt_of_lt_of_le z5 hb5.size
          clear T4 v1 v2 v3 v4 z4 z5 hb5 KL
          cases lx
          · have HN := Lib.hid (W1.out rfl)
            clear W1 W2 W3 W4 W5
            go_wp2_with fail
            go_roundg (n - (m + 1))
            case measure => have := HGM.out; omega
            case rel => exact ⟨m + 1, by omega, rfl, by go_num, by rw [HST.out, HN.out], Lib.hid (by rw [HST.out, HN.out]; exact T5.out), y4, u1, u2⟩
          · rcases Int.lt_trichotomy d1 d0 with hd | hd | hd
            · have HN := Lib.hid (W2.out hd)
              clear W1 W2 W3 W4 W5
              go_wp2_with fail
              go_roundg (n - (m + 1))
              case measure => have := HGM.out; omega
              case rel => exact ⟨m + 1, by omega, rfl, by go_num, by rw [HST.out, HN.out], Lib.hid (by rw [HST.out, HN.out]; exact T5.out), y4, u1, u2⟩
            · subst hd
              have HN1 := Lib.hid (fun hb => W4.out rfl rfl hb)
              have HN2 := Lib.hid (fun hb => W5.out rfl hb)
              have g0 := T5.out.g0
              have g1 := T5.out.g1
              have g2 := T5.out.h0
              have g3 := T5.out.h1
              have za := T5.out.up1
              have zb := T5.out.up2
              simp only at g0 g1 g2 g3
              have hnd : ¬ d1 < d1 := by omega
              clear W1 W2 W3 W4 W5
              go_wp2_with fail
              obtain ⟨W6, hW6⟩ : ∃ W6, W6 = (w5.alloc (.cells #[.int .i64 p1, .int .i64 p2, .int .i64 r1, .int .i64 r2] 56)).alloc (.cells #[.int .i64 a1, .int .i64 a2, .int .i64 b1, .int .i64 b2] 56) := ⟨_, rfl⟩
              have B6 : Below w5.heap.size w5 W6 := by rw [hW6]; exact Below.alloc (Below.alloc (Below.refl _ _) (Nat.le_refl _) _) (by simp) _
              have KB := mvBefore_any w5.heap.size (w5.heap.size + 1) 2 2 p1 p2 r1 r2 a1 a2 b1 b2 W6 (by rw [hW6]; simp; omega) (by rw [hW6]; simp) (by rw [hW6]; go_simp) (by rw [hW6]; go_simp) (by rw [hW6]; go_simp) (by rw [hW6]; go_simp) (by rw [hW6]; go_simp) (by rw [hW6]; go_simp) (by rw [hW6]; go_simp) (by rw [hW6]; go_simp)
              rw [← hW6]
              clear hW6
              cases hpb : decide (pbP (p1, p2) (r1, r2) (a1, a2) (b1, b2))
              · have HN := Lib.hid (HN2.out hpb)
                rw [hpb] at KB
                clear HN1 HN2 hpb
                refine KB.mono ?_; rintro e w7 ⟨rfl, hb7⟩
                have B7 := B6.trans (hb7.mono B6.size)
                have T7 := Lib.hid (two_below T5.out B7)
                have v1 := ((bcell B7).1 _ 0 y4).trans u1
                have v2 := ((bcell B7).1 _ 1 y4).trans u2
                have y6 := Nat.lt_of_lt_of_le y4 B7.size
                clear T5 B6 hb7 B7 u1 u2 y4 g0 g1 g2 g3
                go_wp2_with fail
                go_roundg (n - (m + 1))
                case measure => have := HGM.out; omega
                case rel => exact ⟨m + 1, by omega, rfl, by go_num, by rw [HST.out, HN.out], Lib.hid (by rw [HST.out, HN.out]; exact T7.out), y6, v1, v2⟩
              · have HN := Lib.hid (HN1.out hpb)
                rw [hpb] at KB
                clear HN1 HN2 hpb
                refine KB.mono ?_; rintro e w7 ⟨rfl, hb7⟩
                have B7 := B6.trans (hb7.mono B6.size)
                have T7 := Lib.hid (two_below T5.out B7)
                have v1 := ((bcell B7).1 _ 0 y4).trans u1
                have v2 := ((bcell B7).1 _ 1 y4).trans u2
                have v3 := ((bcell B7).1 _ 0 y5).trans u3
                have v4 := ((bcell B7).1 _ 1 y5).trans u4'
                have y6 := Nat.lt_of_lt_of_le y4 B7.size
                have y7 := Nat.lt_of_lt_of_le y5 B7.size
                clear B6 hb7 B7 u1 u2 u3 u4' y4 y5 g0 g1 g2 g3 za zb T5
                have T6 := Lib.hid (two_high (two_low T7.out p1 p2) r1 r2)
                have g0 := T7.out.g0
                have g1 := T7.out.g1
                have g2 := T7.out.h0
                have g3 := T7.out.h1
                have f0 := T7.out.gf 0
                have f1 := T7.out.gf 1
                have f2 := T7.out.hf 0
                have f3 := T7.out.hf 1
                have za := T7.out.up1
                have zb := T7.out.up2
                have nab := T7.out.ne
                simp only at g0 g1 g2 g3
                go_wp2_with fail
                go_roundg (n - (m + 1))
                case measure => have := HGM.out; omega
                case rel => exact ⟨m + 1, by omega, rfl, by go_num, by rw [HST.out, HN.out], Lib.hid (by rw [HST.out, HN.out]; exact T6.out), by simpa [World.setCell] using y6, by go_simp, by go_simp⟩
            · have HN := Lib.hid (W3.out rfl hd)
              have T6 := Lib.hid (two_high (two_low T5.out p1 p2) r1 r2)
              have g0 := T5.out.g0
              have g1 := T5.out.g1
              have g2 := T5.out.h0
              have g3 := T5.out.h1
              have f0 := T5.out.gf 0
              have f1 := T5.out.gf 1
              have f2 := T5.out.hf 0
              have f3 := T5.out.hf 1
              have za := T5.out.up1
              have zb := T5.out.up2
              have nab := T5.out.ne
              have hnd : ¬ d1 < d0 := by omega
              simp only at g0 g1 g2 g3
              clear W1 W2 W3 W4 W5
              go_wp2_with fail
              go_roundg (n - (m + 1))
              case measure => have := HGM.out; omega
              case rel => exact ⟨m + 1, by omega, rfl, by go_num, by rw [HST.out, HN.out], Lib.hid (by rw [HST.out, HN.out]; exact T6.out), by simpa [World.setCell] using y4, by go_simp, by go_simp⟩
        · have hme : m = n := by omega
          subst hme
          go_wp2_with fail
          go_roundg (m - (k + 1))
          case measure => have := HGK.out; omega
          case rel => exact ⟨k + 1, by omega, rfl, by go_num, by rw [HAN.out], Lib.hid (by rw [HAN.out]; exact hTi.out)⟩
    · obtain rfl : k = n := by omega
      obtain ⟨⟨a1, a2⟩, ⟨b1, b2⟩, d0, hAe⟩ : ∃ (a b : Int × Int) (d : Int), wfAll l a0 k = (a, b, d) := ⟨_, _, _, rfl⟩
      have HAE := Lib.hid hAe
      rw [hAe] at hF ⊢
      have hb := hF.out.below
      obtain ⟨r0, ⟨r1, r2, r3, r4⟩, f1, f2⟩ := HR1.out
      have x1 := (hb.cell (p := ⟨w.heap.size, 0, none⟩) (show w.heap.size < w1.heap.size by omega)).trans r1
      have x2 := (hb.cell (p := ⟨w.heap.size, 1, none⟩) (show w.heap.size < w1.heap.size by omega)).trans r2
      have x3 := (hb.cell (p := ⟨w.heap.size + 1, 0, none⟩) r0).trans r3
      have x4 := (hb.cell (p := ⟨w.heap.size + 1, 1, none⟩) r0).trans r4
      have g1 := (hb.frozen (p := ⟨w.heap.size, 0, none⟩) (show w.heap.size < w1.heap.size by omega)).trans (f1 0)
      have g2 := (hb.frozen (p := ⟨w.heap.size, 1, none⟩) (show w.heap.size < w1.heap.size by omega)).trans (f1 1)
      have g3 := (hb.frozen (p := ⟨w.heap.size + 1, 0, none⟩) r0).trans (f2 0)
      have g4 := (hb.frozen (p := ⟨w.heap.size + 1, 1, none⟩) r0).trans (f2 1)
      have zr1 : w.heap.size + 1 < wo.heap.size := Nat.lt_of_lt_of_le r0 hb.size
      have zr0 : w.heap.size < wo.heap.size := by omega
      have n0 := r0
      have n1 : ga ≠ w.heap.size := by omega
      have n2 : ga ≠ w.heap.size + 1 := by omega
      have n3 : gb ≠ w.heap.size := by omega
      have n4 : gb ≠ w.heap.size + 1 := by omega
      have n5 := Ne.symm n1
      have n6 := Ne.symm n2
      have n7 := Ne.symm n3
      have n8 := Ne.symm n4
      have t1 := hF.out.g0
      have t2 := hF.out.g1
      have t3 := hF.out.h0
      have t4 := hF.out.h1
      have za := hF.out.up1
      have zb := hF.out.up2
      simp only at t1 t2 t3 t4
      clear r0 r1 r2 r3 r4 f1 f2 hb hF HRO HPG HR1 hAe HA0 HZ0 HS HT
      go_wp2_with fail
      go_region
      all_goals
        go_wp2_with fail
        refine bodyPost_ret (v := .tuple #[.agg #[.int .i64 a1, .int .i64 a2], .agg #[.int .i64 b1, .int .i64 b2]]) (by simp [results, Try.results77, go_sem, zr0, zr1, x1, x2, x3, x4]) rfl ⟨by rw [HAE.out], ?_⟩
        repeat (first | with_reducible assumption | with_reducible exact Below.refl _ _ | with_reducible apply Below.drew | ((with_reducible refine Below.setCell ?_ ?_ _); rotate_left; (first | exact Nat.le_refl _ | omega | (simp <;> omega))) | ((with_reducible refine Below.alloc ?_ ?_ _); rotate_left; (first | omega | (simp <;> omega))))
end Go.Proofs.Ytheddoinnakneaa
/- contracts: FarthestCorners and FarSquare, on both sides -/
namespace Go.Proofs.Ytheddoinnakneaa
open Go.ChangeShapes Go.WideShapes Go.ChangeAt Go.RowKit Go.Joins
set_option linter.unusedVariables false
set_option linter.unusedSimpArgs false
set_option maxRecDepth 4000
theorem dif_of_good {l : List (Int × Int)} (h : Good l) : Dif l := by
  have hf := h.few
  refine dif_list ?_ (fun x hx => ?_) (by omega) (by omega)
  · rw [List.nodup_iff_pairwise_ne, List.pairwise_iff_getElem]
    intro i j hi hj hij e
    apply h.diff j i hij hj
    have e1 := vx_get hi
    have e2 := vx_get hj
    rw [List.getElem?_eq_getElem hi] at e1
    rw [List.getElem?_eq_getElem hj] at e2
    injection e1 with e1
    injection e2 with e2
    rw [← e1, ← e2, e]
  · obtain ⟨i, hi⟩ := List.mem_iff_getElem?.1 hx
    have hl : i < l.length := by
      rcases Nat.lt_or_ge i l.length with g | g
      · exact g
      · rw [List.getElem?_eq_none g] at hi; cases hi
    rw [vx_get hl] at hi
    injection hi with hi
    rw [← hi]
    exact h.pegs i hl
/-- what is told: the two corners, the square of how far they are apart -/
noncomputable def fcV (l : List (Int × Int)) : Fa3 := if goodB l = true then farAll (srt l) ((0, 0), (0, 0), 0) l.length else ((0, 0), (0, 0), 0)
noncomputable def fcS (l : List (Int × Int)) (i : Nat) : Int := if i = 0 then (fcV l).1.1 else if i = 1 then (fcV l).1.2 else if i = 2 then (fcV l).2.1.1 else if i = 3 then (fcV l).2.1.2 else (fcV l).2.2
theorem fcS_f {l : List (Int × Int)} (h : goodB l = false) (i : Nat) : fcS l i = 0 := by
  unfold fcS fcV
  rw [h]
  simp
theorem fc_model {l : List (Int × Int)} (h : Good l) : wfAll l ((0, 0), (0, 0), 0) l.length = fcV l := by
  unfold fcV
  rw [if_pos (goodB_true h)]
  exact wf_is (dif_nodup (dif_of_good h))
theorem fc_prog {l : List (Int × Int)} (h : Good l) : farAll (srt l) ((0, 0), (0, 0), 0) l.length = fcV l := by
  unfold fcV
  rw [if_pos (goodB_true h)]
theorem fcS_t (l : List (Int × Int)) : (fcV l).1.1 = fcS l 0 ∧ (fcV l).1.2 = fcS l 1 ∧ (fcV l).2.1.1 = fcS l 2 ∧ (fcV l).2.1.2 = fcS l 3 ∧ (fcV l).2.2 = fcS l 4 := ⟨rfl, rfl, rfl, rfl, rfl⟩
/-- the numbers are those of two pegs, and of the square of how far they are apart -/
theorem fc_facts {l : List (Int × Int)} (h : Good l) : isPg (fcS l 0, fcS l 1) = true ∧ isPg (fcS l 2, fcS l 3) = true ∧ fcS l 4 = MH.sq (fcS l 0, fcS l 1) (fcS l 2, fcS l 3) := by
  have hs : ∀ x ∈ srt l, isPg x = true := fun x hx => dif_pegs (dif_of_good h) x (srt_mem.1 hx)
  have h1 := far_all_ok (s := srt l) hs far_zero l.length (by rw [srt_len]; exact Nat.le_refl _)
  have h2 := far_all_sq (s := srt l) (a := ((0, 0), (0, 0), 0)) (by unfold FarSq MH.sq; rfl) l.length
  rw [fc_prog h] at h1 h2
  refine ⟨h1.1, h1.2.1, ?_⟩
  unfold FarSq at h2
  rw [sq_comm]
  exact h2
set_option maxHeartbeats 2000000 in
theorem specFarthestCorners_any (A : Option Addr) (c : Nat) (l : List (Int × Int)) (w : World) (hn : l.length ≤ 1048576) (hcap : l.length ≤ c) (hc2 : c ≤ 9223372036854775807) (hR : Rd w w.heap.size A l) :
    Calls Try.prog 45 #[.slice A l.length c] w fun e w' => e = .returned (.tuple #[.agg #[.int .i64 (fcS l 0), .int .i64 (fcS l 1)], .agg #[.int .i64 (fcS l 2), .int .i64 (fcS l 3)], .bool (goodB l)]) ∧ Below w.heap.size w w' := by
  have K := Lib.hid (fun (W : World) (hb : Below w.heap.size w W) => pgGood_any A c l W hn hcap hc2 (rd_more (rd_below hR hb (Nat.le_refl _)) hb.size))
  by_cases hg : Good l
  · have hgt := goodB_true hg
    have KX := Lib.hid (fun W (hb : Below w.heap.size w W) => wiFar_any A c l W hg (rd_more (rd_below hR hb (Nat.le_refl _)) hb.size))
    rw [fc_model hg] at KX
    obtain ⟨e0, e1, e2, e3, e4⟩ := fcS_t l
    rw [e0, e1, e2, e3] at KX
    rw [hgt] at K
    rw [hgt]
    clear hgt hg hR e0 e1 e2 e3 e4
    generalize fcS l 0 = x1 at *
    generalize fcS l 1 = x2 at *
    generalize fcS l 2 = y1 at *
    generalize fcS l 3 = y2 at *
    generalize fcS l 4 = dd at *
    go_enter Try.func45, Try.ntmps45
    go_wp2_with fail
    obtain ⟨W0, hW0⟩ : ∃ W0, W0 = ((w.alloc (.cells #[.int .i64 0, .int .i64 0] 56)).alloc (.cells #[.int .i64 0, .int .i64 0] 56)) := ⟨_, rfl⟩
    rw [← hW0]
    have yW00_0 : W0.cell? ⟨w.heap.size, 0, none⟩ = some (.int .i64 0) := by rw [hW0]; go_simp
    have yW00_1 : W0.cell? ⟨w.heap.size, 1, none⟩ = some (.int .i64 0) := by rw [hW0]; go_simp
    have fW00 : ∀ o, W0.frozen? ⟨w.heap.size, o, none⟩ = false := by intro o; rw [hW0]; (repeat rw [frozen?_alloc_cells]); simp [World.frozen?]
    have zW00 : w.heap.size < W0.heap.size := by rw [hW0]; simp <;> omega
    have yW01_0 : W0.cell? ⟨w.heap.size + 1, 0, none⟩ = some (.int .i64 0) := by rw [hW0]; go_simp
    have yW01_1 : W0.cell? ⟨w.heap.size + 1, 1, none⟩ = some (.int .i64 0) := by rw [hW0]; go_simp
    have fW01 : ∀ o, W0.frozen? ⟨w.heap.size + 1, o, none⟩ = false := by intro o; rw [hW0]; (repeat rw [frozen?_alloc_cells]); simp [World.frozen?]
    have zW01 : w.heap.size + 1 < W0.heap.size := by rw [hW0]; simp <;> omega
    have BW0 : Below w.heap.size w W0 := by rw [hW0]; exact (Below.alloc (Below.alloc (Below.refl _ _) (by simp <;> omega) _) (by simp <;> omega) _)
    have eW0 : Hid (W0.heap.size = w.heap.size + 2) := Lib.hid (by rw [hW0]; simp)
    clear hW0
    refine (K.out _ BW0).mono ?_; rintro e w1 ⟨rfl, hb1⟩
    have B1 := BW0.trans (hb1.mono BW0.size)
    go_wp2_with fail
    refine (KX.out _ B1).mono ?_; rintro e w3 ⟨rfl, hb3⟩
    have B3 := B1.trans (hb3.mono B1.size)
    have k3 := hb1.trans (hb3.mono hb1.size)
    have u0 := (k3.cell (p := ⟨w.heap.size, 0, none⟩) zW00).trans yW00_0
    have u1 := (k3.cell (p := ⟨w.heap.size, 1, none⟩) zW00).trans yW00_1
    have u2 := (k3.cell (p := ⟨w.heap.size + 1, 0, none⟩) zW01).trans yW01_0
    have u3 := (k3.cell (p := ⟨w.heap.size + 1, 1, none⟩) zW01).trans yW01_1
    have g0 := (k3.frozen (p := ⟨w.heap.size, 0, none⟩) zW00).trans (fW00 0)
    have g1 := (k3.frozen (p := ⟨w.heap.size, 1, none⟩) zW00).trans (fW00 1)
    have g2 := (k3.frozen (p := ⟨w.heap.size + 1, 0, none⟩) zW01).trans (fW01 0)
    have g3 := (k3.frozen (p := ⟨w.heap.size + 1, 1, none⟩) zW01).trans (fW01 1)
    have v0 : w.heap.size < w3.heap.size := by have := k3.size; omega
    have v1 : w.heap.size + 1 < w3.heap.size := by have := k3.size; omega
    have zz := B3.size
    clear yW00_0 yW00_1 yW01_0 yW01_1 fW00 fW01 zW00 zW01 BW0 hb1 hb3 k3 K KX B1
    go_wp2_with fail
    go_region
    all_goals
      go_wp2_with fail
      refine bodyPost_ret (v := .tuple #[.agg #[.int .i64 x1, .int .i64 x2], .agg #[.int .i64 y1, .int .i64 y2], .bool true]) (by simp [results, Try.results45, go_sem, v0, v1, u0, u1, u2, u3]) rfl ⟨rfl, ?_⟩
      repeat (first | with_reducible assumption | with_reducible exact Below.refl _ _ | with_reducible apply Below.drew | ((with_reducible refine Below.setCell ?_ ?_ _); rotate_left; (first | exact Nat.le_refl _ | omega | (simp <;> omega))) | ((with_reducible refine Below.alloc ?_ ?_ _); rotate_left; (first | omega | (simp <;> omega))))
  · have hgf := goodB_false hg
    rw [fcS_f hgf, fcS_f hgf, fcS_f hgf, fcS_f hgf, hgf]
    rw [hgf] at K
    clear hgf hg hR
    go_enter Try.func45, Try.ntmps45
    go_wp2_with fail
    obtain ⟨W0, hW0⟩ : ∃ W0, W0 = ((w.alloc (.cells #[.int .i64 0, .int .i64 0] 56)).alloc (.cells #[.int .i64 0, .int .i64 0] 56)) := ⟨_, rfl⟩
    rw [← hW0]
    have yW00_0 : W0.cell? ⟨w.heap.size, 0, none⟩ = some (.int .i64 0) := by rw [hW0]; go_simp
    have yW00_1 : W0.cell? ⟨w.heap.size, 1, none⟩ = some (.int .i64 0) := by rw [hW0]; go_simp
    have fW00 : ∀ o, W0.frozen? ⟨w.heap.size, o, none⟩ = false := by intro o; rw [hW0]; (repeat rw [frozen?_alloc_cells]); simp [World.frozen?]
    have zW00 : w.heap.size < W0.heap.size := by rw [hW0]; simp <;> omega
    have yW01_0 : W0.cell? ⟨w.heap.size + 1, 0, none⟩ = some (.int .i64 0) := by rw [hW0]; go_simp
    have yW01_1 : W0.cell? ⟨w.heap.size + 1, 1, none⟩ = some (.int .i64 0) := by rw [hW0]; go_simp
    have fW01 : ∀ o, W0.frozen? ⟨w.heap.size + 1, o, none⟩ = false := by intro o; rw [hW0]; (repeat rw [frozen?_alloc_cells]); simp [World.frozen?]
    have zW01 : w.heap.size + 1 < W0.heap.size := by rw [hW0]; simp <;> omega
    have BW0 : Below w.heap.size w W0 := by rw [hW0]; exact (Below.alloc (Below.alloc (Below.refl _ _) (by simp <;> omega) _) (by simp <;> omega) _)
    have eW0 : Hid (W0.heap.size = w.heap.size + 2) := Lib.hid (by rw [hW0]; simp)
    clear hW0
    refine (K.out _ BW0).mono ?_; rintro e w1 ⟨rfl, hb1⟩
    have B1 := BW0.trans (hb1.mono BW0.size)
    have u0 := (hb1.cell (p := ⟨w.heap.size, 0, none⟩) zW00).trans yW00_0
    have u1 := (hb1.cell (p := ⟨w.heap.size, 1, none⟩) zW00).trans yW00_1
    have u2 := (hb1.cell (p := ⟨w.heap.size + 1, 0, none⟩) zW01).trans yW01_0
    have u3 := (hb1.cell (p := ⟨w.heap.size + 1, 1, none⟩) zW01).trans yW01_1
    have g0 := (hb1.frozen (p := ⟨w.heap.size, 0, none⟩) zW00).trans (fW00 0)
    have g1 := (hb1.frozen (p := ⟨w.heap.size, 1, none⟩) zW00).trans (fW00 1)
    have g2 := (hb1.frozen (p := ⟨w.heap.size + 1, 0, none⟩) zW01).trans (fW01 0)
    have g3 := (hb1.frozen (p := ⟨w.heap.size + 1, 1, none⟩) zW01).trans (fW01 1)
    have v0 : w.heap.size < w1.heap.size := by have := hb1.size; omega
    have v1 : w.heap.size + 1 < w1.heap.size := by have := hb1.size; omega
    have zz := B1.size
    clear yW00_0 yW00_1 yW01_0 yW01_1 fW00 fW01 zW00 zW01 BW0 hb1 K
    go_wp2_with fail
    refine bodyPost_ret (v := .tuple #[.agg #[.int .i64 0, .int .i64 0], .agg #[.int .i64 0, .int .i64 0], .bool false]) (by simp [results, Try.results45, go_sem, v0, v1, u0, u1, u2, u3]) rfl ⟨rfl, ?_⟩
    repeat (first | with_reducible assumption | with_reducible exact Below.refl _ _ | with_reducible apply Below.drew | ((with_reducible refine Below.setCell ?_ ?_ _); rotate_left; (first | exact Nat.le_refl _ | omega | (simp <;> omega))) | ((with_reducible refine Below.alloc ?_ ?_ _); rotate_left; (first | omega | (simp <;> omega))))
set_option maxHeartbeats 2000000 in
theorem implFarthestCorners_any (A : Option Addr) (c : Nat) (l : List (Int × Int)) (w : World) (hn : l.length ≤ 1048576) (hcap : l.length ≤ c) (hc2 : c ≤ 9223372036854775807) (hR : Rd w w.heap.size A l) :
    Calls Try.prog 46 #[.slice A l.length c] w fun e w' => e = .returned (.tuple #[.agg #[.int .i64 (fcS l 0), .int .i64 (fcS l 1)], .agg #[.int .i64 (fcS l 2), .int .i64 (fcS l 3)], .bool (goodB l)]) ∧ Below w.heap.size w w' := by
  have K := Lib.hid (fun (W : World) (hb : Below w.heap.size w W) => implIsPolygon_any A c l W hn (rd_more (rd_below hR hb (Nat.le_refl _)) hb.size))
  by_cases hg : Good l
  · have hgt := goodB_true hg
    have KX := Lib.hid (fun W (hb : Below w.heap.size w W) => implFarthest_yes A c l W hn hcap hc2 (dif_of_good hg) (by have := hg.few; omega) (rd_more (rd_below hR hb (Nat.le_refl _)) hb.size))
    rw [fc_prog hg] at KX
    obtain ⟨e0, e1, e2, e3, e4⟩ := fcS_t l
    rw [e0, e1, e2, e3, e4] at KX
    rw [hgt] at K
    rw [hgt]
    clear hgt hg hR e0 e1 e2 e3 e4
    generalize fcS l 0 = x1 at *
    generalize fcS l 1 = x2 at *
    generalize fcS l 2 = y1 at *
    generalize fcS l 3 = y2 at *
    generalize fcS l 4 = dd at *
    go_enter Try.func46, Try.ntmps46
    go_wp2_with fail
    obtain ⟨W0, hW0⟩ : ∃ W0, W0 = ((w.alloc (.cells #[.int .i64 0, .int .i64 0] 56)).alloc (.cells #[.int .i64 0, .int .i64 0] 56)) := ⟨_, rfl⟩
    rw [← hW0]
    have yW00_0 : W0.cell? ⟨w.heap.size, 0, none⟩ = some (.int .i64 0) := by rw [hW0]; go_simp
    have yW00_1 : W0.cell? ⟨w.heap.size, 1, none⟩ = some (.int .i64 0) := by rw [hW0]; go_simp
    have fW00 : ∀ o, W0.frozen? ⟨w.heap.size, o, none⟩ = false := by intro o; rw [hW0]; (repeat rw [frozen?_alloc_cells]); simp [World.frozen?]
    have zW00 : w.heap.size < W0.heap.size := by rw [hW0]; simp <;> omega
    have yW01_0 : W0.cell? ⟨w.heap.size + 1, 0, none⟩ = some (.int .i64 0) := by rw [hW0]; go_simp
    have yW01_1 : W0.cell? ⟨w.heap.size + 1, 1, none⟩ = some (.int .i64 0) := by rw [hW0]; go_simp
    have fW01 : ∀ o, W0.frozen? ⟨w.heap.size + 1, o, none⟩ = false := by intro o; rw [hW0]; (repeat rw [frozen?_alloc_cells]); simp [World.frozen?]
    have zW01 : w.heap.size + 1 < W0.heap.size := by rw [hW0]; simp <;> omega
    have BW0 : Below w.heap.size w W0 := by rw [hW0]; exact (Below.alloc (Below.alloc (Below.refl _ _) (by simp <;> omega) _) (by simp <;> omega) _)
    have eW0 : Hid (W0.heap.size = w.heap.size + 2) := Lib.hid (by rw [hW0]; simp)
    clear hW0
    refine (K.out _ BW0).mono ?_; rintro e w1 ⟨rfl, hb1⟩
    have B1 := BW0.trans (hb1.mono BW0.size)
    go_wp2_with fail
    refine (KX.out _ B1).mono ?_; rintro e w3 ⟨rfl, hb3⟩
    have B3 := B1.trans (hb3.mono B1.size)
    have k3 := hb1.trans (hb3.mono hb1.size)
    have u0 := (k3.cell (p := ⟨w.heap.size, 0, none⟩) zW00).trans yW00_0
    have u1 := (k3.cell (p := ⟨w.heap.size, 1, none⟩) zW00).trans yW00_1
    have u2 := (k3.cell (p := ⟨w.heap.size + 1, 0, none⟩) zW01).trans yW01_0
    have u3 := (k3.cell (p := ⟨w.heap.size + 1, 1, none⟩) zW01).trans yW01_1
    have g0 := (k3.frozen (p := ⟨w.heap.size, 0, none⟩) zW00).trans (fW00 0)
    have g1 := (k3.frozen (p := ⟨w.heap.size, 1, none⟩) zW00).trans (fW00 1)
    have g2 := (k3.frozen (p := ⟨w.heap.size + 1, 0, none⟩) zW01).trans (fW01 0)
    have g3 := (k3.frozen (p := ⟨w.heap.size + 1, 1, none⟩) zW01).trans (fW01 1)
    have v0 : w.heap.size < w3.heap.size := by have := k3.size; omega
    have v1 : w.heap.size + 1 < w3.heap.size := by have := k3.size; omega
    have zz := B3.size
    clear yW00_0 yW00_1 yW01_0 yW01_1 fW00 fW01 zW00 zW01 BW0 hb1 hb3 k3 K KX B1
    go_wp2_with fail
    go_region
    all_goals
      go_wp2_with fail
      refine bodyPost_ret (v := .tuple #[.agg #[.int .i64 x1, .int .i64 x2], .agg #[.int .i64 y1, .int .i64 y2], .bool true]) (by simp [results, Try.results46, go_sem, v0, v1, u0, u1, u2, u3]) rfl ⟨rfl, ?_⟩
      repeat (first | with_reducible assumption | with_reducible exact Below.refl _ _ | with_reducible apply Below.drew | ((with_reducible refine Below.setCell ?_ ?_ _); rotate_left; (first | exact Nat.le_refl _ | omega | (simp <;> omega))) | ((with_reducible refine Below.alloc ?_ ?_ _); rotate_left; (first | omega | (simp <;> omega))))
  · have hgf := goodB_false hg
    rw [fcS_f hgf, fcS_f hgf, fcS_f hgf, fcS_f hgf, hgf]
    rw [hgf] at K
    clear hgf hg hR
    go_enter Try.func46, Try.ntmps46
    go_wp2_with fail
    obtain ⟨W0, hW0⟩ : ∃ W0, W0 = ((w.alloc (.cells #[.int .i64 0, .int .i64 0] 56)).alloc (.cells #[.int .i64 0, .int .i64 0] 56)) := ⟨_, rfl⟩
    rw [← hW0]
    have yW00_0 : W0.cell? ⟨w.heap.size, 0, none⟩ = some (.int .i64 0) := by rw [hW0]; go_simp
    have yW00_1 : W0.cell? ⟨w.heap.size, 1, none⟩ = some (.int .i64 0) := by rw [hW0]; go_simp
    have fW00 : ∀ o, W0.frozen? ⟨w.heap.size, o, none⟩ = false := by intro o; rw [hW0]; (repeat rw [frozen?_alloc_cells]); simp [World.frozen?]
    have zW00 : w.heap.size < W0.heap.size := by rw [hW0]; simp <;> omega
    have yW01_0 : W0.cell? ⟨w.heap.size + 1, 0, none⟩ = some (.int .i64 0) := by rw [hW0]; go_simp
    have yW01_1 : W0.cell? ⟨w.heap.size + 1, 1, none⟩ = some (.int .i64 0) := by rw [hW0]; go_simp
    have fW01 : ∀ o, W0.frozen? ⟨w.heap.size + 1, o, none⟩ = false := by intro o; rw [hW0]; (repeat rw [frozen?_alloc_cells]); simp [World.frozen?]
    have zW01 : w.heap.size + 1 < W0.heap.size := by rw [hW0]; simp <;> omega
    have BW0 : Below w.heap.size w W0 := by rw [hW0]; exact (Below.alloc (Below.alloc (Below.refl _ _) (by simp <;> omega) _) (by simp <;> omega) _)
    have eW0 : Hid (W0.heap.size = w.heap.size + 2) := Lib.hid (by rw [hW0]; simp)
    clear hW0
    refine (K.out _ BW0).mono ?_; rintro e w1 ⟨rfl, hb1⟩
    have B1 := BW0.trans (hb1.mono BW0.size)
    have u0 := (hb1.cell (p := ⟨w.heap.size, 0, none⟩) zW00).trans yW00_0
    have u1 := (hb1.cell (p := ⟨w.heap.size, 1, none⟩) zW00).trans yW00_1
    have u2 := (hb1.cell (p := ⟨w.heap.size + 1, 0, none⟩) zW01).trans yW01_0
    have u3 := (hb1.cell (p := ⟨w.heap.size + 1, 1, none⟩) zW01).trans yW01_1
    have g0 := (hb1.frozen (p := ⟨w.heap.size, 0, none⟩) zW00).trans (fW00 0)
    have g1 := (hb1.frozen (p := ⟨w.heap.size, 1, none⟩) zW00).trans (fW00 1)
    have g2 := (hb1.frozen (p := ⟨w.heap.size + 1, 0, none⟩) zW01).trans (fW01 0)
    have g3 := (hb1.frozen (p := ⟨w.heap.size + 1, 1, none⟩) zW01).trans (fW01 1)
    have v0 : w.heap.size < w1.heap.size := by have := hb1.size; omega
    have v1 : w.heap.size + 1 < w1.heap.size := by have := hb1.size; omega
    have zz := B1.size
    clear yW00_0 yW00_1 yW01_0 yW01_1 fW00 fW01 zW00 zW01 BW0 hb1 K
    go_wp2_with fail
    refine bodyPost_ret (v := .tuple #[.agg #[.int .i64 0, .int .i64 0], .agg #[.int .i64 0, .int .i64 0], .bool false]) (by simp [results, Try.results46, go_sem, v0, v1, u0, u1, u2, u3]) rfl ⟨rfl, ?_⟩
    repeat (first | with_reducible assumption | with_reducible exact Below.refl _ _ | with_reducible apply Below.drew | ((with_reducible refine Below.setCell ?_ ?_ _); rotate_left; (first | exact Nat.le_refl _ | omega | (simp <;> omega))) | ((with_reducible refine Below.alloc ?_ ?_ _); rotate_left; (first | omega | (simp <;> omega))))
theorem specFarSquare_any (A : Option Addr) (c : Nat) (l : List (Int × Int)) (w : World) (hn : l.length ≤ 1048576) (hcap : l.length ≤ c) (hc2 : c ≤ 9223372036854775807) (hR : Rd w w.heap.size A l) :
    Calls Try.prog 48 #[.slice A l.length c] w fun e w' => e = .returned (.tuple #[.int .i64 (fcS l 4), .bool (goodB l)]) ∧ Below w.heap.size w w' := by
  have K := Lib.hid (fun (W : World) (hb : Below w.heap.size w W) => pgGood_any A c l W hn hcap hc2 (rd_more (rd_below hR hb (Nat.le_refl _)) hb.size))
  by_cases hg : Good l
  · have hgt := goodB_true hg
    have KX := Lib.hid (fun W (hb : Below w.heap.size w W) => wiFar_any A c l W hg (rd_more (rd_below hR hb (Nat.le_refl _)) hb.size))
    rw [fc_model hg] at KX
    obtain ⟨e0, e1, e2, e3, e4⟩ := fcS_t l
    rw [e0, e1, e2, e3] at KX
    obtain ⟨f0, f1, f2⟩ := fc_facts hg
    have KS := Lib.hid (fun W => sqT_any (fcS l 0) (fcS l 1) (fcS l 2) (fcS l 3) W f0 f1)
    rw [← f2] at KS
    rw [hgt] at K
    rw [hgt]
    clear hgt hg hR e0 e1 e2 e3 e4 f0 f1 f2
    generalize fcS l 0 = x1 at *
    generalize fcS l 1 = x2 at *
    generalize fcS l 2 = y1 at *
    generalize fcS l 3 = y2 at *
    generalize fcS l 4 = dd at *
    go_enter Try.func48, Try.ntmps48
    go_wp2_with fail
    refine (K.out _ (Below.refl _ _)).mono ?_; rintro e w1 ⟨rfl, hb1⟩
    go_wp2_with fail
    refine (KX.out _ hb1).mono ?_; rintro e w3 ⟨rfl, hb3⟩
    have B3 := hb1.trans (hb3.mono hb1.size)
    clear K KX hb1 hb3
    go_wp2_with fail
    obtain ⟨W4, hW4⟩ : ∃ W4, W4 = ((w3.alloc (.cells #[.int .i64 x1, .int .i64 x2] 56)).alloc (.cells #[.int .i64 y1, .int .i64 y2] 56)) := ⟨_, rfl⟩
    rw [← hW4]
    have yW40_0 : W4.cell? ⟨w3.heap.size, 0, none⟩ = some (.int .i64 x1) := by rw [hW4]; go_simp
    have yW40_1 : W4.cell? ⟨w3.heap.size, 1, none⟩ = some (.int .i64 x2) := by rw [hW4]; go_simp
    have fW40 : ∀ o, W4.frozen? ⟨w3.heap.size, o, none⟩ = false := by intro o; rw [hW4]; (repeat rw [frozen?_alloc_cells]); simp [World.frozen?]
    have zW40 : w3.heap.size < W4.heap.size := by rw [hW4]; simp <;> omega
    have yW41_0 : W4.cell? ⟨w3.heap.size + 1, 0, none⟩ = some (.int .i64 y1) := by rw [hW4]; go_simp
    have yW41_1 : W4.cell? ⟨w3.heap.size + 1, 1, none⟩ = some (.int .i64 y2) := by rw [hW4]; go_simp
    have fW41 : ∀ o, W4.frozen? ⟨w3.heap.size + 1, o, none⟩ = false := by intro o; rw [hW4]; (repeat rw [frozen?_alloc_cells]); simp [World.frozen?]
    have zW41 : w3.heap.size + 1 < W4.heap.size := by rw [hW4]; simp <;> omega
    have BW4 : Below w3.heap.size w3 W4 := by rw [hW4]; exact (Below.alloc (Below.alloc (Below.refl _ _) (by simp <;> omega) _) (by simp <;> omega) _)
    have eW4 : Hid (W4.heap.size = w3.heap.size + 2) := Lib.hid (by rw [hW4]; simp)
    clear hW4
    have B4 := B3.trans (BW4.mono B3.size)
    refine (KS.out _).mono ?_; rintro e w5 ⟨rfl, hb5⟩
    go_wp2_with fail
    go_ret2
    exact ⟨rfl, B4.trans (hb5.mono B4.size)⟩
  · have hgf := goodB_false hg
    rw [fcS_f hgf, hgf]
    rw [hgf] at K
    clear hgf hg hR
    go_enter Try.func48, Try.ntmps48
    go_wp2_with fail
    refine (K.out _ (Below.refl _ _)).mono ?_; rintro e w1 ⟨rfl, hb1⟩
    go_wp2_with fail
    go_ret2
    exact ⟨rfl, hb1⟩
theorem fc_square {l : List (Int × Int)} : (fcS l 2 - fcS l 0) * (fcS l 2 - fcS l 0) + (fcS l 3 - fcS l 1) * (fcS l 3 - fcS l 1) = fcS l 4 ∧ (-40 ≤ fcS l 0 ∧ fcS l 0 ≤ 40) ∧ (-40 ≤ fcS l 1 ∧ fcS l 1 ≤ 40) ∧ (-40 ≤ fcS l 2 ∧ fcS l 2 ≤ 40) ∧ (-40 ≤ fcS l 3 ∧ fcS l 3 ≤ 40) := by
  by_cases hg : Good l
  · obtain ⟨f0, f1, f2⟩ := fc_facts hg
    rw [sq_comm] at f2
    obtain ⟨h1, h2⟩ := isPg_bd f0
    obtain ⟨h3, h4⟩ := isPg_bd f1
    exact ⟨f2.symm, h1, h2, h3, h4⟩
  · have h := fcS_f (goodB_false hg)
    rw [h, h, h, h, h]
    decide
theorem implFarSquare_any (A : Option Addr) (c : Nat) (l : List (Int × Int)) (w : World) (hn : l.length ≤ 1048576) (hcap : l.length ≤ c) (hc2 : c ≤ 9223372036854775807) (hR : Rd w w.heap.size A l) :
    Calls Try.prog 49 #[.slice A l.length c] w fun e w' => e = .returned (.tuple #[.int .i64 (fcS l 4), .bool (goodB l)]) ∧ Below w.heap.size w w' := by
  have K := Lib.hid (implFarthestCorners_any A c l w hn hcap hc2 hR)
  obtain ⟨e0, h0, h1, h2, h3⟩ := fc_square (l := l)
  have KM := Lib.hid (fun W => minus_any (fcS l 2) (fcS l 3) (fcS l 0) (fcS l 1) W (by unfold Mid; omega) (by unfold Mid; omega) (by unfold Mid; omega) (by unfold Mid; omega))
  have KS := Lib.hid (fun W => square_any (fcS l 2 - fcS l 0) (fcS l 3 - fcS l 1) W (by omega) (by omega))
  rw [e0] at KS
  clear hR e0 h0 h1 h2 h3
  generalize fcS l 2 - fcS l 0 = d1 at *
  generalize fcS l 3 - fcS l 1 = d2 at *
  generalize fcS l 0 = x1 at *
  generalize fcS l 1 = x2 at *
  generalize fcS l 2 = y1 at *
  generalize fcS l 3 = y2 at *
  generalize fcS l 4 = dd at *
  generalize goodB l = gg at *
  go_enter Try.func49, Try.ntmps49
  go_wp2_with fail
  refine K.out.mono ?_; rintro e w1 ⟨rfl, hb1⟩
  go_wp2_with fail
  obtain ⟨W4, hW4⟩ : ∃ W4, W4 = ((w1.alloc (.cells #[.int .i64 x1, .int .i64 x2] 56)).alloc (.cells #[.int .i64 y1, .int .i64 y2] 56)) := ⟨_, rfl⟩
  rw [← hW4]
  have yW40_0 : W4.cell? ⟨w1.heap.size, 0, none⟩ = some (.int .i64 x1) := by rw [hW4]; go_simp
  have yW40_1 : W4.cell? ⟨w1.heap.size, 1, none⟩ = some (.int .i64 x2) := by rw [hW4]; go_simp
  have fW40 : ∀ o, W4.frozen? ⟨w1.heap.size, o, none⟩ = false := by intro o; rw [hW4]; (repeat rw [frozen?_alloc_cells]); simp [World.frozen?]
  have zW40 : w1.heap.size < W4.heap.size := by rw [hW4]; simp <;> omega
  have yW41_0 : W4.cell? ⟨w1.heap.size + 1, 0, none⟩ = some (.int .i64 y1) := by rw [hW4]; go_simp
  have yW41_1 : W4.cell? ⟨w1.heap.size + 1, 1, none⟩ = some (.int .i64 y2) := by rw [hW4]; go_simp
  have fW41 : ∀ o, W4.frozen? ⟨w1.heap.size + 1, o, none⟩ = false := by intro o; rw [hW4]; (repeat rw [frozen?_alloc_cells]); simp [World.frozen?]
  have zW41 : w1.heap.size + 1 < W4.heap.size := by rw [hW4]; simp <;> omega
  have BW4 : Below w1.heap.size w1 W4 := by rw [hW4]; exact (Below.alloc (Below.alloc (Below.refl _ _) (by simp <;> omega) _) (by simp <;> omega) _)
  have eW4 : Hid (W4.heap.size = w1.heap.size + 2) := Lib.hid (by rw [hW4]; simp)
  clear hW4
  have B4 := hb1.trans (BW4.mono hb1.size)
  refine (KM.out _).mono ?_; rintro e w5 ⟨rfl, hb5⟩
  have B5 := B4.trans (hb5.mono B4.size)
  go_wp2_with fail
  refine (KS.out _).mono ?_; rintro e w6 ⟨rfl, hb6⟩
  have B6 := B5.trans (hb6.mono B5.size)
  go_wp2_with fail
  go_ret2
  exact ⟨rfl, B6⟩
end Go.Proofs.Ytheddoinnakneaa
